/-
  Texts that the claim's last one imports, laid together: part 2 of 3. No condition of its own.
-/
import Derived.Test.YtebincnejcmocaaGreatMSo6
import Derived.Laws.CopyOwn
import Derived.Deep.RegionLaw
import Derived.Test.YtebincnejcmocaaGreatMSo1
import Derived.Test.YtebincnejcmocaaGreatMSo4
import Derived.Test.YtebincnejcmocaaGreatMSo7
import Derived.Shelf.SlSortCmp.WholeK
import Derived.Shelf.Spec.SlicesGrow
import Derived.Test.YtebincnejcmocaaGreatChecked
import Derived.Test.YtebincnejcmocaaGreatMSo3
import Derived.Lib.AppendZerosOnto
import Derived.Shelf.RegionOpenPlain
import Derived.Sort.Grow
import Derived.Test.YtebincnejcmocaaGreatMFs1
/-
  Rows of facts by their ages: three cells each.
-/
namespace Go.Proofs.YtebincnejcmocaaGreat
open Go.RowKit

abbrev AV := Value × Value × Value
def flatA : List AV → List Value
  | [] => []
  | u :: us => u.1 :: u.2.1 :: u.2.2 :: flatA us
theorem flatA_length : ∀ us : List AV, (flatA us).length = us.length * 3
  | [] => rfl
  | u :: us => by simp only [flatA, List.length_cons, flatA_length us]; omega
theorem flatA_append : ∀ us vs : List AV, flatA (us ++ vs) = flatA us ++ flatA vs
  | [], vs => rfl
  | u :: us, vs => by simp only [List.cons_append, flatA, flatA_append us vs]
theorem flatA_at : ∀ (us : List AV) (k : Nat) (h : k < us.length), (flatA us)[k * 3]? = some us[k].1 ∧ (flatA us)[k * 3 + 1]? = some us[k].2.1 ∧ (flatA us)[k * 3 + 2]? = some us[k].2.2
  | u :: us, 0, _ => ⟨rfl, rfl, rfl⟩
  | u :: us, k + 1, h => by
    have ih := flatA_at us k (by simpa using h)
    have e : ∀ r, (flatA (u :: us))[(k + 1) * 3 + r]? = (flatA us)[k * 3 + r]? := fun r => by
      rw [show (k + 1) * 3 + r = (k * 3 + r) + 1 + 1 + 1 by omega]
      rfl
    have e0 := e 0
    rw [Nat.add_zero, Nat.add_zero] at e0
    rw [e0, e 1, e 2]
    exact ih
/-- The ages' cells stand at the head of block g. -/
def AtA (w : World) (g c : Nat) (us : List AV) : Prop :=
  ∃ cur, w.heap[g]? = some (.cells cur 67 (0, 0)) ∧ us.length ≤ c ∧ c ≤ maxLen ∧ cur.size = c * 3 ∧ cur.toList.take (us.length * 3) = flatA us
def RdAges (w : World) (B : Nat) (us : List AV) (ag : List LAge) : Prop := us.length = ag.length ∧ ∀ k (h : k < us.length) (h2 : k < ag.length), RdFacts w B us[k].1 ag[k].1 ∧ RdFacts w B us[k].2.1 ag[k].2.1 ∧ RdFacts w B us[k].2.2 ag[k].2.2
section
variable {w w' : World} {g c lo hi B : Nat} {us : List AV} {ag : List LAge}
theorem AtA.lt (h : AtA w g c us) : g < w.heap.size := by
  obtain ⟨cur, hg, _⟩ := h
  exact Blk.lt hg
theorem AtA.cells (h : AtA w g c us) {k : Nat} (hk : k < us.length) : w.cell? ⟨g, k * 3, none⟩ = some us[k].1 ∧ w.cell? ⟨g, k * 3 + 1, none⟩ = some us[k].2.1 ∧ w.cell? ⟨g, k * 3 + 2, none⟩ = some us[k].2.2 := by
  obtain ⟨a, b, d⟩ := flatA_at us k hk
  obtain ⟨cur, hg, h1, h2, h3, h4⟩ := h
  have key : ∀ j, j < us.length * 3 → w.cell? ⟨g, j, none⟩ = (flatA us)[j]? := fun j hj => by
    rw [Blk.cell hg, ← h4, List.getElem?_take_of_lt hj, Array.getElem?_toList]
  exact ⟨by rw [key _ (by omega), a], by rw [key _ (by omega), b], by rw [key _ (by omega), d]⟩
theorem AtA.frozen (h : AtA w g c us) (j : Nat) : w.frozen? ⟨g, j, none⟩ = false := by
  obtain ⟨cur, hg, _⟩ := h
  exact Blk.frozen hg j
theorem AtA.below (h : AtA w g c us) (hb : Below B w w') (hg : g < B) : AtA w' g c us := by
  obtain ⟨cur, e, r⟩ := h
  exact ⟨cur, (hb.block g hg).trans e, r⟩
theorem AtA.free (h : AtA w g c us) {j : Nat} (hj : j < c * 3) : ∃ x, w.cell? ⟨g, j, none⟩ = some x := by
  obtain ⟨cur, hg, h1, h2, h3, h4⟩ := h
  exact ⟨cur[j]'(by omega), by rw [Blk.cell hg, Array.getElem?_eq_getElem]⟩
theorem AtA.made (w : World) (cs : Array Value) (n : Nat) (hs : cs.size = n * 3) (hm : n ≤ maxLen) : AtA (w.alloc (.cells cs 67)) w.heap.size n [] :=
  ⟨cs, Blk.new _ _ _, Nat.zero_le _, hm, hs, by simp [flatA]⟩
theorem AtA.push (h : AtA w g c us) (hl : us.length < c) (u : AV) :
    AtA (w.setCells g (us.length * 3) [u.1, u.2.1, u.2.2]) g c (us ++ [u]) ∧ Only g (g + 1) w (w.setCells g (us.length * 3) [u.1, u.2.1, u.2.2]) := by
  obtain ⟨cur, hg, h1, h2, h3, h4⟩ := h
  have hfl := flatA_length us
  obtain ⟨cur', g1, g2, g3, g4⟩ := setCells_all g [u.1, u.2.1, u.2.2] (us.length * 3) w cur _ hg (by simp; omega)
  refine ⟨⟨cur', g1, by simp; omega, h2, by omega, ?_⟩, g4⟩
  rw [flatA_append]
  apply List.ext_getElem?
  intro j
  rw [List.length_append, List.length_singleton]
  by_cases hj : j < (us.length + 1) * 3
  · rw [List.getElem?_take_of_lt hj, Array.getElem?_toList, g3 j]
    by_cases hj2 : j < us.length * 3
    · rw [if_neg (by simp; omega), List.getElem?_append_left (by omega), ← h4, List.getElem?_take_of_lt hj2, Array.getElem?_toList]
    · rw [if_pos (by simp; omega), List.getElem?_append_right (by omega), hfl]
      rfl
  · rw [List.getElem?_eq_none (by simp; omega), List.getElem?_eq_none (by simp [flatA, hfl]; omega)]
theorem RdAges.below {B' : Nat} (h : RdAges w B us ag) (hb : Below B' w w') (hB : B ≤ B') : RdAges w' B us ag := ⟨h.1, fun k h1 h2 => by
  obtain ⟨a, b, d⟩ := h.2 k h1 h2
  exact ⟨a.below hb hB, b.below hb hB, d.below hb hB⟩⟩
theorem RdAges.more {B' : Nat} (h : RdAges w B us ag) (hB : B ≤ B') : RdAges w B' us ag := ⟨h.1, fun k h1 h2 => by
  obtain ⟨a, b, d⟩ := h.2 k h1 h2
  exact ⟨a.more hB, b.more hB, d.more hB⟩⟩
theorem RdAges.snoc {u : AV} {a : LAge} (h : RdAges w B us ag) (h1 : RdFacts w B u.1 a.1) (h2 : RdFacts w B u.2.1 a.2.1) (h3 : RdFacts w B u.2.2 a.2.2) : RdAges w B (us ++ [u]) (ag ++ [a]) := by
  refine ⟨by simp [h.1], fun k k1 k2 => ?_⟩
  by_cases e : k < us.length
  · have e' : k < ag.length := by rw [← h.1]; exact e
    rw [List.getElem_append_left e, List.getElem_append_left e']
    exact h.2 k e e'
  · have e2 : k = us.length := by simp at k1; omega
    subst e2
    have l1 := h.1
    have x1 : (us ++ [u])[us.length]'k1 = u := by simp
    have x2 : (ag ++ [a])[us.length]'k2 = a := by simp [l1]
    rw [x1, x2]
    exact ⟨h1, h2, h3⟩
end
theorem Tryz.infoAges : (Tryz.prog.info? 67).map (fun i => (i.zero, i.size, i.bytes)) = some (some (.agg #[.slice none 0 0, .slice none 0 0, .slice none 0 0]), 3, 72) := by kernel_rfl
/-- A middle part of a row of facts. -/
theorem rdX_mid {w : World} {g : Nat} {R : Nat → Value} {X : List FV} {A : Option Addr} {c : Nat} (h : w.ownsRow (g + 1) 52 2 (.slice A X.length c) X.length (flatX X)) (ha : ∀ x ∈ X, ArgOk w g R x) {a b : Nat} (hab : a ≤ b) (hb : b ≤ X.length) :
    RdFacts w w.heap.size (.slice (if c = a then A else A.map (·.add (a * 2))) (b - a) (c - a)) (((factsX X).take b).drop a) := by
  have hl : (((factsX X).take b).drop a).length = b - a := by simp [factsX]; omega
  have hcells := @World.ownsRow.cells w (g + 1) 52 2 _ X.length (flatX X) h
  have hXc : X.length ≤ c := by
    rcases h.2 with ⟨e, e0⟩ | ⟨b', cap, cur, e, _, _, h2, _⟩
    · injection e with _ e2 e3; omega
    · injection e with _ e2 e3; omega
  refine ⟨_, c - a, by rw [hl], by rw [hl]; omega, fun h0 => ?_⟩
  rw [hl] at h0
  rcases h.2 with ⟨e, e0⟩ | ⟨b', cap, cur, e, hb', hg, _⟩
  · omega
  · injection e with e1 _ _
    subst e1
    rw [if_neg (by omega)]
    refine ⟨b', 0 + a * 2, by simp [Addr.add]; (try omega), Blk.lt hg, fun k hk => ?_⟩
    have hkX : a + k < X.length := by rw [hl] at hk; omega
    obtain ⟨c0, c1⟩ := flatX_at X (a + k) hkX
    have d0 := hcells (g := b') rfl ((a + k) * 2) _ c0
    have d1 := hcells (g := b') rfl ((a + k) * 2 + 1) _ c1
    rw [Go.WideShapes.add_plain] at d0 d1
    have e3 : (((factsX X).take b).drop a)[k] = X[a + k].1 := by simp [factsX]
    rw [e3]
    refine ⟨X[a + k].2, ?_, ?_, (ha _ (List.getElem_mem hkX)).1⟩
    · rw [show 0 + a * 2 + k * 2 = 0 + (a + k) * 2 by omega]; exact d0
    · rw [show 0 + a * 2 + k * 2 + 1 = 0 + ((a + k) * 2 + 1) by omega]; exact d1

end Go.Proofs.YtebincnejcmocaaGreat
/-
  slices.Repeat of one entry: its product first.
-/
namespace Go.Proofs.YtebincnejcmocaaGreat
open Go.RowKit

theorem mul64_few (n : Nat) (hn : n ≤ 4) (w : World) : Calls Tryz.prog 88 #[.int .u64 1, .int .u64 (n : Int)] w fun e w' => e = .returned (.tuple #[.int .u64 0, .int .u64 (n : Int)]) ∧ w = w' := by
  have h : n = 0 ∨ n = 1 ∨ n = 2 ∨ n = 3 ∨ n = 4 := by omega
  rcases h with rfl | rfl | rfl | rfl | rfl
  all_goals
    go_enter Tryz.func88, Tryz.ntmps88
    go_wp2_with (fail)
    exact bodyPost_ret (v := .tuple #[.int .u64 0, .int .u64 _]) (by simp [results, Tryz.results88, go_sem]; rfl) rfl ⟨rfl, rfl⟩
theorem mul_few (n : Nat) (hn : n ≤ 4) (w : World) : Calls Tryz.prog 67 #[.int .u64 1, .int .u64 (n : Int)] w fun e w' => e = .returned (.tuple #[.int .u64 0, .int .u64 (n : Int)]) ∧ w = w' := by
  go_enter Tryz.func67, Tryz.ntmps67
  go_wp2_with (go_at_call 88; refine (mul64_few n hn _).mono ?_; rintro e w1 ⟨rfl, rfl⟩)
  exact bodyPost_ret (v := .tuple #[.int .u64 0, .int .u64 (n : Int)]) (by simp [results, Tryz.results67, go_sem]) rfl ⟨rfl, rfl⟩

theorem run_copy_wide {P : Program} (w : World) (dT sT ty elem : TypeId) (b o dLen dCap : Nat) (a : Addr) (sLen sCap sz m : Nat) (cs : List Value)
    (hu : P.underlying dT = some (.slice elem)) (hs : (P.info? elem).map (·.size) = some sz) (hm : m = Nat.min sLen dLen) (hn : cs.length = m * sz)
    (hsrc : ∀ j v, cs[j]? = some v → w.cell? (a.add j) = some v) (hc : ∀ j, j < cs.length → (w.cell? ⟨b, o + j, none⟩).isSome = true) (hf : ∀ j, j < cs.length → w.frozen? ⟨b, o + j, none⟩ = false) (h1 : ∀ v ∈ cs, v.oneCell' = true) :
    (Builtin.copy_ #[dT, sT] ty #[.slice (some ⟨b, o, none⟩) dLen dCap, .slice (some a) sLen sCap]).run P w = .ok (goInt m) (w.setCells b o cs) := by
  have hl := run_loadCells_list (P := P) w a cs hsrc
  have hst := run_storeCells_cells (P := P) b o cs 0 w (by simpa using hc) (by simpa using hf) h1
  cases hq : P.info? elem with
  | none => simp [hq] at hs
  | some i =>
    have hi : i.size = sz := by simpa [hq] using hs
    simp [Builtin.copy_, run_underlying hu, Builtin.lenOf, Builtin.firstCells, sizeOf, typeInfo, hq, hi, ← hm, ← hn, hl, hst]

theorem AtA.pushs {w : World} {g c : Nat} {us : List AV} (h : AtA w g c us) (vs : List AV) (hl : us.length + vs.length ≤ c) :
    AtA (w.setCells g (us.length * 3) (flatA vs)) g c (us ++ vs) ∧ Only g (g + 1) w (w.setCells g (us.length * 3) (flatA vs)) := by
  obtain ⟨cur, hg, h1, h2, h3, h4⟩ := h
  have hfl := flatA_length us
  have hfv := flatA_length vs
  obtain ⟨cur', g1, g2, g3, g4⟩ := setCells_all g (flatA vs) (us.length * 3) w cur _ hg (by omega)
  refine ⟨⟨cur', g1, by simp; omega, h2, by omega, ?_⟩, g4⟩
  rw [flatA_append]
  apply List.ext_getElem?
  intro j
  rw [List.length_append]
  by_cases hj : j < (us.length + vs.length) * 3
  · rw [List.getElem?_take_of_lt hj, Array.getElem?_toList, g3 j]
    by_cases hj2 : j < us.length * 3
    · rw [if_neg (by omega), List.getElem?_append_left (by omega), ← h4, List.getElem?_take_of_lt hj2, Array.getElem?_toList]
    · rw [if_pos (by omega), List.getElem?_append_right (by omega), hfl]
  · rw [List.getElem?_eq_none (by simp; omega), List.getElem?_eq_none (by simp [hfl, hfv]; omega)]

/-- copy of aged facts behind those that stand. -/
theorem wp_copy_ages {o : Oper} {a : Act} {w : World} {K : Act → World → Prop} {Q : Exit → Act → World → Prop} (d s : Operand) (dT sT : TypeId)
    (ho : o.op = .call { callee := .builtin .copy, args := #[d, s], argTypes := #[dT, sT] }) (hu : Tryz.prog.underlying dT = some (.slice 67))
    (g n : Nat) (us vs : List AV) (off dLen dCap : Nat) (ad : Addr) (sLen sCap : Nat) (hd : a.eval d = .slice (some ⟨g, off, none⟩) dLen dCap) (hs : a.eval s = .slice (some ad) sLen sCap)
    (hoff : off = us.length * 3) (hA : AtA w g n us) (hfit : us.length + vs.length ≤ n) (hn : vs.length = Nat.min sLen dLen) (hsrc : ∀ j v, (flatA vs)[j]? = some v → w.cell? (ad.add j) = some v) (h1 : ∀ v ∈ flatA vs, v.oneCell' = true)
    (h : ∀ w', AtA w' g n (us ++ vs) → Only g (g + 1) w w' → K (a.put o.dst (.int .i64 (vs.length : Int))) w') : o.wp Tryz.prog a w K Q := by
  subst hoff
  have hsz : (Tryz.prog.info? 67).map (·.size) = some 3 := by kernel_rfl
  have hA2 := hA
  obtain ⟨cur, hg, l1, l2, l3, l4⟩ := hA2
  have hfv := flatA_length vs
  have hrun := run_copy_wide (P := Tryz.prog) w dT sT o.type 67 g (us.length * 3) dLen dCap ad sLen sCap 3 vs.length (flatA vs) hu hsz hn hfv hsrc
    (fun j hj => by obtain ⟨x, hx⟩ := hA.free (j := us.length * 3 + j) (by omega); rw [hx]; rfl) (fun j _ => hA.frozen _) h1
  obtain ⟨p1, p2⟩ := hA.pushs vs hfit
  unfold Oper.wp
  simp [execOp, ho, resolve, invoke, builtin, hd, hs, hrun, Result.andThen]
  exact h _ p1 p2

theorem wpList_copy_ages {o : Oper} {ops : Array Oper} {rest : List Oper} {a : Act} {w : World} {Q : Exit → Act → World → Prop} (hgd : o.guard = none) (d s : Operand) (dT sT : TypeId)
    (ho : o.op = .call { callee := .builtin .copy, args := #[d, s], argTypes := #[dT, sT] }) (hu : Tryz.prog.underlying dT = some (.slice 67))
    (g n : Nat) (us vs : List AV) (off dLen dCap : Nat) (ad : Addr) (sLen sCap : Nat) (hd : a.eval d = .slice (some ⟨g, off, none⟩) dLen dCap) (hs : a.eval s = .slice (some ad) sLen sCap)
    (hoff : off = us.length * 3) (hA : AtA w g n us) (hfit : us.length + vs.length ≤ n) (hn : vs.length = Nat.min sLen dLen) (hsrc : ∀ j v, (flatA vs)[j]? = some v → w.cell? (ad.add j) = some v) (h1 : ∀ v ∈ flatA vs, v.oneCell' = true)
    (h : ∀ w', AtA w' g n (us ++ vs) → Only g (g + 1) w w' → wpList Tryz.prog ops Q rest (a.put o.dst (.int .i64 (vs.length : Int))) w') : wpList Tryz.prog ops Q (o :: rest) a w :=
  wpList_plain hgd fun _ hK => wp_copy_ages d s dT sT ho hu g n us vs off dLen dCap ad sLen sCap hd hs hoff hA hfit hn hsrc h1 fun w' p1 p2 => hK _ _ (h w' p1 p2)
theorem step_copy_ages {o : Oper} {ops : Array Oper} {a : Act} {w : World} {K : Act → World → Prop} {Q : Exit → Act → World → Prop} {E : Prop} (hgd : o.guard = none) (d s : Operand) (dT sT : TypeId)
    (ho : o.op = .call { callee := .builtin .copy, args := #[d, s], argTypes := #[dT, sT] }) (hu : Tryz.prog.underlying dT = some (.slice 67))
    (g n : Nat) (us vs : List AV) (off dLen dCap : Nat) (ad : Addr) (sLen sCap : Nat) (hd : a.eval d = .slice (some ⟨g, off, none⟩) dLen dCap) (hs : a.eval s = .slice (some ad) sLen sCap)
    (hoff : off = us.length * 3) (hA : AtA w g n us) (hfit : us.length + vs.length ≤ n) (hn : vs.length = Nat.min sLen dLen) (hsrc : ∀ j v, (flatA vs)[j]? = some v → w.cell? (ad.add j) = some v) (h1 : ∀ v ∈ flatA vs, v.oneCell' = true)
    (h : ∀ w', AtA w' g n (us ++ vs) → Only g (g + 1) w w' → K (a.put o.dst (.int .i64 (vs.length : Int))) w') : if Region.wanted o (yielded ops a.tmps) = true then Oper.wp Tryz.prog o a w K Q else E := by
  have hw : Region.wanted o (yielded ops a.tmps) = true := by simp [Region.wanted, hgd]
  rw [if_pos hw]
  exact wp_copy_ages d s dT sT ho hu g n us vs off dLen dCap ad sLen sCap hd hs hoff hA hfit hn hsrc h1 h

theorem flatA_src {w : World} {g c : Nat} {us : List AV} (h : AtA w g c us) (vs ws : List AV) (e : us = vs ++ ws) : ∀ j v, (flatA vs)[j]? = some v → w.cell? ((⟨g, 0, none⟩ : Addr).add j) = some v := fun j v hv => by
  obtain ⟨cur, hg, h1, h2, h3, h4⟩ := h
  have hj : j < (flatA vs).length := by
    rcases Nat.lt_or_ge j (flatA vs).length with h' | h'
    · exact h'
    · rw [List.getElem?_eq_none h'] at hv; cases hv
  have hfv := flatA_length vs
  have hul : us.length = vs.length + ws.length := by rw [e]; simp
  rw [Go.WideShapes.add_plain, Nat.zero_add, Blk.cell hg]
  have h5 : (cur.toList.take (us.length * 3))[j]? = some v := by rw [h4, e, flatA_append, List.getElem?_append_left hj]; exact hv
  rw [List.getElem?_take_of_lt (by omega), Array.getElem?_toList] at h5
  exact h5
theorem flatA_one {vs : List AV} {u : AV} (hu : u.1.oneCell' = true ∧ u.2.1.oneCell' = true ∧ u.2.2.oneCell' = true) (h : ∀ x ∈ vs, x = u) : ∀ v ∈ flatA vs, v.oneCell' = true := by
  induction vs with
  | nil => intro v hv; cases hv
  | cons x vs ih =>
    intro v hv
    have hx := h x List.mem_cons_self
    subst hx
    simp only [flatA, List.mem_cons] at hv
    rcases hv with rfl | rfl | rfl | hv
    · exact hu.1
    · exact hu.2.1
    · exact hu.2.2
    · exact ih (fun y hy => h y (List.mem_cons_of_mem _ hy)) v hv

set_option maxHeartbeats 2000000 in
set_option maxRecDepth 100000 in
theorem repeatA_any (n : Nat) (hn : n ≤ 4) (u : AV) (hu : u.1.oneCell' = true ∧ u.2.1.oneCell' = true ∧ u.2.2.oneCell' = true) (ga : Nat) (w : World) (hA : AtA w ga 1 [u]) :
    Calls Tryz.prog 41 #[.slice (some ⟨ga, 0, none⟩) 1 1, .int .i64 (n : Int)] w fun e w' => e = .returned (.slice (some ⟨w.heap.size, 0, none⟩) n n) ∧ AtA w' w.heap.size n (List.replicate n u) ∧ Below w.heap.size w w' := by
  obtain ⟨i0, hi0, hz0, hz1, hz2⟩ := info_parts Tryz.infoAges
  have hmk := fun W => run_make_rowN (P := Tryz.prog) 69 67 i0 (.agg #[.slice none 0 0, .slice none 0 0, .slice none 0 0]) Tryz.underlying69 hi0 hz0 .i64 .i64 n n (Nat.le_refl _) (by rw [hz2]; omega) (by omega) W
  rw [hz1] at hmk
  simp only [Value.cells] at hmk
  have HA := Lib.hid hA
  have HU := Lib.hid hu
  have hgal := hA.lt
  clear hA hu
  have hwn : IntKind.u64.wrap (n : Int) = (n : Int) := by
    have h : n = 0 ∨ n = 1 ∨ n = 2 ∨ n = 3 ∨ n = 4 := by omega
    rcases h with rfl | rfl | rfl | rfl | rfl <;> rfl
  go_enter Tryz.func41, Tryz.ntmps41
  go_upto_region 7 with (go_at_call 67; refine (mul_few n hn _).mono ?_; rintro e w1 ⟨rfl, rfl⟩)
  obtain ⟨g, hg⟩ : ∃ g, g = w.heap.size := ⟨_, rfl⟩
  obtain ⟨w2, hw2⟩ : ∃ w2, w2 = w.alloc (Obj.cells (madeCells #[Value.slice none 0 0, Value.slice none 0 0, Value.slice none 0 0] (n * 3)) 67) := ⟨_, rfl⟩
  have HG := Lib.hid hg
  have HB2 := Lib.hid (show Below w.heap.size w w2 by rw [hw2]; exact below1 _ _)
  have HA2 := Lib.hid (show AtA w2 g n [] from by rw [hw2, hg]; exact AtA.made w _ n (size_madeCells _ _) (by unfold maxLen; omega))
  have HS2 := Lib.hid (show AtA w2 ga 1 [u] from HA.out.below HB2.out hgal)
  rw [← hw2, ← hg]
  clear hw2 hg hmk hwn
  obtain ⟨m0, hm0⟩ : ∃ m0, m0 = Nat.min 1 n := ⟨_, rfl⟩
  have hm01 : m0 ≤ n ∧ m0 ≤ 1 ∧ (n = 0 ∨ 1 ≤ m0) := by
    rw [hm0]
    have e : Nat.min 1 n = if 1 ≤ n then 1 else n := by simp [Nat.min_def]
    rw [e]
    split <;> omega
  have HM0 := Lib.hid hm0
  clear hm0
  have HSP := Lib.hid (show [u] = List.replicate m0 u ++ List.replicate (1 - m0) u from by rw [List.replicate_append_replicate, show m0 + (1 - m0) = 1 by omega]; rfl)
  go_wp2_with ((refine wpList_copy_ages (o := ⟨some 33, _, _, _, _, _⟩) rfl (.tmp 31) (.tmp 32) 69 69 rfl Tryz.underlying69 g n [] (List.replicate m0 u) 0 n n ⟨ga, 0, none⟩ 1 1 rfl rfl rfl HA2.out (by simp; omega) (by simpa using HM0.out) (flatA_src HS2.out _ _ HSP.out) (flatA_one HU.out fun x hx => (List.mem_replicate.1 hx).2) ?_))
  intro w3 a3 on3
  have HA3 := Lib.hid (show AtA w3 g n (List.replicate m0 u) by simpa using a3)
  have HB3 := Lib.hid (show Below w.heap.size w w3 from HB2.out.trans (on3.below (by rw [HG.out]; exact Nat.le_refl _) HB2.out.size))
  try simp only [List.length_replicate]
  clear a3 on3
  go_wp2_with (fail)
  go_loopw [8] (fun x wr => ∃ m : Nat, m ≤ n ∧ (n = 0 ∨ 1 ≤ m) ∧ x = .int .i64 m ∧ AtA wr g n (List.replicate m u) ∧ Below w.heap.size w wr) (fun x _ => n - (intOf x).toNat)
  case atStart => exact ⟨m0, hm01.1, hm01.2.2, rfl, HA3.out, HB3.out⟩
  case round =>
    obtain ⟨m, hm, hm1, rfl, ha, hbe⟩ := hrel
    have HA4 := Lib.hid ha
    have HBE := Lib.hid hbe
    clear ha hbe
    by_cases hlt : m < n
    · have h1m : 1 ≤ m := by omega
      have hmi : (m : Int) < (n : Int) := by omega
      have hnm : n ≠ m := by omega
      obtain ⟨q, hq⟩ : ∃ q, q = Nat.min m (n - m) := ⟨_, rfl⟩
      have hqb : q ≤ m ∧ q ≤ n - m ∧ 1 ≤ q := by
        rw [hq]
        have e : Nat.min m (n - m) = if m ≤ n - m then m else n - m := by simp [Nat.min_def]
        rw [e]
        split <;> omega
      have HQ := Lib.hid hq
      have HSR := Lib.hid (show List.replicate m u = List.replicate q u ++ List.replicate (m - q) u from by rw [List.replicate_append_replicate, show q + (m - q) = m by omega])
      have HRR := Lib.hid (show List.replicate m u ++ List.replicate q u = List.replicate (m + q) u from List.replicate_append_replicate)
      have hmq : m + q ≤ n := by omega
      have HWR := Lib.hid (show IntKind.i64.wrap ((m : Int) + (q : Int)) = ((m + q : Nat) : Int) from by unfold IntKind.wrap; simp [IntKind.bits, IntKind.signed]; omega)
      clear hq
      go_upto_region 9 with fail
      have HA4d := Lib.hid (show AtA wr.drew g n (List.replicate m u) from HA4.out)
      have HBEd := Lib.hid (show Below w.heap.size w wr.drew from HBE.out.drew)
      go_region_law (refine step_copy_ages rfl (.tmp 41) (.tmp 44) 69 69 rfl Tryz.underlying69 g n (List.replicate m u) (List.replicate q u) (m * 3) (n - m) (n - m) ⟨g, 0, none⟩ m n (by simp [Act.eval, Act.put]) (by simp [Act.eval, Act.put]) (by simp) HA4d.out (by simp; omega) (by simpa using HQ.out) (flatA_src HA4d.out _ _ HSR.out) (flatA_one HU.out fun x hx => (List.mem_replicate.1 hx).2) ?_
                     intro w4 a4 on4
                     have HX := Lib.hid (show AtA w4 g n (List.replicate (m + q) u) from by rw [← HRR.out]; exact a4)
                     have HBX := Lib.hid (show Below w.heap.size w w4 from HBEd.out.trans (on4.below (by rw [HG.out]; exact Nat.le_refl _) HBEd.out.size))
                     try simp only [List.length_replicate]
                     clear a4 on4)
      all_goals
        simp [Act.put]
        rw [HWR.out]
        go_wp2_with (fail)
        go_roundw
        case rel => exact ⟨m + q, hmq, .inr (by omega), rfl, HX.out, HBX.out⟩
        case measure => simp [intOf]; omega
    · have hmn : m = n := by omega
      subst hmn
      go_wp2_with (fail)
      go_ret
      exact ⟨by rw [← HG.out]; rfl, by rw [← HG.out]; exact HA4.out, HBE.out⟩

end Go.Proofs.YtebincnejcmocaaGreat
/-
  byAge: for each literal of a body the facts of its predicate, by their ages.
-/
namespace Go.Proofs.YtebincnejcmocaaGreat
open Go.RowKit

theorem cntX_le (X : List FV) (n p : Nat) : cntX X n p ≤ (ofX X p).length := by
  unfold cntX
  rw [ofX_len]
  exact ofP_take_le _ _ _
theorem cntX_mono (X : List FV) {a b : Nat} (h : a ≤ b) (p : Nat) : cntX X a p ≤ cntX X b p := by
  unfold cntX
  rw [take_mid h, ofP_append, List.length_append]
  omega
theorem ofX_take (X : List FV) (n p : Nat) : (factsX (ofX X p)).take (cntX X n p) = ofP ((factsX X).take n) p := by
  rw [ofX_facts]
  exact (ofP_take _ _ _).symm
end Go.Proofs.YtebincnejcmocaaGreat
/-
  Rounds that bring facts, plain mathematics: questions of all facts, ages of facts that go on growing.
-/
namespace Go.Proofs.YtebincnejcmocaaGreat
open Go.RowKit

theorem agesOf_pre {L N : List LFact} {o e : Nat} (ho : o ≤ L.length) (he : e ≤ L.length) (ls : List LLit) : agesOf (L ++ N) o e ls = agesOf L o e ls := by
  unfold agesOf ageOf
  rw [List.take_append_of_le_length ho, List.take_append_of_le_length he]
/-- The questions of a body of all facts up to an end. -/
def allQ (L : List LFact) (e : Nat) (ls : List LLit) : List LQ := ls.map fun l => (l, ofP (L.take e) l.2.1)
theorem allQ_is {L : List LFact} {e : Nat} {ls : List LLit} {S : List (List Int)} (h : IsSols (allQ L e ls) S) : S.Nodup ∧ ∀ b, b ∈ S ↔ SolOf (L.take e) ls b := by
  refine ⟨h.1, fun b => ?_⟩
  rw [h.2 b]
  unfold SolOf DomL
  refine and_congr_right fun _ => and_congr ?_ ?_
  · refine forall_congr' fun v => forall_congr' fun _ => ?_
    have e1 : (∃ q ∈ allQ L e ls, (maskOf q.1.2.2).testBit v = true) ↔ ∃ l ∈ ls, (maskOf l.2.2).testBit v = true := by
      constructor
      · rintro ⟨q, hq, h⟩
        obtain ⟨l, hl, rfl⟩ := List.mem_map.1 hq
        exact ⟨l, hl, h⟩
      · rintro ⟨l, hl, h⟩
        exact ⟨_, List.mem_map.2 ⟨l, hl, rfl⟩, h⟩
    rw [e1]
  · constructor
    · intro hq l hl
      have := hq _ (List.mem_map.2 ⟨l, hl, rfl⟩)
      unfold holdsQ at this
      rw [hold_ofP] at this
      exact this
    · intro hq q hm
      obtain ⟨l, hl, rfl⟩ := List.mem_map.1 hm
      unfold holdsQ
      rw [hold_ofP]
      exact hq l hl
theorem allQ_safe {L : List LFact} {e : Nat} {ls : List LLit} (h : SafeB ls) : SafeQ (allQ L e ls) := fun q hq v hv hm => by
  obtain ⟨l, hl, rfl⟩ := List.mem_map.1 hq
  obtain ⟨l', hl', h0, hm'⟩ := h.safe l hl v hv hm
  exact ⟨_, List.mem_map.2 ⟨l', hl', rfl⟩, h0, hm'⟩
theorem tot_sub : ∀ {l m : List LFact}, l.Sublist m → tot l ≤ tot m := fun {l m} h => by
  induction h with
  | slnil => exact Nat.le_refl _
  | cons a _ ih => rw [tot_cons]; omega
  | cons_cons a _ ih => rw [tot_cons, tot_cons]; omega
theorem ofP_sub (L : List LFact) (e : Nat) (p : Int) : (ofP (L.take e) p).Sublist L := (List.filter_sublist).trans (List.take_sublist _ _)
/-- What is asked of part of few facts. -/
structure FewL (L : List LFact) : Prop where
  consts : ∀ f ∈ L, f.2.all constOk = true
  len : L.length ≤ 1048576
  tot : tot L ≤ 1048576
theorem FewL.sub {L M : List LFact} (h : FewL L) (hs : M.Sublist L) : FewL M := ⟨fun f hf => h.consts f (hs.subset hf), Nat.le_trans hs.length_le h.len, Nat.le_trans (tot_sub hs) h.tot⟩
theorem FitL.fewL {ar : List Int} {L : List LFact} (ha : arityOk ar = true) (h : FitL ar L) : FewL L := by
  have h1 := facts_few ha h.nodup h.fits
  exact ⟨h.consts, by omega, by omega⟩
theorem allQ_ok {L : List LFact} {e : Nat} {ls : List LLit} (h : SafeB ls) (hL : FewL L) (hl : totL ls ≤ 1048576) : ∀ q ∈ allQ L e ls, QOk q := fun q hq => by
  obtain ⟨l, hl', rfl⟩ := List.mem_map.1 hq
  have hk := h.kind l hl'
  have hf := hL.sub (ofP_sub L e l.2.1)
  refine ⟨by show l.1 = 0 ∨ l.1 = 1 ∨ l.1 = 2 ∨ l.1 = 3; omega, h.terms l hl', hf.consts, ?_, hf.len, hf.tot⟩
  obtain ⟨k, hk', rfl⟩ := List.getElem_of_mem hl'
  exact Nat.le_trans (len_le_totL ls k hk') hl
theorem agesOf_ok {L : List LFact} {o e : Nat} {ls : List LLit} (hL : FewL L) : ∀ a ∈ agesOf L o e ls, AgeOk a := fun a ha => by
  obtain ⟨l, hl, rfl⟩ := List.mem_map.1 ha
  have h1 := hL.sub (ofP_sub L e l.2.1)
  have h2 := hL.sub (ofP_sub L o l.2.1)
  have h3 := h1.sub (List.drop_sublist (ofP (L.take o) l.2.1).length _)
  exact ⟨h1.consts, h1.len, h1.tot, h2.consts, h2.len, h2.tot, h3.consts, h3.len, h3.tot⟩
theorem agesOf_len (L : List LFact) (o e : Nat) (ls : List LLit) : (agesOf L o e ls).length = ls.length := by simp [agesOf]
/-- A literal's predicate is one of the 24. -/
theorem lit_pred {ar : List Int} {l : LLit} (ha : arityOk ar = true) (h : litFits ar l = true) : 0 ≤ l.2.1 ∧ l.2.1 < 24 := by
  have h2 : ar.length ≤ 24 := by simp only [arityOk, Bool.and_eq_true, decide_eq_true_eq] at ha; exact ha.1
  unfold litFits at h
  split at h
  · simp only [atomFits, Bool.and_eq_true, decide_eq_true_eq] at h
    omega
  · split at h
    · simp only [Bool.and_eq_true, decide_eq_true_eq] at h
      omega
    · cases h
theorem rule_parts {ar : List Int} {r : LRule} (ha : arityOk ar = true) (h : ruleFits ar r = true) : (0 ≤ r.1.1 ∧ r.1.1 < 24) ∧ r.1.2.all termOk = true ∧ r.1.2.length ≤ 2 ∧ r.2.length ≤ 4 ∧ ∀ l ∈ r.2, 0 ≤ l.2.1 ∧ l.2.1 < 24 := by
  have h2 : ar.length ≤ 24 := by simp only [arityOk, Bool.and_eq_true, decide_eq_true_eq] at ha; exact ha.1
  simp only [ruleFits, atomFits, Bool.and_eq_true, decide_eq_true_eq] at h
  exact ⟨⟨h.1.1.1, by omega⟩, h.1.2, place_short ha h.1.1, h.2.1, fun l hl => lit_pred ha (List.all_eq_true.1 h.2.2.1 l hl)⟩
/-- A solution's head fits. -/
theorem sol_fits {ar : List Int} {r : LRule} {fs : List LFact} {b : List Int} (_ha : arityOk ar = true) (h : ruleFits ar r = true) (hf : FitL ar fs) (hb : SolOf fs r.2 b) : factFits ar (hdOf' r b) = true :=
  headsL_fits fs h _ ((headsL_sol h hf.consts hf.nodup _).2 ⟨b, hb, rfl⟩)
theorem ends_few : ∀ {E : List Nat} {m : Nat}, E.Pairwise (· < ·) → (∀ x ∈ E, x ≤ m) → E.length ≤ m + 1 := fun {E m} h hb =>
  nodup_len (m + 1) E (h.imp fun h => by omega) fun x hx => by have := hb x hx; omega

end Go.Proofs.YtebincnejcmocaaGreat
/-
  allQuestions: a body asked of all facts up to the end of the latest round.
-/
namespace Go.Proofs.YtebincnejcmocaaGreat
open Go.RowKit

theorem RdQs.snoc {w : World} {B : Nat} {us : List QV} {qs : List LQ} {u : QV} {q : LQ} (h : RdQs w B us qs) (h1 : RdQC w B u.1 u.2.1 u.2.2.1 u.2.2.2 q) : RdQs w B (us ++ [u]) (qs ++ [q]) := by
  refine ⟨by simp [h.1], fun k k1 k2 => ?_⟩
  by_cases e : k < us.length
  · have e' : k < qs.length := by rw [← h.1]; exact e
    rw [List.getElem_append_left e, List.getElem_append_left e']
    exact h.2 k e e'
  · have e2 : k = us.length := by simp at k1; omega
    subst e2
    have l1 := h.1
    have x1 : (us ++ [u])[us.length]'k1 = u := by simp
    have x2 : (qs ++ [q])[us.length]'k2 = q := by simp [l1]
    rw [x1, x2]
    exact h1

end Go.Proofs.YtebincnejcmocaaGreat
/-
  freshQuestions: one atom is asked of new facts, those ahead of it of old ones.
-/
namespace Go.Proofs.YtebincnejcmocaaGreat
open Go.RowKit

/-- A row of questions that grows by append. -/
theorem ownQ_at {w : World} {lo g c : Nat} {us : List QV} (h : w.ownsRow lo 115 4 (.slice (some ⟨g, 0, none⟩) us.length c) us.length (flatQ us)) : AtQ w g c us ∧ lo ≤ g := by
  rcases h.2 with ⟨e, _⟩ | ⟨g', cap, cur, e, hb, hg, h1, h2, h3, h4⟩
  · cases e
  · injection e with e1 e2 e3
    injection e1 with e1
    injection e1 with e1
    subst e1 e3
    exact ⟨⟨cur, hg, h1, h2, h3, h4⟩, hb⟩
/-- The relation of the loop. -/
structure QRel (w wr : World) (us : List QV) (qs : List LQ) (g c : Nat) : Prop where
  below : Below w.heap.size w wr
  row : wr.ownsRow w.heap.size 115 4 (.slice (some ⟨g, 0, none⟩) us.length c) us.length (flatQ us)
  rd : RdQs wr w.heap.size us qs
theorem QRel.on {w wr w2 : World} {us : List QV} {qs : List LQ} {g c : Nat} (h : QRel w wr us qs g c) (hb : Below wr.heap.size wr w2) : QRel w w2 us qs g c :=
  ⟨bthen h.below hb, ownsRow_only h.row fun b hb' => hb.block b (h.row.lt b hb').2, h.rd.below (hb.mono h.below.size) (Nat.le_refl _)⟩
theorem QRel.push {w wr w5 : World} {us : List QV} {qs : List LQ} {g c g2 cap : Nat} {u : QV} {q : LQ} {o : Obj} (h : QRel w wr us qs g c) (hg : (wr.alloc o).grownBy w5 (some g)) (hown : w5.ownsRow w.heap.size 115 4 (.slice (some ⟨g2, 0, none⟩) (us.length + 1) cap) (us.length + 1) (flatQ us ++ [u.1, u.2.1, u.2.2.1, u.2.2.2]))
    (hq : RdQC wr w.heap.size u.1 u.2.1 u.2.2.1 u.2.2.2 q) : QRel w w5 (us ++ [u]) (qs ++ [q]) g2 cap := by
  have hg' := grown_from_alloc hg
  have hs := h.below.size
  have hb : Below w.heap.size wr w5 := ⟨hg'.os, hg'.tape, hg'.output, hg'.size, fun k hk => hg'.block k (by omega) fun e => by
    have := (h.row.lt k (by simpa [Value.ownBlock] using e.symm)).1
    omega⟩
  refine ⟨h.below.trans hb, by rw [List.length_append, flatQ_append]; exact hown, (h.rd.below hb (Nat.le_refl _)).snoc ?_⟩
  obtain ⟨a, b, d, e⟩ := hq
  exact ⟨a, b, d.below hb (Nat.le_refl _), e.below hb (Nat.le_refl _)⟩

set_option maxHeartbeats 4000000 in
set_option maxRecDepth 100000 in
theorem freshQuestions_any (ga ca i : Nat) (ls : List LLit) (ag : List LAge) (us : List AV) (v : Value) (w : World) (h : RdLits w w.heap.size v ls) (h2 : AtA w ga ca us) (h3 : RdAges w w.heap.size us ag) (hal : ag.length = ls.length) (hi : i < ls.length) (hn : ls.length ≤ 4) :
    Calls Tryz.prog 66 #[v, .slice (some ⟨ga, 0, none⟩) ls.length ca, .int .i64 i] w fun e' w' =>
      ∃ g2 c2 us2, e' = .returned (.slice (some ⟨g2, 0, none⟩) ls.length c2) ∧ w.heap.size ≤ g2 ∧ AtQ w' g2 c2 us2 ∧ RdQs w' w.heap.size us2 (freshTo ls ag i ls.length) ∧ Below w.heap.size w w' := by
  obtain ⟨i0, hi0, hz0, hz1, hz2⟩ := info_parts Tryz.infoQuestion
  have hmk := fun W => run_make_rowN (P := Tryz.prog) 91 115 i0 (.agg #[.int .i64 0, .int .i64 0, .slice none 0 0, .slice none 0 0]) Tryz.underlying91 hi0 hz0 .i64 .i64 0 ls.length (by omega) (by rw [hz2]; omega) (by omega) W
  rw [hz1] at hmk
  simp only [Value.cells, show ((0 : Nat) : Int) = 0 from rfl] at hmk
  have HL := Lib.hid h
  have HA := Lib.hid h2
  have HR := Lib.hid h3
  have HAL := Lib.hid (And.intro hal h3.1)
  obtain ⟨A, c, rfl, hc, _⟩ := h
  obtain ⟨cs, hcs⟩ : ∃ cs, cs = madeCells #[Value.int IntKind.i64 0, Value.int IntKind.i64 0, Value.slice none 0 0, Value.slice none 0 0] (ls.length * 4) := ⟨_, rfl⟩
  have HM := Lib.hid (show QRel w (w.alloc (.cells cs 115)) [] [] w.heap.size ls.length from
    ⟨below1 _ _, World.ownsRow_made w cs ls.length (Nat.le_refl _) (by unfold maxLen; omega) (by rw [hcs]; simp [madeCells]), ⟨rfl, fun k h1 => absurd h1 (by simp)⟩⟩)
  rw [← hcs] at hmk
  clear hcs h2 h3 hal
  go_enter Tryz.func66, Tryz.ntmps66
  go_upto_region 2 with fail
  obtain ⟨w1, hw1⟩ : ∃ w1, w1 = w.alloc (Obj.cells cs 115) := ⟨_, rfl⟩
  obtain ⟨gq, hgq⟩ : ∃ gq, gq = w.heap.size := ⟨_, rfl⟩
  rw [← hw1] at HM ⊢
  rw [show (w.heap.size : Nat) = gq from hgq.symm]
  have HGQ := Lib.hid hgq
  have HM1 := Lib.hid (show QRel w w1 [] [] gq ls.length by rw [hgq]; exact HM.out)
  have hs1 : w.heap.size < w1.heap.size := by rw [hw1]; simp
  clear hw1 hgq hmk HM
  obtain ⟨l, hle⟩ : ∃ l, l = litD ls i := ⟨_, rfl⟩
  have hli : l = ls[i] := by rw [hle, litD_lt hi]
  obtain ⟨b, o3, u0, u1, u2, rfl, hbB, k0, k1, k2, rfl, rfl, p3⟩ := HL.out.get hi
  obtain ⟨A4, c4, rfl, hc4, _⟩ := id p3
  rw [← hli] at k0 k1 k2 hc4 p3
  have HLE := Lib.hid hle
  have HP3 := Lib.hid p3
  have hui : i < us.length := by rw [HAL.out.2, HAL.out.1]; exact hi
  have hai : i < ag.length := by rw [HAL.out.1]; exact hi
  have k3 := (HA.out.cells hui).2.2
  have hf3 := (HR.out.2 i hui hai).2.2
  rw [← ageD_lt hai] at hf3
  obtain ⟨A5, c5, e5, _, _⟩ := id hf3
  rw [e5] at k3 hf3
  have HF3 := Lib.hid hf3
  have hga : ga < w.heap.size := HA.out.lt
  clear hle hli p3 hf3 e5
  refine wp_region_rel (fun W => Below w.heap.size w W) 13 14 (by kernel_rfl) rfl ?_
  obtain ⟨wy, hwy⟩ : ∃ wy, wy = w1.drew := ⟨_, rfl⟩
  have HQ := Lib.hid (show QRel w wy [] [] gq ls.length by rw [hwy]; exact HM1.out.on (Below.refl _ _).drew)
  rw [← hwy]
  clear hwy
  obtain ⟨SS, hSS⟩ : ∃ SS : World → Prop, SS = (fun W => Below w.heap.size w W) := ⟨_, rfl⟩
  rw [← hSS]
  have HB := Lib.hid (show ∀ W, SS W → (W.cell? ⟨b, o3 + i * 3, none⟩ = some (.int .i64 l.1) ∧ W.cell? ⟨b, o3 + i * 3 + 1, none⟩ = some (.int .i64 l.2.1) ∧ W.cell? ⟨b, o3 + i * 3 + 2, none⟩ = some (.slice A4 l.2.2.length c4) ∧ W.cell? ⟨ga, i * 3 + 2, none⟩ = some (.slice A5 (ageD ag i).2.2.length c5)) from by
    rw [hSS]
    intro W hW
    exact ⟨(hW.cell (p := ⟨b, o3 + i * 3, none⟩) hbB).trans k0, (hW.cell (p := ⟨b, o3 + i * 3 + 1, none⟩) hbB).trans k1, (hW.cell (p := ⟨b, o3 + i * 3 + 2, none⟩) hbB).trans k2, (hW.cell (p := ⟨ga, i * 3 + 2, none⟩) hga).trans k3⟩)
  have HS := Lib.hid (show ∀ W, Below w.heap.size w W → SS W from by rw [hSS]; exact fun W hW => hW)
  have SB : SS wy := HS.out wy HQ.out.below
  clear hSS k0 k1 k2 k3
  refine wpAnyR_pure (i := 0) (oi := _) ?va0 rfl rfl (by kernel_rfl) (by decide) (fun _ _ _ h => h) rfl ?hya0 (fun _ => SB) ?resta0
  case hya0 => (intro W; go_simp; (try with_reducible rfl))
  try simp only [List.setIfInBounds_toArray, List.set_cons_zero, List.set_cons_succ]
  refine wpAnyR_pure (i := 1) (oi := _) ?va1 rfl rfl (by kernel_rfl) (by decide) (fun _ _ _ h => h) rfl ?hya1 (fun _ => SB) ?resta1
  case hya1 => (intro W; go_simp; (try with_reducible rfl))
  try simp only [List.setIfInBounds_toArray, List.set_cons_zero, List.set_cons_succ]
  refine wpAnyR_pure (i := 2) (oi := _) ?va2 rfl rfl (by kernel_rfl) (by decide) (fun _ _ _ h => h) rfl ?hya2 (fun _ => SB) ?resta2
  case hya2 => (intro W; go_simp; (try with_reducible rfl))
  try simp only [List.setIfInBounds_toArray, List.set_cons_zero, List.set_cons_succ]
  refine wpAnyR_pure (i := 3) (oi := _) ?va3 rfl rfl (by kernel_rfl) (by decide) (fun _ _ _ h => h) rfl ?hya3 (fun _ => SB) ?resta3
  case hya3 => (intro W; go_simp; (try with_reducible rfl))
  try simp only [List.setIfInBounds_toArray, List.set_cons_zero, List.set_cons_succ]
  refine wpAnyR_take (i := 4) (oi := _) ?va4 rfl rfl (by kernel_rfl) (fun _ _ _ h => h) rfl ?hya4 SB ?resta4
  case hya4 => (intro W hW; obtain ⟨E0, E1, E2, E3⟩ := HB.out W hW; go_simp; (try with_reducible rfl))
  try simp only [List.setIfInBounds_toArray, List.set_cons_zero, List.set_cons_succ]
  refine wpAnyR_pure (i := 5) (oi := _) ?va5 rfl rfl (by kernel_rfl) (by decide) (fun _ _ _ h => h) rfl ?hya5 (fun _ => SB) ?resta5
  case hya5 => (intro W; go_simp; (try with_reducible rfl))
  try simp only [List.setIfInBounds_toArray, List.set_cons_zero, List.set_cons_succ]
  refine wpAnyR_pure (i := 6) (oi := _) ?va6 rfl rfl (by kernel_rfl) (by decide) (fun _ _ _ h => h) rfl ?hya6 (fun _ => SB) ?resta6
  case hya6 => (intro W; go_simp; (try with_reducible rfl))
  try simp only [List.setIfInBounds_toArray, List.set_cons_zero, List.set_cons_succ]
  refine wpAnyR_pure (i := 7) (oi := _) ?va7 rfl rfl (by kernel_rfl) (by decide) (fun _ _ _ h => h) rfl ?hya7 (fun _ => SB) ?resta7
  case hya7 => (intro W; go_simp; (try with_reducible rfl))
  try simp only [List.setIfInBounds_toArray, List.set_cons_zero, List.set_cons_succ]
  refine wpAnyR_pure (i := 8) (oi := _) ?va8 rfl rfl (by kernel_rfl) (by decide) (fun _ _ _ h => h) rfl ?hya8 (fun _ => SB) ?resta8
  case hya8 => (intro W; go_simp; (try with_reducible rfl))
  try simp only [List.setIfInBounds_toArray, List.set_cons_zero, List.set_cons_succ]
  refine wpAnyR_take (i := 9) (oi := _) ?va9 rfl rfl (by kernel_rfl) (fun _ _ _ h => h) rfl ?hya9 SB ?resta9
  case hya9 => (intro W hW; obtain ⟨E0, E1, E2, E3⟩ := HB.out W hW; go_simp; (try with_reducible rfl))
  try simp only [List.setIfInBounds_toArray, List.set_cons_zero, List.set_cons_succ]
  refine wpAnyR_pure (i := 10) (oi := _) ?va10 rfl rfl (by kernel_rfl) (by decide) (fun _ _ _ h => h) rfl ?hya10 (fun _ => SB) ?resta10
  case hya10 => (intro W; go_simp; (try with_reducible rfl))
  try simp only [List.setIfInBounds_toArray, List.set_cons_zero, List.set_cons_succ]
  refine wpAnyR_one (i := 11) (by kernel_rfl) rfl (fun K hK => ?_)
  try rw [if_pos (show Region.wanted _ _ = true from rfl)]
  go_simp
  have S6 : SS _ := HS.out (wy.alloc (Obj.cells #[Value.int IntKind.i64 l.1, Value.int IntKind.i64 l.2.1, Value.slice A4 l.2.2.length c4, Value.slice A5 (ageD ag i).2.2.length c5] 115)) (HQ.out.below.trans ((below1 wy _).mono HQ.out.below.size))
  refine hK.out _ _ (fun _ => S6) ?_
  clear hK K
  try simp only [List.setIfInBounds_toArray, List.set_cons_zero, List.set_cons_succ, Act.put]
  refine wpAnyR_one (i := 12) (by kernel_rfl) rfl (fun K hK => ?_)
  refine step_append_lies _ rfl (.tmp 13) (.tmp 24) 91 rfl w.heap.size 115 i0 (.agg #[.int .i64 0, .int .i64 0, .slice none 0 0, .slice none 0 0]) 4 64 Tryz.underlying91 hi0 hz0 hz1 hz2 rfl (by decide) (.slice (some ⟨gq, 0, none⟩) 0 ls.length) 0 [] rfl ?c1 ⟨wy.heap.size, 0, none⟩ 1 1 [.int .i64 l.1, .int .i64 l.2.1, .slice A4 l.2.2.length c4, .slice A5 (ageD ag i).2.2.length c5] rfl rfl ?c4 ?c2 (by omega) (by unfold maxLen; omega) (by omega) ?c3 _ rfl ?c5
  case c1 => exact HQ.out.row.alloc _
  case c4 => exact World.news_of_block (cs := #[.int .i64 l.1, .int .i64 l.2.1, .slice A4 l.2.2.length c4, .slice A5 (ageD ag i).2.2.length c5]) (heap_alloc_new wy _)
  case c2 => intro u hu; simp at hu; rcases hu with rfl | rfl | rfl | rfl <;> rfl
  case c3 => have := HQ.out.below.size; simp; omega
  case c5 =>
  intro g2 cap w5 hown hgr hat _
  have HQ5 := Lib.hid (show QRel w w5 [(.int .i64 l.1, .int .i64 l.2.1, .slice A4 l.2.2.length c4, .slice A5 (ageD ag i).2.2.length c5)] (freshTo ls ag i 0) g2 cap from by
    rw [freshTo_zero, ← HLE.out]
    exact HQ.out.push (u := (.int .i64 l.1, .int .i64 l.2.1, .slice A4 l.2.2.length c4, .slice A5 (ageD ag i).2.2.length c5)) hgr hown ⟨rfl, rfl, HP3.out.below HQ.out.below (Nat.le_refl _), HF3.out.below HQ.out.below (Nat.le_refl _)⟩)
  have S5 : SS w5 := HS.out w5 HQ5.out.below
  clear hown hgr hat
  refine hK.out _ _ (fun _ => S5) ?_
  clear hK K
  try simp only [List.setIfInBounds_toArray, List.set_cons_zero, List.set_cons_succ, Act.put]
  refine wpAnyR_one (i := 13) (by kernel_rfl) rfl (fun K hK => ?_)
  go_simp
  refine hK.out _ _ (fun hf => absurd hf (by decide)) ?_
  clear hK K
  refine wpAnyR_done (by kernel_rfl) ?_
  clear S5 S6 SB HB HS
  go_wp2_with fail
  go_loopw [7, 28] (fun q x wr => ∃ (k : Nat) (us2 : List QV) (g2 c2 : Nat), k ≤ ls.length ∧ x = .int .i64 k ∧ q = .slice (some ⟨g2, 0, none⟩) us2.length c2 ∧ us2.length ≤ 5 ∧ QRel w wr us2 (freshTo ls ag i k) g2 c2) (fun _ x _ => ls.length - (intOf x).toNat)
  case atStart => exact ⟨0, _, g2, cap, Nat.zero_le _, rfl, rfl, by simp, HQ5.out⟩
  case round =>
    obtain ⟨k, us2, g3, c3, hk, rfl, rfl, hu5, hq⟩ := hrel
    have HQR := Lib.hid hq
    by_cases hlt : k < ls.length
    · obtain ⟨l, hle⟩ : ∃ l, l = litD ls k := ⟨_, rfl⟩
      have hli : l = ls[k] := by rw [hle, litD_lt hlt]
      obtain ⟨b', o', u0, u1, u2, e1, hbB', k0', k1', k2', rfl, rfl, p3⟩ := HL.out.get hlt
      injection e1 with e1
      injection e1 with e1 e2 _
      subst e1 e2
      obtain ⟨A4, c4, rfl, hc4, _⟩ := id p3
      rw [← hli] at k0' k1' k2' hc4 p3
      have k0 := (hq.below.cell (p := ⟨b, o3 + k * 3, none⟩) hbB).trans k0'
      have k1 := (hq.below.cell (p := ⟨b, o3 + k * 3 + 1, none⟩) hbB).trans k1'
      have k2 := (hq.below.cell (p := ⟨b, o3 + k * 3 + 2, none⟩) hbB).trans k2'
      have HLE := Lib.hid hle
      have HP3 := Lib.hid p3
      obtain ⟨bx, hbx⟩ : ∃ bx, bx = wr.heap.size := ⟨_, rfl⟩
      have HBX := Lib.hid hbx
      clear hle hli p3 hq k0' k1' k2' hbx
      by_cases hki : k = i
      · have hbt : ((k : Int) == (i : Int)) = true := by simp [hki]
        have HFT := Lib.hid (show freshTo ls ag i (k + 1) = freshTo ls ag i k by rw [hki]; exact freshTo_same ls ag i)
        clear hki
        go_wp2_with fail
        go_roundw
        case rel => exact ⟨k + 1, us2, g3, c3, by omega, by go_num, rfl, hu5, by rw [HFT.out]; exact HQR.out.on (below1 _ _)⟩
        case measure => simp [intOf]; omega
      have hbf : ((k : Int) == (i : Int)) = false := by simp; omega
      by_cases hcond : k < i ∧ l.1 = 0
      · obtain ⟨hc1, hc2⟩ := hcond
        have hd1 : decide (k < i) = true := decide_eq_true hc1
        have hd2 : decide ((k : Int) < (i : Int)) = true := by simpa using hc1
        have hk0 : (l.1 == 0) = true := by simpa using hc2
        have HC2 := Lib.hid hc2
        clear hc2
        have huk : k < us.length := by rw [HAL.out.2, HAL.out.1]; exact hlt
        have hak : k < ag.length := by rw [HAL.out.1]; exact hlt
        have k3 := (HA.out.cells huk).2.1
        have hf3 := (HR.out.2 k huk hak).2.1
        rw [← ageD_lt hak] at hf3
        obtain ⟨A5, c5, e5, _, _⟩ := id hf3
        rw [e5] at k3 hf3
        have HF3 := Lib.hid hf3
        have HK3 := Lib.hid k3
        have HFT := Lib.hid (show freshTo ls ag i (k + 1) = freshTo ls ag i k ++ [(l, (ageD ag k).2.1)] by
          rw [freshTo_snoc ls ag hki]
          unfold qAt
          rw [← HLE.out, if_pos (show k < i ∧ l.1 = 0 from ⟨hc1, HC2.out⟩)])
        clear hf3 e5 k3
        go_upto_region 9 with fail
        obtain ⟨w2, hw2⟩ : ∃ w2, w2 = wr.alloc (Obj.cells #[Value.int IntKind.i64 l.1, Value.int IntKind.i64 l.2.1, Value.slice A4 l.2.2.length c4] 56) := ⟨_, rfl⟩
        have b2 : Below wr.heap.size wr w2 := by rw [hw2]; exact below1 _ _
        have y2 : Blk w2 bx 56 #[.int .i64 l.1, .int .i64 l.2.1, .slice A4 l.2.2.length c4] := by rw [hw2, HBX.out]; exact Blk.new _ _ _
        rw [← hw2]
        rw [show (wr.heap.size : Nat) = bx from HBX.out.symm]
        clear hw2 k0 k1 k2
        refine wp_region_rel (fun W => Below w.heap.size w W ∧ W.cell? ⟨bx, 0, none⟩ = some (.int .i64 l.1) ∧ W.cell? ⟨bx, 1, none⟩ = some (.int .i64 l.2.1) ∧ W.cell? ⟨bx, 2, none⟩ = some (.slice A4 l.2.2.length c4)) 10 11 (by kernel_rfl) rfl ?_
        obtain ⟨wy, hwy⟩ : ∃ wy, wy = w2.drew := ⟨_, rfl⟩
        have HQ := Lib.hid (show QRel w wy us2 (freshTo ls ag i k) g3 c3 by rw [hwy]; exact HQR.out.on b2.drew)
        have HY := Lib.hid (show Blk wy bx 56 #[.int .i64 l.1, .int .i64 l.2.1, .slice A4 l.2.2.length c4] by rw [hwy]; exact y2)
        have HRB := Lib.hid (show g3 < bx ∧ bx < wy.heap.size from ⟨by rw [HBX.out]; exact (HQR.out.row.lt g3 rfl).2, HY.out.lt⟩)
        rw [← hwy]
        clear hwy b2 y2
        obtain ⟨SS, hSS⟩ : ∃ SS : World → Prop, SS = (fun W => Below w.heap.size w W ∧ W.cell? ⟨bx, 0, none⟩ = some (.int .i64 l.1) ∧ W.cell? ⟨bx, 1, none⟩ = some (.int .i64 l.2.1) ∧ W.cell? ⟨bx, 2, none⟩ = some (.slice A4 l.2.2.length c4)) := ⟨_, rfl⟩
        rw [← hSS]
        have HB := Lib.hid (show ∀ W, SS W → (W.cell? ⟨bx, 0, none⟩ = some (.int .i64 l.1) ∧ W.cell? ⟨bx, 1, none⟩ = some (.int .i64 l.2.1) ∧ W.cell? ⟨bx, 2, none⟩ = some (.slice A4 l.2.2.length c4) ∧ W.cell? ⟨ga, k * 3 + 1, none⟩ = some (.slice A5 (ageD ag k).2.1.length c5)) from by
          rw [hSS]
          intro W hW
          exact ⟨hW.2.1, hW.2.2.1, hW.2.2.2, (hW.1.cell (p := ⟨ga, k * 3 + 1, none⟩) hga).trans HK3.out⟩)
        have HS := Lib.hid (show ∀ W : World, Below w.heap.size w W → W.heap[bx]? = wy.heap[bx]? → SS W from by
          rw [hSS]
          intro W hW hx
          have hy : Blk W bx 56 #[.int .i64 l.1, .int .i64 l.2.1, .slice A4 l.2.2.length c4] := hx.trans HY.out
          exact ⟨hW, hy.cell 0, hy.cell 1, hy.cell 2⟩)
        have SB : SS wy := HS.out wy HQ.out.below rfl
        clear hSS
        refine wpAnyR_pure (i := 0) (oi := _) ?vb0 rfl rfl (by kernel_rfl) (by decide) (fun _ _ _ h => h) rfl ?hyb0 (fun _ => SB) ?restb0
        case hyb0 => (intro W; go_simp; (try with_reducible rfl))
        try simp only [List.setIfInBounds_toArray, List.set_cons_zero, List.set_cons_succ]
        refine wpAnyR_take (i := 1) (oi := _) ?vb1 rfl rfl (by kernel_rfl) (fun _ _ _ h => h) rfl ?hyb1 SB ?restb1
        case hyb1 => (intro W hW; obtain ⟨E0, E1, E2, E3⟩ := HB.out W hW; go_simp; (try with_reducible rfl))
        try simp only [List.setIfInBounds_toArray, List.set_cons_zero, List.set_cons_succ]
        refine wpAnyR_pure (i := 2) (oi := _) ?vb2 rfl rfl (by kernel_rfl) (by decide) (fun _ _ _ h => h) rfl ?hyb2 (fun _ => SB) ?restb2
        case hyb2 => (intro W; go_simp; (try with_reducible rfl))
        try simp only [List.setIfInBounds_toArray, List.set_cons_zero, List.set_cons_succ]
        refine wpAnyR_pure (i := 3) (oi := _) ?vb3 rfl rfl (by kernel_rfl) (by decide) (fun _ _ _ h => h) rfl ?hyb3 (fun _ => SB) ?restb3
        case hyb3 => (intro W; go_simp; (try with_reducible rfl))
        try simp only [List.setIfInBounds_toArray, List.set_cons_zero, List.set_cons_succ]
        refine wpAnyR_pure (i := 4) (oi := _) ?vb4 rfl rfl (by kernel_rfl) (by decide) (fun _ _ _ h => h) rfl ?hyb4 (fun _ => SB) ?restb4
        case hyb4 => (intro W; go_simp; (try with_reducible rfl))
        try simp only [List.setIfInBounds_toArray, List.set_cons_zero, List.set_cons_succ]
        refine wpAnyR_pure (i := 5) (oi := _) ?vb5 rfl rfl (by kernel_rfl) (by decide) (fun _ _ _ h => h) rfl ?hyb5 (fun _ => SB) ?restb5
        case hyb5 => (intro W; go_simp; (try with_reducible rfl))
        try simp only [List.setIfInBounds_toArray, List.set_cons_zero, List.set_cons_succ]
        refine wpAnyR_take (i := 6) (oi := _) ?vb6 rfl rfl (by kernel_rfl) (fun _ _ _ h => h) rfl ?hyb6 SB ?restb6
        case hyb6 => (intro W hW; obtain ⟨E0, E1, E2, E3⟩ := HB.out W hW; go_simp; (try with_reducible rfl))
        try simp only [List.setIfInBounds_toArray, List.set_cons_zero, List.set_cons_succ]
        refine wpAnyR_pure (i := 7) (oi := _) ?vb7 rfl rfl (by kernel_rfl) (by decide) (fun _ _ _ h => h) rfl ?hyb7 (fun _ => SB) ?restb7
        case hyb7 => (intro W; go_simp; (try with_reducible rfl))
        try simp only [List.setIfInBounds_toArray, List.set_cons_zero, List.set_cons_succ]
        refine wpAnyR_one (i := 8) (by kernel_rfl) rfl (fun K hK => ?_)
        try rw [if_pos (show Region.wanted _ _ = true from rfl)]
        go_simp
        have S6 : SS _ := HS.out (wy.alloc (Obj.cells #[Value.int IntKind.i64 l.1, Value.int IntKind.i64 l.2.1, Value.slice A4 l.2.2.length c4, Value.slice A5 (ageD ag k).2.1.length c5] 115)) (HQ.out.below.trans ((below1 wy _).mono HQ.out.below.size)) (Below.heap_alloc _ _ _ HRB.out.2)
        refine hK.out _ _ (fun _ => S6) ?_
        clear hK K
        try simp only [List.setIfInBounds_toArray, List.set_cons_zero, List.set_cons_succ, Act.put]
        refine wpAnyR_one (i := 9) (by kernel_rfl) rfl (fun K hK => ?_)
        refine step_append_lies _ rfl (.tmp 56) (.tmp 64) 91 rfl w.heap.size 115 i0 (.agg #[.int .i64 0, .int .i64 0, .slice none 0 0, .slice none 0 0]) 4 64 Tryz.underlying91 hi0 hz0 hz1 hz2 rfl (by decide) (.slice (some ⟨g3, 0, none⟩) us2.length c3) us2.length (flatQ us2) rfl ?bc1 ⟨wy.heap.size, 0, none⟩ 1 1 [.int .i64 l.1, .int .i64 l.2.1, .slice A4 l.2.2.length c4, .slice A5 (ageD ag k).2.1.length c5] rfl rfl ?bc4 ?bc2 (by omega) (by unfold maxLen; omega) (by omega) ?bc3 _ rfl ?bc5
        case bc1 => exact HQ.out.row.alloc _
        case bc4 => exact World.news_of_block (cs := #[.int .i64 l.1, .int .i64 l.2.1, .slice A4 l.2.2.length c4, .slice A5 (ageD ag k).2.1.length c5]) (heap_alloc_new wy _)
        case bc2 => intro u hu; simp at hu; rcases hu with rfl | rfl | rfl | rfl <;> rfl
        case bc3 => have := HQ.out.below.size; simp; omega
        case bc5 =>
        intro g2 cap w5 hown hgr hat _
        have HQ5 := Lib.hid (show QRel w w5 (us2 ++ [(.int .i64 l.1, .int .i64 l.2.1, .slice A4 l.2.2.length c4, .slice A5 (ageD ag k).2.1.length c5)]) (freshTo ls ag i (k + 1)) g2 cap from by
          rw [HFT.out]
          exact HQ.out.push (u := (.int .i64 l.1, .int .i64 l.2.1, .slice A4 l.2.2.length c4, .slice A5 (ageD ag k).2.1.length c5)) hgr hown ⟨rfl, rfl, HP3.out.below (HQ.out.below) (Nat.le_refl _), HF3.out.below HQ.out.below (Nat.le_refl _)⟩)
        have S5 : SS w5 := HS.out w5 HQ5.out.below ((grown_from_alloc hgr).block bx HRB.out.2 fun e => by have := HRB.out.1; simp [Value.ownBlock] at e; omega)
        clear hown hgr hat
        refine hK.out _ _ (fun _ => S5) ?_
        clear hK K
        try simp only [List.setIfInBounds_toArray, List.set_cons_zero, List.set_cons_succ, Act.put]
        refine wpAnyR_one (i := 10) (by kernel_rfl) rfl (fun K hK => ?_)
        go_simp
        refine hK.out _ _ (fun hf => absurd hf (by decide)) ?_
        clear hK K
        refine wpAnyR_done (by kernel_rfl) ?_
        clear S5 S6 SB HB HS
        go_wp2_with fail
        go_roundw
        case rel => exact ⟨k + 1, us2 ++ [(.int .i64 l.1, .int .i64 l.2.1, .slice A4 l.2.2.length c4, .slice A5 (ageD ag k).2.1.length c5)], g2, cap, by omega, by go_num, by simp, by have := (freshTo_len ls ag i k).1; have := HQR.out.rd.1; simp; omega, HQ5.out⟩
        case measure => simp [intOf]; omega
      · have HNC := Lib.hid hcond
        have hd : (k < i ∧ decide (k < i) = true ∧ decide ((k : Int) < (i : Int)) = true ∧ (l.1 == 0) = false) ∨ (¬ k < i ∧ decide (k < i) = false ∧ decide ((k : Int) < (i : Int)) = false) := by
          by_cases e : k < i
          · exact .inl ⟨e, decide_eq_true e, by simpa using e, by simpa using fun e2 => hcond ⟨e, e2⟩⟩
          · exact .inr ⟨e, decide_eq_false e, by simpa using e⟩
        clear hcond
        rcases hd with ⟨hx1, hx2, hx3, hx4⟩ | ⟨hx1, hx2, hx3⟩
        · have huk : k < us.length := by rw [HAL.out.2, HAL.out.1]; exact hlt
          have hak : k < ag.length := by rw [HAL.out.1]; exact hlt
          have k3 := (HA.out.cells huk).1
          have hf3 := (HR.out.2 k huk hak).1
          rw [← ageD_lt hak] at hf3
          obtain ⟨A5, c5, e5, _, _⟩ := id hf3
          rw [e5] at k3 hf3
          have HF3 := Lib.hid hf3
          have HK3 := Lib.hid k3
          have HFT := Lib.hid (show freshTo ls ag i (k + 1) = freshTo ls ag i k ++ [(l, (ageD ag k).1)] by
            rw [freshTo_snoc ls ag hki]
            unfold qAt
            rw [← HLE.out, if_neg (show ¬ (k < i ∧ l.1 = 0) from HNC.out)])
          clear hf3 e5 k3
          go_upto_region 6 with fail
          obtain ⟨w2, hw2⟩ : ∃ w2, w2 = wr.alloc (Obj.cells #[Value.int IntKind.i64 l.1, Value.int IntKind.i64 l.2.1, Value.slice A4 l.2.2.length c4] 56) := ⟨_, rfl⟩
          have b2 : Below wr.heap.size wr w2 := by rw [hw2]; exact below1 _ _
          have y2 : Blk w2 bx 56 #[.int .i64 l.1, .int .i64 l.2.1, .slice A4 l.2.2.length c4] := by rw [hw2, HBX.out]; exact Blk.new _ _ _
          rw [← hw2]
          rw [show (wr.heap.size : Nat) = bx from HBX.out.symm]
          clear hw2 k0 k1 k2
          refine wp_region_rel (fun W => Below w.heap.size w W ∧ W.cell? ⟨bx, 0, none⟩ = some (.int .i64 l.1) ∧ W.cell? ⟨bx, 1, none⟩ = some (.int .i64 l.2.1) ∧ W.cell? ⟨bx, 2, none⟩ = some (.slice A4 l.2.2.length c4)) 10 11 (by kernel_rfl) rfl ?_
          obtain ⟨wy, hwy⟩ : ∃ wy, wy = w2.drew := ⟨_, rfl⟩
          have HQ := Lib.hid (show QRel w wy us2 (freshTo ls ag i k) g3 c3 by rw [hwy]; exact HQR.out.on b2.drew)
          have HY := Lib.hid (show Blk wy bx 56 #[.int .i64 l.1, .int .i64 l.2.1, .slice A4 l.2.2.length c4] by rw [hwy]; exact y2)
          have HRB := Lib.hid (show g3 < bx ∧ bx < wy.heap.size from ⟨by rw [HBX.out]; exact (HQR.out.row.lt g3 rfl).2, HY.out.lt⟩)
          rw [← hwy]
          clear hwy b2 y2
          obtain ⟨SS, hSS⟩ : ∃ SS : World → Prop, SS = (fun W => Below w.heap.size w W ∧ W.cell? ⟨bx, 0, none⟩ = some (.int .i64 l.1) ∧ W.cell? ⟨bx, 1, none⟩ = some (.int .i64 l.2.1) ∧ W.cell? ⟨bx, 2, none⟩ = some (.slice A4 l.2.2.length c4)) := ⟨_, rfl⟩
          rw [← hSS]
          have HB := Lib.hid (show ∀ W, SS W → (W.cell? ⟨bx, 0, none⟩ = some (.int .i64 l.1) ∧ W.cell? ⟨bx, 1, none⟩ = some (.int .i64 l.2.1) ∧ W.cell? ⟨bx, 2, none⟩ = some (.slice A4 l.2.2.length c4) ∧ W.cell? ⟨ga, k * 3, none⟩ = some (.slice A5 (ageD ag k).1.length c5)) from by
            rw [hSS]
            intro W hW
            exact ⟨hW.2.1, hW.2.2.1, hW.2.2.2, (hW.1.cell (p := ⟨ga, k * 3, none⟩) hga).trans HK3.out⟩)
          have HS := Lib.hid (show ∀ W : World, Below w.heap.size w W → W.heap[bx]? = wy.heap[bx]? → SS W from by
            rw [hSS]
            intro W hW hx
            have hy : Blk W bx 56 #[.int .i64 l.1, .int .i64 l.2.1, .slice A4 l.2.2.length c4] := hx.trans HY.out
            exact ⟨hW, hy.cell 0, hy.cell 1, hy.cell 2⟩)
          have SB : SS wy := HS.out wy HQ.out.below rfl
          clear hSS
          refine wpAnyR_pure (i := 0) (oi := _) ?vd0 rfl rfl (by kernel_rfl) (by decide) (fun _ _ _ h => h) rfl ?hyd0 (fun _ => SB) ?restd0
          case hyd0 => (intro W; go_simp; (try with_reducible rfl))
          try simp only [List.setIfInBounds_toArray, List.set_cons_zero, List.set_cons_succ]
          refine wpAnyR_take (i := 1) (oi := _) ?vd1 rfl rfl (by kernel_rfl) (fun _ _ _ h => h) rfl ?hyd1 SB ?restd1
          case hyd1 => (intro W hW; obtain ⟨E0, E1, E2, E3⟩ := HB.out W hW; go_simp; (try with_reducible rfl))
          try simp only [List.setIfInBounds_toArray, List.set_cons_zero, List.set_cons_succ]
          refine wpAnyR_pure (i := 2) (oi := _) ?vd2 rfl rfl (by kernel_rfl) (by decide) (fun _ _ _ h => h) rfl ?hyd2 (fun _ => SB) ?restd2
          case hyd2 => (intro W; go_simp; (try with_reducible rfl))
          try simp only [List.setIfInBounds_toArray, List.set_cons_zero, List.set_cons_succ]
          refine wpAnyR_pure (i := 3) (oi := _) ?vd3 rfl rfl (by kernel_rfl) (by decide) (fun _ _ _ h => h) rfl ?hyd3 (fun _ => SB) ?restd3
          case hyd3 => (intro W; go_simp; (try with_reducible rfl))
          try simp only [List.setIfInBounds_toArray, List.set_cons_zero, List.set_cons_succ]
          refine wpAnyR_pure (i := 4) (oi := _) ?vd4 rfl rfl (by kernel_rfl) (by decide) (fun _ _ _ h => h) rfl ?hyd4 (fun _ => SB) ?restd4
          case hyd4 => (intro W; go_simp; (try with_reducible rfl))
          try simp only [List.setIfInBounds_toArray, List.set_cons_zero, List.set_cons_succ]
          refine wpAnyR_pure (i := 5) (oi := _) ?vd5 rfl rfl (by kernel_rfl) (by decide) (fun _ _ _ h => h) rfl ?hyd5 (fun _ => SB) ?restd5
          case hyd5 => (intro W; go_simp; (try with_reducible rfl))
          try simp only [List.setIfInBounds_toArray, List.set_cons_zero, List.set_cons_succ]
          refine wpAnyR_take (i := 6) (oi := _) ?vd6 rfl rfl (by kernel_rfl) (fun _ _ _ h => h) rfl ?hyd6 SB ?restd6
          case hyd6 => (intro W hW; obtain ⟨E0, E1, E2, E3⟩ := HB.out W hW; go_simp; (try with_reducible rfl))
          try simp only [List.setIfInBounds_toArray, List.set_cons_zero, List.set_cons_succ]
          refine wpAnyR_pure (i := 7) (oi := _) ?vd7 rfl rfl (by kernel_rfl) (by decide) (fun _ _ _ h => h) rfl ?hyd7 (fun _ => SB) ?restd7
          case hyd7 => (intro W; go_simp; (try with_reducible rfl))
          try simp only [List.setIfInBounds_toArray, List.set_cons_zero, List.set_cons_succ]
          refine wpAnyR_one (i := 8) (by kernel_rfl) rfl (fun K hK => ?_)
          try rw [if_pos (show Region.wanted _ _ = true from rfl)]
          go_simp
          have S6 : SS _ := HS.out (wy.alloc (Obj.cells #[Value.int IntKind.i64 l.1, Value.int IntKind.i64 l.2.1, Value.slice A4 l.2.2.length c4, Value.slice A5 (ageD ag k).1.length c5] 115)) (HQ.out.below.trans ((below1 wy _).mono HQ.out.below.size)) (Below.heap_alloc _ _ _ HRB.out.2)
          refine hK.out _ _ (fun _ => S6) ?_
          clear hK K
          try simp only [List.setIfInBounds_toArray, List.set_cons_zero, List.set_cons_succ, Act.put]
          refine wpAnyR_one (i := 9) (by kernel_rfl) rfl (fun K hK => ?_)
          refine step_append_lies _ rfl (.tmp 33) (.tmp 41) 91 rfl w.heap.size 115 i0 (.agg #[.int .i64 0, .int .i64 0, .slice none 0 0, .slice none 0 0]) 4 64 Tryz.underlying91 hi0 hz0 hz1 hz2 rfl (by decide) (.slice (some ⟨g3, 0, none⟩) us2.length c3) us2.length (flatQ us2) rfl ?dc1 ⟨wy.heap.size, 0, none⟩ 1 1 [.int .i64 l.1, .int .i64 l.2.1, .slice A4 l.2.2.length c4, .slice A5 (ageD ag k).1.length c5] rfl rfl ?dc4 ?dc2 (by omega) (by unfold maxLen; omega) (by omega) ?dc3 _ rfl ?dc5
          case dc1 => exact HQ.out.row.alloc _
          case dc4 => exact World.news_of_block (cs := #[.int .i64 l.1, .int .i64 l.2.1, .slice A4 l.2.2.length c4, .slice A5 (ageD ag k).1.length c5]) (heap_alloc_new wy _)
          case dc2 => intro u hu; simp at hu; rcases hu with rfl | rfl | rfl | rfl <;> rfl
          case dc3 => have := HQ.out.below.size; simp; omega
          case dc5 =>
          intro g2 cap w5 hown hgr hat _
          have HQ5 := Lib.hid (show QRel w w5 (us2 ++ [(.int .i64 l.1, .int .i64 l.2.1, .slice A4 l.2.2.length c4, .slice A5 (ageD ag k).1.length c5)]) (freshTo ls ag i (k + 1)) g2 cap from by
            rw [HFT.out]
            exact HQ.out.push (u := (.int .i64 l.1, .int .i64 l.2.1, .slice A4 l.2.2.length c4, .slice A5 (ageD ag k).1.length c5)) hgr hown ⟨rfl, rfl, HP3.out.below (HQ.out.below) (Nat.le_refl _), HF3.out.below HQ.out.below (Nat.le_refl _)⟩)
          have S5 : SS w5 := HS.out w5 HQ5.out.below ((grown_from_alloc hgr).block bx HRB.out.2 fun e => by have := HRB.out.1; simp [Value.ownBlock] at e; omega)
          clear hown hgr hat
          refine hK.out _ _ (fun _ => S5) ?_
          clear hK K
          try simp only [List.setIfInBounds_toArray, List.set_cons_zero, List.set_cons_succ, Act.put]
          refine wpAnyR_one (i := 10) (by kernel_rfl) rfl (fun K hK => ?_)
          go_simp
          refine hK.out _ _ (fun hf => absurd hf (by decide)) ?_
          clear hK K
          refine wpAnyR_done (by kernel_rfl) ?_
          clear S5 S6 SB HB HS
          go_wp2_with fail
          go_roundw
          case rel => exact ⟨k + 1, us2 ++ [(.int .i64 l.1, .int .i64 l.2.1, .slice A4 l.2.2.length c4, .slice A5 (ageD ag k).1.length c5)], g2, cap, by omega, by go_num, by simp, by have := (freshTo_len ls ag i k).1; have := HQR.out.rd.1; simp; omega, HQ5.out⟩
          case measure => simp [intOf]; omega
        · have huk : k < us.length := by rw [HAL.out.2, HAL.out.1]; exact hlt
          have hak : k < ag.length := by rw [HAL.out.1]; exact hlt
          have k3 := (HA.out.cells huk).1
          have hf3 := (HR.out.2 k huk hak).1
          rw [← ageD_lt hak] at hf3
          obtain ⟨A5, c5, e5, _, _⟩ := id hf3
          rw [e5] at k3 hf3
          have HF3 := Lib.hid hf3
          have HK3 := Lib.hid k3
          have HFT := Lib.hid (show freshTo ls ag i (k + 1) = freshTo ls ag i k ++ [(l, (ageD ag k).1)] by
            rw [freshTo_snoc ls ag hki]
            unfold qAt
            rw [← HLE.out, if_neg (show ¬ (k < i ∧ l.1 = 0) from HNC.out)])
          clear hf3 e5 k3
          go_upto_region 6 with fail
          obtain ⟨w2, hw2⟩ : ∃ w2, w2 = wr.alloc (Obj.cells #[Value.int IntKind.i64 l.1, Value.int IntKind.i64 l.2.1, Value.slice A4 l.2.2.length c4] 56) := ⟨_, rfl⟩
          have b2 : Below wr.heap.size wr w2 := by rw [hw2]; exact below1 _ _
          have y2 : Blk w2 bx 56 #[.int .i64 l.1, .int .i64 l.2.1, .slice A4 l.2.2.length c4] := by rw [hw2, HBX.out]; exact Blk.new _ _ _
          rw [← hw2]
          rw [show (wr.heap.size : Nat) = bx from HBX.out.symm]
          clear hw2 k0 k1 k2
          refine wp_region_rel (fun W => Below w.heap.size w W ∧ W.cell? ⟨bx, 0, none⟩ = some (.int .i64 l.1) ∧ W.cell? ⟨bx, 1, none⟩ = some (.int .i64 l.2.1) ∧ W.cell? ⟨bx, 2, none⟩ = some (.slice A4 l.2.2.length c4)) 10 11 (by kernel_rfl) rfl ?_
          obtain ⟨wy, hwy⟩ : ∃ wy, wy = w2.drew := ⟨_, rfl⟩
          have HQ := Lib.hid (show QRel w wy us2 (freshTo ls ag i k) g3 c3 by rw [hwy]; exact HQR.out.on b2.drew)
          have HY := Lib.hid (show Blk wy bx 56 #[.int .i64 l.1, .int .i64 l.2.1, .slice A4 l.2.2.length c4] by rw [hwy]; exact y2)
          have HRB := Lib.hid (show g3 < bx ∧ bx < wy.heap.size from ⟨by rw [HBX.out]; exact (HQR.out.row.lt g3 rfl).2, HY.out.lt⟩)
          rw [← hwy]
          clear hwy b2 y2
          obtain ⟨SS, hSS⟩ : ∃ SS : World → Prop, SS = (fun W => Below w.heap.size w W ∧ W.cell? ⟨bx, 0, none⟩ = some (.int .i64 l.1) ∧ W.cell? ⟨bx, 1, none⟩ = some (.int .i64 l.2.1) ∧ W.cell? ⟨bx, 2, none⟩ = some (.slice A4 l.2.2.length c4)) := ⟨_, rfl⟩
          rw [← hSS]
          have HB := Lib.hid (show ∀ W, SS W → (W.cell? ⟨bx, 0, none⟩ = some (.int .i64 l.1) ∧ W.cell? ⟨bx, 1, none⟩ = some (.int .i64 l.2.1) ∧ W.cell? ⟨bx, 2, none⟩ = some (.slice A4 l.2.2.length c4) ∧ W.cell? ⟨ga, k * 3, none⟩ = some (.slice A5 (ageD ag k).1.length c5)) from by
            rw [hSS]
            intro W hW
            exact ⟨hW.2.1, hW.2.2.1, hW.2.2.2, (hW.1.cell (p := ⟨ga, k * 3, none⟩) hga).trans HK3.out⟩)
          have HS := Lib.hid (show ∀ W : World, Below w.heap.size w W → W.heap[bx]? = wy.heap[bx]? → SS W from by
            rw [hSS]
            intro W hW hx
            have hy : Blk W bx 56 #[.int .i64 l.1, .int .i64 l.2.1, .slice A4 l.2.2.length c4] := hx.trans HY.out
            exact ⟨hW, hy.cell 0, hy.cell 1, hy.cell 2⟩)
          have SB : SS wy := HS.out wy HQ.out.below rfl
          clear hSS
          refine wpAnyR_pure (i := 0) (oi := _) ?vf0 rfl rfl (by kernel_rfl) (by decide) (fun _ _ _ h => h) rfl ?hyf0 (fun _ => SB) ?restf0
          case hyf0 => (intro W; go_simp; (try with_reducible rfl))
          try simp only [List.setIfInBounds_toArray, List.set_cons_zero, List.set_cons_succ]
          refine wpAnyR_take (i := 1) (oi := _) ?vf1 rfl rfl (by kernel_rfl) (fun _ _ _ h => h) rfl ?hyf1 SB ?restf1
          case hyf1 => (intro W hW; obtain ⟨E0, E1, E2, E3⟩ := HB.out W hW; go_simp; (try with_reducible rfl))
          try simp only [List.setIfInBounds_toArray, List.set_cons_zero, List.set_cons_succ]
          refine wpAnyR_pure (i := 2) (oi := _) ?vf2 rfl rfl (by kernel_rfl) (by decide) (fun _ _ _ h => h) rfl ?hyf2 (fun _ => SB) ?restf2
          case hyf2 => (intro W; go_simp; (try with_reducible rfl))
          try simp only [List.setIfInBounds_toArray, List.set_cons_zero, List.set_cons_succ]
          refine wpAnyR_pure (i := 3) (oi := _) ?vf3 rfl rfl (by kernel_rfl) (by decide) (fun _ _ _ h => h) rfl ?hyf3 (fun _ => SB) ?restf3
          case hyf3 => (intro W; go_simp; (try with_reducible rfl))
          try simp only [List.setIfInBounds_toArray, List.set_cons_zero, List.set_cons_succ]
          refine wpAnyR_pure (i := 4) (oi := _) ?vf4 rfl rfl (by kernel_rfl) (by decide) (fun _ _ _ h => h) rfl ?hyf4 (fun _ => SB) ?restf4
          case hyf4 => (intro W; go_simp; (try with_reducible rfl))
          try simp only [List.setIfInBounds_toArray, List.set_cons_zero, List.set_cons_succ]
          refine wpAnyR_pure (i := 5) (oi := _) ?vf5 rfl rfl (by kernel_rfl) (by decide) (fun _ _ _ h => h) rfl ?hyf5 (fun _ => SB) ?restf5
          case hyf5 => (intro W; go_simp; (try with_reducible rfl))
          try simp only [List.setIfInBounds_toArray, List.set_cons_zero, List.set_cons_succ]
          refine wpAnyR_take (i := 6) (oi := _) ?vf6 rfl rfl (by kernel_rfl) (fun _ _ _ h => h) rfl ?hyf6 SB ?restf6
          case hyf6 => (intro W hW; obtain ⟨E0, E1, E2, E3⟩ := HB.out W hW; go_simp; (try with_reducible rfl))
          try simp only [List.setIfInBounds_toArray, List.set_cons_zero, List.set_cons_succ]
          refine wpAnyR_pure (i := 7) (oi := _) ?vf7 rfl rfl (by kernel_rfl) (by decide) (fun _ _ _ h => h) rfl ?hyf7 (fun _ => SB) ?restf7
          case hyf7 => (intro W; go_simp; (try with_reducible rfl))
          try simp only [List.setIfInBounds_toArray, List.set_cons_zero, List.set_cons_succ]
          refine wpAnyR_one (i := 8) (by kernel_rfl) rfl (fun K hK => ?_)
          try rw [if_pos (show Region.wanted _ _ = true from rfl)]
          go_simp
          have S6 : SS _ := HS.out (wy.alloc (Obj.cells #[Value.int IntKind.i64 l.1, Value.int IntKind.i64 l.2.1, Value.slice A4 l.2.2.length c4, Value.slice A5 (ageD ag k).1.length c5] 115)) (HQ.out.below.trans ((below1 wy _).mono HQ.out.below.size)) (Below.heap_alloc _ _ _ HRB.out.2)
          refine hK.out _ _ (fun _ => S6) ?_
          clear hK K
          try simp only [List.setIfInBounds_toArray, List.set_cons_zero, List.set_cons_succ, Act.put]
          refine wpAnyR_one (i := 9) (by kernel_rfl) rfl (fun K hK => ?_)
          refine step_append_lies _ rfl (.tmp 33) (.tmp 41) 91 rfl w.heap.size 115 i0 (.agg #[.int .i64 0, .int .i64 0, .slice none 0 0, .slice none 0 0]) 4 64 Tryz.underlying91 hi0 hz0 hz1 hz2 rfl (by decide) (.slice (some ⟨g3, 0, none⟩) us2.length c3) us2.length (flatQ us2) rfl ?fc1 ⟨wy.heap.size, 0, none⟩ 1 1 [.int .i64 l.1, .int .i64 l.2.1, .slice A4 l.2.2.length c4, .slice A5 (ageD ag k).1.length c5] rfl rfl ?fc4 ?fc2 (by omega) (by unfold maxLen; omega) (by omega) ?fc3 _ rfl ?fc5
          case fc1 => exact HQ.out.row.alloc _
          case fc4 => exact World.news_of_block (cs := #[.int .i64 l.1, .int .i64 l.2.1, .slice A4 l.2.2.length c4, .slice A5 (ageD ag k).1.length c5]) (heap_alloc_new wy _)
          case fc2 => intro u hu; simp at hu; rcases hu with rfl | rfl | rfl | rfl <;> rfl
          case fc3 => have := HQ.out.below.size; simp; omega
          case fc5 =>
          intro g2 cap w5 hown hgr hat _
          have HQ5 := Lib.hid (show QRel w w5 (us2 ++ [(.int .i64 l.1, .int .i64 l.2.1, .slice A4 l.2.2.length c4, .slice A5 (ageD ag k).1.length c5)]) (freshTo ls ag i (k + 1)) g2 cap from by
            rw [HFT.out]
            exact HQ.out.push (u := (.int .i64 l.1, .int .i64 l.2.1, .slice A4 l.2.2.length c4, .slice A5 (ageD ag k).1.length c5)) hgr hown ⟨rfl, rfl, HP3.out.below (HQ.out.below) (Nat.le_refl _), HF3.out.below HQ.out.below (Nat.le_refl _)⟩)
          have S5 : SS w5 := HS.out w5 HQ5.out.below ((grown_from_alloc hgr).block bx HRB.out.2 fun e => by have := HRB.out.1; simp [Value.ownBlock] at e; omega)
          clear hown hgr hat
          refine hK.out _ _ (fun _ => S5) ?_
          clear hK K
          try simp only [List.setIfInBounds_toArray, List.set_cons_zero, List.set_cons_succ, Act.put]
          refine wpAnyR_one (i := 10) (by kernel_rfl) rfl (fun K hK => ?_)
          go_simp
          refine hK.out _ _ (fun hf => absurd hf (by decide)) ?_
          clear hK K
          refine wpAnyR_done (by kernel_rfl) ?_
          clear S5 S6 SB HB HS
          go_wp2_with fail
          go_roundw
          case rel => exact ⟨k + 1, us2 ++ [(.int .i64 l.1, .int .i64 l.2.1, .slice A4 l.2.2.length c4, .slice A5 (ageD ag k).1.length c5)], g2, cap, by omega, by go_num, by simp, by have := (freshTo_len ls ag i k).1; have := HQR.out.rd.1; simp; omega, HQ5.out⟩
          case measure => simp [intOf]; omega
    · obtain rfl : k = ls.length := by omega
      have hl2 : us2.length = ls.length := by
        rw [hq.rd.1]
        exact (freshTo_len ls ag i ls.length).2.1 hi
      have HQF := Lib.hid (And.intro (ownQ_at hq.row) hq)
      clear hq
      rw [hl2]
      go_wp2_with fail
      go_ret
      exact ⟨g3, c3, us2, rfl, HQF.out.1.2, HQF.out.1.1, HQF.out.2.rd, HQF.out.2.below⟩

end Go.Proofs.YtebincnejcmocaaGreat
/-
  append of a row of words that is read, nil and empty let in, onto a row of the call's own.
-/
namespace Go.Proofs.YtebincnejcmocaaGreat
open Go.RowKit

theorem run_append_w {P : Program} (w : World) (base : Nat) (t ty e : TypeId) (i : TypeInfo) (z : Value) (bytes : Nat) (ht : P.underlying t = some (.slice e)) (hi : P.info? e = some i) (hz : i.zero = some z)
    (hsize : i.size = 1) (hby : i.bytes = bytes) (hzs : z.cells.size = 1)
    (v : Value) (n : Nat) (xs : List Value) (hown : w.ownsRow base e 1 v n xs) (B : Nat) (x : Value) (ys : List (List Int)) (hr : RdW w B x ys)
    (h63 : n + ys.length ≤ maxLen) (hbytes : (n + ys.length) * bytes ≤ 140737488355328) (hbase : base ≤ w.heap.size) :
    ∃ A' c' w', (Builtin.append_ #[t, t] ty #[v, x]).run P w = .ok (.slice A' (n + ys.length) c') w' ∧ w'.ownsRow base e 1 (.slice A' (n + ys.length) c') (n + ys.length) (xs ++ ys.map wd) ∧ w.grownBy w' v.ownBlock ∧
      ((Value.slice A' (n + ys.length) c').ownBlock = v.ownBlock ∨ (Value.slice A' (n + ys.length) c').ownBlock = some w.heap.size) := by
  have hform : ∀ {w' : World} {v' : Value} {m : Nat} {zs : List Value}, w'.ownsRow base e 1 v' m zs → ∃ A c, v' = .slice A m c := by
    intro w' v' m zs h
    rcases h.2 with ⟨rfl, h0⟩ | ⟨g, cap, _, rfl, _⟩
    · exact ⟨none, 0, by rw [h0]⟩
    · exact ⟨_, _, rfl⟩
  obtain ⟨A, c, rfl, hc, hcell⟩ := hr
  rcases A with _ | ad
  · have h0 : ys.length = 0 := by
      rcases Nat.eq_zero_or_pos ys.length with h0 | h0
      · exact h0
      · obtain ⟨b, o, e, _⟩ := hcell h0
        cases e
    have hys : ys = [] := List.eq_nil_of_length_eq_zero h0
    subst hys
    obtain ⟨A', c', hv⟩ := hform hown
    refine ⟨A', c', w, ?_, by simpa [← hv] using hown, World.grownBy.refl w _, .inl (by rw [hv]; rfl)⟩
    simp only [List.length_nil, Nat.add_zero]
    rw [← hv]
    exact run_append_nilsrc w base t ty e i 1 ht hi v n xs hown c
  · have hnews : ∀ j u, (ys.map wd)[j]? = some u → w.cell? (ad.add j) = some u := by
      intro j u hu
      have hj : j < ys.length := by
        rcases Nat.lt_or_ge j ys.length with h | h
        · exact h
        · rw [List.getElem?_eq_none (by simpa using h)] at hu; cases hu
      obtain ⟨b, o, e, _, hx⟩ := hcell (by omega)
      injection e with e
      subst e
      rw [Go.WideShapes.add_plain, hx j hj]
      rw [List.getElem?_map, List.getElem?_eq_getElem hj] at hu
      exact hu
    obtain ⟨v', w', hrun, h2, h3, _, h5⟩ := run_append_own_at (P := P) w base t ty e i z 1 bytes ht hi hz hsize hby hzs (by decide) v n xs hown ad ys.length c (ys.map wd) (by simp) hnews
      (fun u hu => by simp at hu; obtain ⟨q, _, rfl⟩ := hu; rfl) h63 hbytes hbase
    obtain ⟨A', c', hv⟩ := hform h2
    subst hv
    exact ⟨A', c', w', hrun, h2, h3, h5⟩

theorem wpList_append_w {P : Program} {w : World} {ops : Array Oper} {rest : List Oper} {o : Oper} {a : Act} {Q : Exit → Act → World → Prop} (hgd : o.guard = none) (s x : Operand) (t : TypeId)
    (ho : o.op = .call { callee := .builtin .append, args := #[s, x], argTypes := #[t, t] })
    (base : Nat) (e : TypeId) (i : TypeInfo) (z : Value) (bytes : Nat) (ht : P.underlying t = some (.slice e)) (hi : P.info? e = some i) (hz : i.zero = some z)
    (hsize : i.size = 1) (hby : i.bytes = bytes) (hzs : z.cells.size = 1)
    (v : Value) (n : Nat) (xs : List Value) (hs : a.eval s = v) (hown : w.ownsRow base e 1 v n xs) (B : Nat) (xv : Value) (ys : List (List Int)) (hx : a.eval x = xv) (hr : RdW w B xv ys)
    (h63 : n + ys.length ≤ maxLen) (hbytes : (n + ys.length) * bytes ≤ 140737488355328) (hbase : base ≤ w.heap.size)
    (h : ∀ A' c' w', w'.ownsRow base e 1 (.slice A' (n + ys.length) c') (n + ys.length) (xs ++ ys.map wd) → w.grownBy w' v.ownBlock →
      ((Value.slice A' (n + ys.length) c').ownBlock = v.ownBlock ∨ (Value.slice A' (n + ys.length) c').ownBlock = some w.heap.size) → wpList P ops Q rest (a.put o.dst (.slice A' (n + ys.length) c')) w') : wpList P ops Q (o :: rest) a w := by
  refine wpList_plain hgd fun _ hK => ?_
  obtain ⟨A', c', w', hrun, h2, h3, h4⟩ := run_append_w (P := P) w base t o.type e i z bytes ht hi hz hsize hby hzs v n xs hown B xv ys hr h63 hbytes hbase
  unfold Oper.wp execOp
  simp only [ho, resolve, invoke, builtin, Sem.run_bind, Sem.run_pure, Result.andThen_ok, List.map_toArray, List.map_cons, List.map_nil, hs, hx, hrun]
  exact hK _ _ (h A' c' w' h2 h3 h4)

end Go.Proofs.YtebincnejcmocaaGreat
/-
  solveFresh: what makes a body hold with some atom among new facts.
-/
namespace Go.Proofs.YtebincnejcmocaaGreat
open Go.RowKit

theorem freshTo_step {ls : List LLit} {ag : List LAge} {k : Nat} {S S1 : List (List Int)} (h0 : (litD ls k).1 = 0) (h : ∀ b, b ∈ S ↔ FreshSolTo ls ag k b) (h1 : ∀ b, b ∈ S1 ↔ bindOk b = true ∧ DomL ls b ∧ FreshAt ls ag k b) (b : List Int) : b ∈ S ++ S1 ↔ FreshSolTo ls ag (k + 1) b := by
  rw [List.mem_append, h b, h1 b]
  unfold FreshSolTo
  constructor
  · rintro (⟨a1, a2, i, hi, a3⟩ | ⟨a1, a2, a3⟩)
    · exact ⟨a1, a2, i, by omega, a3⟩
    · exact ⟨a1, a2, k, by omega, h0, a3⟩
  · rintro ⟨a1, a2, i, hi, a3, a4⟩
    by_cases e : i = k
    · subst e
      exact .inr ⟨a1, a2, a4⟩
    · exact .inl ⟨a1, a2, i, by omega, a3, a4⟩
theorem freshTo_skip {ls : List LLit} {ag : List LAge} {k : Nat} (h0 : ¬ ((litD ls k).1 = 0 ∧ 0 < (ageD ag k).2.2.length)) (b : List Int) : FreshSolTo ls ag k b ↔ FreshSolTo ls ag (k + 1) b := by
  unfold FreshSolTo
  constructor
  · rintro ⟨a1, a2, i, hi, a3⟩
    exact ⟨a1, a2, i, by omega, a3⟩
  · rintro ⟨a1, a2, i, hi, a3, a4⟩
    refine ⟨a1, a2, i, ?_, a3, a4⟩
    rcases Nat.lt_or_ge i k with h | h
    · exact h
    · obtain rfl : i = k := by omega
      have h5 := ((hold_yes a3).1 a4.1).2
      exact absurd ⟨a3, List.length_pos_of_mem h5⟩ h0

set_option maxHeartbeats 4000000 in
set_option maxRecDepth 100000 in
theorem solveFresh_any (ga ca : Nat) (ls : List LLit) (ag : List LAge) (us : List AV) (v : Value) (w : World) (h : RdLits w w.heap.size v ls) (h2 : AtA w ga ca us) (h3 : RdAges w w.heap.size us ag) (hal : ag.length = ls.length) (hs : SafeB ls) (htl : totL ls ≤ 1048576) (hok : ∀ a ∈ ag, AgeOk a) :
    Calls Tryz.prog 40 #[v, .slice (some ⟨ga, 0, none⟩) ls.length ca] w fun e' w' =>
      ∃ (A : Option Addr) (c : Nat) (S : List (List Int)), e' = .returned (.slice A S.length c) ∧ OwnW w' w.heap.size w'.heap.size (.slice A S.length c) S ∧ Below w.heap.size w w' ∧ (∀ b, b ∈ S ↔ FreshSol ls ag b) ∧ S.length ≤ 262144 ∧ ((∀ j f, f ∈ (ageD ag j).2.1 → f ∉ (ageD ag j).2.2) → S.Nodup) := by
  obtain ⟨i0, hi0, hz0, hz1, hz2⟩ := info_parts Tryz.infoWord
  have hn := hs.few
  have HL := Lib.hid h
  have HA := Lib.hid h2
  have HR := Lib.hid h3
  have HAL := Lib.hid (And.intro hal h3.1)
  have HS := Lib.hid hs
  have HOK := Lib.hid hok
  obtain ⟨A, c, rfl, hc, _⟩ := h
  clear h2 h3 hal hs hok
  go_enter Tryz.func40, Tryz.ntmps40
  go_wp2_with fail
  go_loopw [5, 10] (fun q x wr => ∃ (k : Nat) (A' : Option Addr) (c' : Nat) (S : List (List Int)), k ≤ ls.length ∧ x = .int .i64 k ∧ q = .slice A' S.length c' ∧ OwnW wr w.heap.size wr.heap.size (.slice A' S.length c') S ∧ Below w.heap.size w wr ∧ (∀ b, b ∈ S ↔ FreshSolTo ls ag k b) ∧ S.length ≤ k * 65536 ∧ ((∀ j f, f ∈ (ageD ag j).2.1 → f ∉ (ageD ag j).2.2) → S.Nodup)) (fun _ x _ => ls.length - (intOf x).toNat)
  case atStart => exact ⟨0, none, 0, [], Nat.zero_le _, rfl, rfl, ⟨World.ownsRow_nil _ _ _ _, fun g hg => by cases hg⟩, Below.refl _ _, fun b => by simp [FreshSolTo], by simp, fun _ => List.nodup_nil⟩
  case round =>
    obtain ⟨k, A', c', S, hk, rfl, rfl, how, hbe, hmem, hlen, hnd⟩ := hrel
    have HO := Lib.hid how
    have HBE := Lib.hid hbe
    have HM := Lib.hid hmem
    have HND := Lib.hid hnd
    clear how hmem hnd
    by_cases hlt : k < ls.length
    · obtain ⟨b, o3, u0, u1, u2, rfl, hbB, k0, k1, k2, rfl, rfl, p3⟩ := (HL.out.below hbe (Nat.le_refl _)).get hlt
      obtain ⟨A4, c4, rfl, hc4, _⟩ := id p3
      obtain ⟨l, hle⟩ : ∃ l, l = litD ls k := ⟨_, rfl⟩
      have hli : l = ls[k] := by rw [hle, litD_lt hlt]
      rw [← hli] at k0 k1 k2 hc4
      have huk : k < us.length := by rw [HAL.out.2, HAL.out.1]; exact hlt
      have hak : k < ag.length := by rw [HAL.out.1]; exact hlt
      have hga : ga < w.heap.size := HA.out.lt
      have k3 := (hbe.cell (p := ⟨ga, k * 3 + 2, none⟩) hga).trans (HA.out.cells huk).2.2
      have hf3 := (HR.out.2 k huk hak).2.2
      rw [← ageD_lt hak] at hf3
      obtain ⟨A5, c5, e5, _, _⟩ := hf3
      rw [e5] at k3
      obtain ⟨n5, hn5⟩ : ∃ n5, n5 = (ageD ag k).2.2.length := ⟨_, rfl⟩
      rw [← hn5] at k3
      have HN5 := Lib.hid hn5
      have HLE := Lib.hid hle
      have k3' := (below1 wr (Obj.cells #[Value.int IntKind.i64 l.1, Value.int IntKind.i64 l.2.1, Value.slice A4 l.2.2.length c4] 56)).cell (p := ⟨ga, k * 3 + 2, none⟩) (by have := hbe.size; show ga < _; omega)
      rw [k3] at k3'
      clear hle hli p3 hbe e5 hn5
      by_cases hcond : l.1 = 0 ∧ 0 < n5
      · obtain ⟨hc1, hc2⟩ := hcond
        have hd1 : (l.1 == 0) = true := by simpa using hc1
        have hd2 : decide (0 < n5) = true := decide_eq_true hc2
        have HC1 := Lib.hid hc1
        clear hc1
        obtain ⟨w2, hw2⟩ : ∃ w2, w2 = wr.alloc (Obj.cells #[Value.int IntKind.i64 l.1, Value.int IntKind.i64 l.2.1, Value.slice A4 l.2.2.length c4] 56) := ⟨_, rfl⟩
        have HB2 := Lib.hid (show Below wr.heap.size wr w2 by rw [hw2]; exact below1 _ _)
        have HW2 := Lib.hid hw2
        clear hw2
        have CF := Lib.hid (freshQuestions_any ga ca k ls ag us (.slice (some ⟨b, o3, none⟩) ls.length c) w2 ((HL.out.on HBE.out).on HB2.out) ((HA.out.below HBE.out hga).below HB2.out (by have := HBE.out.size; omega)) ((HR.out.below HBE.out (Nat.le_refl _)).below HB2.out HBE.out.size |>.more (by have := HBE.out.size; have := HB2.out.size; omega)) HAL.out.1 hlt hn)
        go_upto_region 6 with fail
        rw [← HW2.out]
        go_wp2_with (first
          | (go_at_call 66; refine CF.out.mono ?_; rintro e3 w3 ⟨g2, c2, us2, rfl, hg2, at3, rd3, b3⟩
             have CS := solve_any g2 c2 w2.heap.size us2 (freshTo ls ag k ls.length) w3 at3 rd3 hg2 (by have := (freshTo_len ls ag k ls.length).1; omega) (freshQ_ok hlt HAL.out.1 HS.out htl HOK.out) (freshQ_safe hlt HS.out)
             rw [(freshTo_len ls ag k ls.length).2.1 hlt] at CS
             have HCS := Lib.hid CS
             have H3 := Lib.hid (And.intro hg2 b3)
             clear CS hg2 at3 rd3 b3)
          | (go_at_call 60; refine HCS.out.mono ?_; rintro e4 w4 ⟨A6, c6, S1, rfl, own4, on4, is4⟩
             have H4 := Lib.hid (And.intro own4 (And.intro on4 is4))
             clear own4 on4 is4
             have hs3 := H3.out.2.size
             have hs2 := HB2.out.size
             have hs4 := H4.out.2.1.size
             have hg2 := H3.out.1
             have hl4 : S1.length ≤ 65536 := binds_len H4.out.2.2.1 H4.out.2.2.ok
             have hsr := HBE.out.size
             have B4 : Below wr.heap.size wr w4 := (bthen HB2.out H3.out.2).trans (H4.out.2.1.below (by omega) (by omega))
             have HB4 := Lib.hid B4
             clear B4)
          | (at_builtin; refine wpList_append_w rfl (.tmp 27) (.tmp 32) 59 rfl w.heap.size 73 i0 (.int .u32 0) 4 Tryz.underlying59 hi0 hz0 hz1 hz2 rfl (.slice A' S.length c') S.length (S.map wd) rfl (HO.out.below HB4.out (Nat.le_refl _)).1 w4.heap.size (.slice A6 S1.length c6) S1 rfl H4.out.1.rd (by unfold maxLen; omega) (by omega) (by omega) ?_))
        intro A7 c7 w5 hown hgr hat
        obtain ⟨_, hmm⟩ := freshQ_is hlt H4.out.2.2
        have HF := Lib.hid (show OwnW w5 w.heap.size w5.heap.size (.slice A7 (S ++ S1).length c7) (S ++ S1) ∧ Below w.heap.size w w5 ∧ (∀ b, b ∈ S ++ S1 ↔ FreshSolTo ls ag (k + 1) b) ∧ (S ++ S1).length ≤ (k + 1) * 65536 ∧ ((∀ j f, f ∈ (ageD ag j).2.1 → f ∉ (ageD ag j).2.2) → (S ++ S1).Nodup) from by
          refine ⟨⟨?_, fun g hg => ?_⟩, ?_, freshTo_step (by rw [← HLE.out]; exact HC1.out) HM.out hmm, by simp; omega, fun hd => ?_⟩
          · rw [List.length_append, List.map_append]
            exact hown
          · rw [List.length_append] at hg
            exact (hown.lt g hg).2
          · refine (HBE.out.trans (HB4.out.mono hsr)).grown hgr (by omega) fun k hk => ?_
            exact ((HO.out.1).lt k hk).1
          · rw [List.nodup_append]
            refine ⟨HND.out hd, H4.out.2.2.1, fun x hx y hy e => ?_⟩
            subst e
            obtain ⟨_, _, i, hi, h0, hf⟩ := (HM.out x).1 hx
            exact fresh_apart (show i < ls.length by omega) hi h0 (hd i) hf ((hmm x).1 hy).2.2)
        have hlen2 : S.length + S1.length = (S ++ S1).length := by simp
        rw [hlen2]
        have HF2 := Lib.hid (And.intro hlen2 HF.out)
        clear hlen2 hown hgr hat hmm
        go_wp2_with fail
        go_roundw
        case rel => exact ⟨k + 1, A7, c7, S ++ S1, by omega, by go_num, rfl, HF.out.1, HF.out.2.1, HF.out.2.2.1, HF.out.2.2.2.1, HF.out.2.2.2.2⟩
        case measure => simp [intOf]; omega
      · have HNC := Lib.hid (show ∀ b, FreshSolTo ls ag k b ↔ FreshSolTo ls ag (k + 1) b from freshTo_skip (by rw [← HLE.out, ← HN5.out]; exact hcond))
        have hd : ((l.1 == 0) = true ∧ decide (0 < n5) = false) ∨ (l.1 == 0) = false := by
          by_cases e : l.1 = 0
          · exact .inl ⟨by simpa using e, by
              exact decide_eq_false fun h => hcond ⟨e, h⟩⟩
          · exact .inr (by simpa using e)
        clear hcond
        rcases hd with ⟨hd1, hd2⟩ | hd1
        all_goals
          go_wp2_with fail
          go_roundw
          case rel => exact ⟨k + 1, A', c', S, by omega, by go_num, rfl, (HO.out.below (below1 _ _) (Nat.le_refl _)).mono (Nat.le_refl _) (below1 _ _).size, bthen HBE.out (below1 _ _), fun b => (HM.out b).trans (HNC.out b), Nat.le_trans hlen (Nat.mul_le_mul_right _ (Nat.le_succ k)), HND.out⟩
          case measure => simp [intOf]; omega
    · obtain rfl : k = ls.length := by omega
      clear hbe
      go_wp2_with fail
      go_ret
      exact ⟨A', c', S, rfl, HO.out, HBE.out, HM.out, by omega, HND.out⟩

end Go.Proofs.YtebincnejcmocaaGreat
/-
  Two functions of the library, laid at this program: the numbers of their functions and types. No condition.
-/
namespace Go.Proofs
open Go.Shelf
def Tryz.sortFact_ren : Go.Shelf.Ren := ⟨fun | 6 => 109 | 15 => 69 | 14 => 128 | 28 => 98 | 29 => 99 | 20 => 145 | 21 => 146 | 22 => 147 | 23 => 148 | 24 => 149 | 25 => 150 | 26 => 151 | 27 => 152 | 46 => 158 | 47 => 115 | 48 => 116 | 49 => 159 | 50 => 160 | 57 => 169 | n => n, fun | 22 => 28 | 24 => 52 | 25 => 108 | 3 => 3 | 39 => 88 | 0 => 0 | 53 => 72 | 55 => 122 | 4 => 4 | 46 => 127 | 45 => 126 | 50 => 132 | 5 => 5 | 9 => 9 | 66 => 143 | 70 => 147 | 76 => 158 | 77 => 159 | n => n, fun | n => n⟩
theorem Tryz.sortFact : Go.Proofs.SlLaysF0.n6 Tryz.prog Tryz.sortFact_ren := {
  mixed := by kernel_rfl
  f6 := ⟨Tryz.f109.name, by decide, Tryz.func109.trans (congrArg some (by kernel_rfl))⟩
  f14 := ⟨Tryz.f128.name, by decide, Tryz.func128.trans (congrArg some (by kernel_rfl))⟩
  f15 := Tryz.func69.trans (congrArg some (by kernel_rfl))
  f20 := ⟨Tryz.f145.name, by decide, Tryz.func145.trans (congrArg some (by kernel_rfl))⟩
  f21 := ⟨Tryz.f146.name, by decide, Tryz.func146.trans (congrArg some (by kernel_rfl))⟩
  f22 := ⟨Tryz.f147.name, by decide, Tryz.func147.trans (congrArg some (by kernel_rfl))⟩
  f23 := ⟨Tryz.f148.name, by decide, Tryz.func148.trans (congrArg some (by kernel_rfl))⟩
  f24 := ⟨Tryz.f149.name, by decide, Tryz.func149.trans (congrArg some (by kernel_rfl))⟩
  f25 := ⟨Tryz.f150.name, by decide, Tryz.func150.trans (congrArg some (by kernel_rfl))⟩
  f26 := ⟨Tryz.f151.name, by decide, Tryz.func151.trans (congrArg some (by kernel_rfl))⟩
  f27 := ⟨Tryz.f152.name, by decide, Tryz.func152.trans (congrArg some (by kernel_rfl))⟩
  f28 := Tryz.func98.trans (congrArg some (by kernel_rfl))
  f29 := Tryz.func99.trans (congrArg some (by kernel_rfl))
  f46 := ⟨Tryz.f158.name, by decide, Tryz.func158.trans (congrArg some (by kernel_rfl))⟩
  f47 := Tryz.func115.trans (congrArg some (by kernel_rfl))
  f48 := Tryz.func116.trans (congrArg some (by kernel_rfl))
  f49 := ⟨Tryz.f159.name, by decide, Tryz.func159.trans (congrArg some (by kernel_rfl))⟩
  f50 := ⟨Tryz.f160.name, by decide, Tryz.func160.trans (congrArg some (by kernel_rfl))⟩
  f57 := ⟨Tryz.f169.name, by decide, Tryz.func169.trans (congrArg some (by kernel_rfl))⟩
  t0 := Tryz.underlying0
  a0 := Tryz.isAgg0
  z0 := Tryz.sizeOf0
  v0 := Tryz.zeroValue0
  t3 := Tryz.underlying3
  a3 := Tryz.isAgg3
  z3 := Tryz.sizeOf3
  v3 := Tryz.zeroValue3
  t4 := Tryz.underlying4
  a4 := Tryz.isAgg4
  z4 := Tryz.sizeOf4
  v4 := Tryz.zeroValue4
  t5 := Tryz.underlying5
  a5 := Tryz.isAgg5
  z5 := Tryz.sizeOf5
  v5 := Tryz.zeroValue5
  t9 := Tryz.underlying9
  a9 := Tryz.isAgg9
  z9 := Tryz.sizeOf9
  v9 := Tryz.zeroValue9
  t22 := Tryz.underlying28
  a22 := Tryz.isAgg28
  z22 := Tryz.sizeOf28
  v22 := Tryz.zeroValue28
  t25 := Tryz.underlying108
  a25 := Tryz.isAgg108
  z25 := Tryz.sizeOf108
  v25 := Tryz.zeroValue108
  t39 := Tryz.underlying88
  a39 := Tryz.isAgg88
  z39 := Tryz.sizeOf88
  v39 := Tryz.zeroValue88
  t45 := Tryz.underlying126
  a45 := Tryz.isAgg126
  z45 := Tryz.sizeOf126
  v45 := Tryz.zeroValue126
  t46 := Tryz.underlying127
  a46 := Tryz.isAgg127
  z46 := Tryz.sizeOf127
  v46 := Tryz.zeroValue127
  t50 := Tryz.underlying132
  a50 := Tryz.isAgg132
  z50 := Tryz.sizeOf132
  v50 := Tryz.zeroValue132
  t53 := Tryz.underlying72
  a53 := Tryz.isAgg72
  z53 := Tryz.sizeOf72
  v53 := Tryz.zeroValue72
  t55 := Tryz.underlying122
  a55 := Tryz.isAgg122
  z55 := Tryz.sizeOf122
  v55 := Tryz.zeroValue122
  t66 := Tryz.underlying143
  a66 := Tryz.isAgg143
  z66 := Tryz.sizeOf143
  v66 := Tryz.zeroValue143
  t70 := Tryz.underlying147
  a70 := Tryz.isAgg147
  z70 := Tryz.sizeOf147
  v70 := Tryz.zeroValue147
  t76 := Tryz.underlying158
  a76 := Tryz.isAgg158
  z76 := Tryz.sizeOf158
  v76 := Tryz.zeroValue158
  t77 := Tryz.underlying159
  a77 := Tryz.isAgg159
  z77 := Tryz.sizeOf159
  v77 := Tryz.zeroValue159 }
end Go.Proofs
/-
  append of a slice of facts that is read, nil and empty let in, onto a row of the call's own: the headers are shared.
-/
namespace Go.Proofs.YtebincnejcmocaaGreat
open Go.RowKit

/-- The headers av read as the facts' rows. -/
def RdArgs (w : World) (B : Nat) (av : List Value) (fs : List LFact) : Prop := av.length = fs.length ∧ ∀ k (_ : k < fs.length) (h' : k < av.length) (h : k < fs.length), RdInts w B av[k] fs[k].2
theorem RdArgs.nil (w : World) (B : Nat) : RdArgs w B [] [] := ⟨rfl, fun k h => absurd h (by simp)⟩
theorem RdArgs.on {w w' : World} {av : List Value} {fs : List LFact} (h : RdArgs w w.heap.size av fs) (hb : Below w.heap.size w w') : RdArgs w' w'.heap.size av fs := ⟨h.1, fun k h1 h2 h3 => (h.2 k h1 h2 h3).on hb⟩
theorem RdArgs.append {w : World} {B : Nat} {av av2 : List Value} {fs fs2 : List LFact} (h : RdArgs w B av fs) (h2 : RdArgs w B av2 fs2) : RdArgs w B (av ++ av2) (fs ++ fs2) := by
  refine ⟨by simp [h.1, h2.1], fun k _ h' hk => ?_⟩
  by_cases e : k < fs.length
  · have e' : k < av.length := by rw [h.1]; exact e
    rw [List.getElem_append_left e', List.getElem_append_left e]
    exact h.2 k e e' e
  · have e' : ¬ k < av.length := by rw [h.1]; exact e
    have l1 := h.1
    simp only [List.length_append] at h' hk
    rw [List.getElem_append_right (by omega), List.getElem_append_right (by omega)]
    have := h2.2 (k - fs.length) (by omega) (by omega) (by omega)
    simpa [l1] using this
theorem flat_append : ∀ (fs : List LFact) (av : List Value) (_ : av.length = fs.length) (fs2 : List LFact) (av2 : List Value), flat (fs ++ fs2) (av ++ av2) = flat fs av ++ flat fs2 av2
  | [], [], _, _, _ => by simp [flat]
  | [], _ :: _, h, _, _ => by simp at h
  | _ :: _, [], h, _, _ => by simp at h
  | f :: fs, a :: av, h, fs2, av2 => by simp [flat, flat_append fs av (by simpa using h) fs2 av2]

/-- What is read at a slice of facts, cell by cell. -/
def CellsAt (w : World) (A : Option Addr) (cs : List Value) : Prop := (A = none → cs = []) ∧ ∀ ad, A = some ad → ∀ j u, cs[j]? = some u → w.cell? (ad.add j) = some u

theorem flat_get (fs : List LFact) (av : List Value) (h : av.length = fs.length) (j : Nat) (u : Value) (hu : (flat fs av)[j]? = some u) :
    ∃ k, ∃ (hk : k < fs.length) (hk' : k < av.length), (j = k * 2 ∧ u = .int .i64 fs[k].1) ∨ (j = k * 2 + 1 ∧ u = av[k]) := by
  have hl := flat_length fs av h
  have hj : j < fs.length * 2 := by
    rcases Nat.lt_or_ge j (fs.length * 2) with h1 | h1
    · exact h1
    · rw [List.getElem?_eq_none (by omega)] at hu
      cases hu
  have hk : j / 2 < fs.length := by omega
  obtain ⟨c0, c1⟩ := flat_at fs av h (j / 2) hk (by omega)
  refine ⟨j / 2, hk, by omega, ?_⟩
  by_cases e : j % 2 = 0
  · left
    have e1 : j = j / 2 * 2 := by omega
    refine ⟨e1, ?_⟩
    rw [e1, c0] at hu
    exact (Option.some.inj hu).symm
  · right
    have e1 : j = j / 2 * 2 + 1 := by omega
    refine ⟨e1, ?_⟩
    rw [e1, c1] at hu
    exact (Option.some.inj hu).symm

theorem RdFacts.heads {w : World} {B : Nat} {v : Value} {fs : List LFact} (h : RdFacts w B v fs) : ∃ A c av, v = .slice A fs.length c ∧ RdArgs w B av fs ∧ CellsAt w A (flat fs av) := by
  obtain ⟨A, c, rfl, hc, h⟩ := h
  rcases Nat.eq_zero_or_pos fs.length with h0 | h0
  · have : fs = [] := List.eq_nil_of_length_eq_zero h0
    subst this
    exact ⟨A, c, [], rfl, RdArgs.nil _ _, fun _ => rfl, fun ad _ j u hu => by simp [flat] at hu⟩
  · obtain ⟨b, o, rfl, hb, hx⟩ := h h0
    let av : List Value := (List.finRange fs.length).map fun k => (hx k.1 k.2).choose
    have hl : av.length = fs.length := by simp [av]
    have hav : ∀ k (h : k < fs.length) (h' : k < av.length), av[k] = (hx k h).choose := fun k h h' => by simp [av]
    refine ⟨_, c, av, rfl, ⟨hl, fun k _ h' hk => ?_⟩, fun e => (by cases e), fun ad e j u hu => ?_⟩
    · rw [hav k hk h']
      exact (hx k hk).choose_spec.2.2
    · injection e with e
      subst e
      obtain ⟨k, hk, hk', h1⟩ := flat_get fs av hl j u hu
      rw [Go.WideShapes.add_plain]
      rcases h1 with ⟨rfl, rfl⟩ | ⟨rfl, rfl⟩
      · exact (hx k hk).choose_spec.1
      · rw [hav k hk hk']
        exact (hx k hk).choose_spec.2.1

theorem flat_one (fs : List LFact) (av : List Value) {w : World} {B : Nat} (h : RdArgs w B av fs) : ∀ u ∈ flat fs av, u.oneCell' = true := by
  intro u hu
  obtain ⟨j, hj, e⟩ := List.getElem_of_mem hu
  obtain ⟨k, hk, hk', h1⟩ := flat_get fs av h.1 j u (by rw [List.getElem?_eq_getElem hj, e])
  rcases h1 with ⟨_, rfl⟩ | ⟨_, rfl⟩
  · rfl
  · obtain ⟨A, c, e, _⟩ := h.2 k hk hk' hk
    rw [e]
    rfl

theorem run_append_facts {P : Program} (w : World) (base : Nat) (t ty e : TypeId) (i : TypeInfo) (z : Value) (bytes : Nat) (ht : P.underlying t = some (.slice e)) (hi : P.info? e = some i) (hz : i.zero = some z)
    (hsize : i.size = 2) (hby : i.bytes = bytes) (hzs : z.cells.size = 2)
    (v : Value) (n : Nat) (xs : List Value) (hown : w.ownsRow base e 2 v n xs) (A : Option Addr) (c : Nat) (fs : List LFact) (av : List Value) (B : Nat) (ha : RdArgs w B av fs) (hx : CellsAt w A (flat fs av))
    (h63 : n + fs.length ≤ maxLen) (hbytes : (n + fs.length) * bytes ≤ 140737488355328) (hbase : base ≤ w.heap.size) :
    ∃ A' c' w', (Builtin.append_ #[t, t] ty #[v, .slice A fs.length c]).run P w = .ok (.slice A' (n + fs.length) c') w' ∧ w'.ownsRow base e 2 (.slice A' (n + fs.length) c') (n + fs.length) (xs ++ flat fs av) ∧ w.grownBy w' v.ownBlock ∧
      ((Value.slice A' (n + fs.length) c').ownBlock = v.ownBlock ∨ (Value.slice A' (n + fs.length) c').ownBlock = some w.heap.size) := by
  have hform : ∀ {w' : World} {v' : Value} {m : Nat} {zs : List Value}, w'.ownsRow base e 2 v' m zs → ∃ A c, v' = .slice A m c := by
    intro w' v' m zs h
    rcases h.2 with ⟨rfl, h0⟩ | ⟨g, cap, _, rfl, _⟩
    · exact ⟨none, 0, by rw [h0]⟩
    · exact ⟨_, _, rfl⟩
  rcases A with _ | ad
  · have h0 := hx.1 rfl
    have hl := flat_length fs av ha.1
    rw [h0] at hl
    have hfs : fs = [] := List.eq_nil_of_length_eq_zero (by simp at hl; omega)
    subst hfs
    obtain ⟨A', c', hv⟩ := hform hown
    refine ⟨A', c', w, ?_, by simpa [flat, ← hv] using hown, World.grownBy.refl w _, .inl (by simp only [List.length_nil, Nat.add_zero]; rw [hv])⟩
    simp only [List.length_nil, Nat.add_zero]
    rw [← hv]
    exact run_append_nilsrc w base t ty e i 2 ht hi v n xs hown c
  · obtain ⟨v', w', hrun, h2, h3, _, h5⟩ := run_append_own_at (P := P) w base t ty e i z 2 bytes ht hi hz hsize hby hzs (by decide) v n xs hown ad fs.length c (flat fs av) (flat_length fs av ha.1) (hx.2 ad rfl)
      (flat_one fs av ha) h63 hbytes hbase
    obtain ⟨A', c', hv⟩ := hform h2
    subst hv
    exact ⟨A', c', w', hrun, h2, h3, h5⟩

theorem wpList_append_facts {P : Program} {w : World} {ops : Array Oper} {rest : List Oper} {o : Oper} {a : Act} {Q : Exit → Act → World → Prop} (hgd : o.guard = none) (s x : Operand) (t : TypeId)
    (ho : o.op = .call { callee := .builtin .append, args := #[s, x], argTypes := #[t, t] })
    (base : Nat) (e : TypeId) (i : TypeInfo) (z : Value) (bytes : Nat) (ht : P.underlying t = some (.slice e)) (hi : P.info? e = some i) (hz : i.zero = some z)
    (hsize : i.size = 2) (hby : i.bytes = bytes) (hzs : z.cells.size = 2)
    (v : Value) (n : Nat) (xs : List Value) (hs : a.eval s = v) (hown : w.ownsRow base e 2 v n xs) (A : Option Addr) (c : Nat) (fs : List LFact) (av : List Value) (B : Nat) (hx : a.eval x = .slice A fs.length c) (ha : RdArgs w B av fs) (hc : CellsAt w A (flat fs av))
    (h63 : n + fs.length ≤ maxLen) (hbytes : (n + fs.length) * bytes ≤ 140737488355328) (hbase : base ≤ w.heap.size)
    (h : ∀ A' c' w', w'.ownsRow base e 2 (.slice A' (n + fs.length) c') (n + fs.length) (xs ++ flat fs av) → w.grownBy w' v.ownBlock →
      ((Value.slice A' (n + fs.length) c').ownBlock = v.ownBlock ∨ (Value.slice A' (n + fs.length) c').ownBlock = some w.heap.size) → wpList P ops Q rest (a.put o.dst (.slice A' (n + fs.length) c')) w') : wpList P ops Q (o :: rest) a w := by
  refine wpList_plain hgd fun _ hK => ?_
  obtain ⟨A', c', w', hrun, h2, h3, h4⟩ := run_append_facts (P := P) w base t o.type e i z bytes ht hi hz hsize hby hzs v n xs hown A c fs av B ha hc h63 hbytes hbase
  unfold Oper.wp execOp
  simp only [ho, resolve, invoke, builtin, Sem.run_bind, Sem.run_pure, Result.andThen_ok, List.map_toArray, List.map_cons, List.map_nil, hs, hx, hrun]
  exact hK _ _ (h A' c' w' h2 h3 h4)

end Go.Proofs.YtebincnejcmocaaGreat
/-
  slices.Clone at facts: a row of the call's own whose headers are the given ones.
-/
namespace Go.Proofs.YtebincnejcmocaaGreat
open Go.RowKit

theorem CellsAt.on {w w' : World} {A : Option Addr} {cs : List Value} (h : CellsAt w A cs) (hb : Below w.heap.size w w') : CellsAt w' A cs :=
  ⟨h.1, fun ad e j u hu => (hb.cell (World.block_lt_of_cell? _ _ (h.2 ad e j u hu))).trans (h.2 ad e j u hu)⟩

/-- A row of the call's own, from base on, that holds facts whose headers are av; they read in w. -/
structure RowF (w : World) (base : Nat) (A : Option Addr) (c : Nat) (fs : List LFact) (av : List Value) : Prop where
  row : w.ownsRow base 52 2 (.slice A fs.length c) fs.length (flat fs av)
  rd : RdArgs w w.heap.size av fs

theorem RowF.on {w w' : World} {base : Nat} {A : Option Addr} {c : Nat} {fs : List LFact} {av : List Value} (h : RowF w base A c fs av) (hb : Below w.heap.size w w') : RowF w' base A c fs av :=
  ⟨ownsRow_below h.row (fun g hg => (h.row.lt g hg).2) hb (Nat.le_refl _), h.rd.on hb⟩
theorem RowF.mono {w : World} {base base' : Nat} {A : Option Addr} {c : Nat} {fs : List LFact} {av : List Value} (h : RowF w base A c fs av) (hb : base' ≤ base) : RowF w base' A c fs av := ⟨ownsRow_mono h.row hb, h.rd⟩
theorem RowF.facts {w : World} {base : Nat} {A : Option Addr} {c : Nat} {fs : List LFact} {av : List Value} (h : RowF w base A c fs av) : RdFacts w w.heap.size (.slice A fs.length c) fs := by
  have hcells := @World.ownsRow.cells w base 52 2 (.slice A fs.length c) fs.length (flat fs av) h.row
  have hlt := h.row.lt
  have hl := h.rd.1
  rcases h.row.2 with ⟨e, h0⟩ | ⟨g, cap, cur, e, hb, hgg, hn, _⟩
  · injection e with e1 _ e3
    subst e1
    subst e3
    exact ⟨none, 0, rfl, by omega, fun hp => by omega⟩
  · injection e with e1 _ e3
    subst e1
    subst e3
    refine ⟨_, _, rfl, hn, fun _ => ⟨g, 0, rfl, (hlt g rfl).2, fun k hk => ?_⟩⟩
    obtain ⟨c0, c1⟩ := flat_at fs av hl k hk (by omega)
    have d0 := hcells (g := g) rfl _ _ c0
    have d1 := hcells (g := g) rfl _ _ c1
    rw [Go.WideShapes.add_plain] at d0 d1
    exact ⟨_, d0, d1, h.rd.2 k hk (by omega) hk⟩

theorem facts_eqlSome (ad : Addr) (n c : Nat) (w : World) : (binOp .eql 28 (.slice (some ad) n c) (.slice none 0 0)).run Tryz.prog w = .ok (.bool false) w := by kernel_rfl
theorem facts_eqlNil (n c : Nat) (w : World) : (binOp .eql 28 (.slice none n c) (.slice none 0 0)).run Tryz.prog w = .ok (.bool true) w := by kernel_rfl

set_option maxHeartbeats 400000 in
set_option maxRecDepth 100000 in
theorem clone_any (v : Value) (fs : List LFact) (w : World) (h : RdFacts w w.heap.size v fs) (hl : fs.length ≤ 4194304) :
    Calls Tryz.prog 108 #[v] w fun e w' => ∃ A' c' av, e = .returned (.slice A' fs.length c') ∧ RowF w' w.heap.size A' c' fs av ∧ Below w.heap.size w w' := by
  obtain ⟨i0, hi0, hz0, hz1, hz2⟩ := info_parts Tryz.infoFact
  obtain ⟨A, c, av, rfl, ha, hc⟩ := h.heads
  clear h
  have hE := facts_eqlSome
  have hN := facts_eqlNil
  rcases A with _ | ad
  · have h0 := hc.1 rfl
    have hfl := flat_length fs av ha.1
    rw [h0] at hfl
    have hfs : fs = [] := List.eq_nil_of_length_eq_zero (by simp at hfl; omega)
    subst hfs
    clear hfl h0 ha hc
    go_enter Tryz.func108, Tryz.ntmps108
    go_wp2_with (fail)
    go_ret
    exact ⟨none, 0, [], rfl, ⟨World.ownsRow_nil _ _ _ _, RdArgs.nil _ _⟩, Below.refl _ _⟩
  · have HA := Lib.hid ha
    have HC := Lib.hid hc
    clear ha hc
    go_enter Tryz.func108, Tryz.ntmps108
    go_wp2_with (at_builtin; refine wpList_append_facts rfl (.tmp 5) (.tmp 6) 28 rfl w.heap.size 52 i0 (.agg #[.int .i64 0, .slice none 0 0]) 32 Tryz.underlying28 hi0 hz0 hz1 hz2 rfl (.slice (some ⟨w.heap.size, 0, none⟩) 0 0) 0 [] rfl ?c1 (some ad) c fs av _ rfl (HA.out.on (below1 _ _)) ?c2 (by unfold maxLen; omega) (by omega) (by simp) ?_)
    case c1 => exact World.ownsRow_made w #[] 0 (Nat.le_refl _) (by decide) rfl
    case c2 => exact HC.out.on (below1 _ _)
    intro A' c' w' hown hgr hob
    have hB : Below w.heap.size w w' := (below1 w _).grown hgr (by simp) (fun b hb => by simp [Value.ownBlock] at hb; omega)
    have HR := Lib.hid (show RowF w' w.heap.size A' c' fs av from ⟨hown, HA.out.on hB⟩)
    have HB := Lib.hid hB
    clear hown hgr hob hB
    go_wp2_with (fail)
    go_ret
    exact ⟨A', c', av, rfl, HR.out, HB.out⟩

end Go.Proofs.YtebincnejcmocaaGreat
/-
  slices.Grow of the nil slice, slices.Clone, slices.Concat of two slices: at facts.
-/
namespace Go.Proofs.YtebincnejcmocaaGreat
open Go.RowKit

theorem size_zeroPairs (n : Nat) : (Builtin.zeroCells #[Value.int IntKind.i64 0, Value.slice none 0 0] n).size = n * 2 := by simp [Builtin.zeroCells]

set_option maxHeartbeats 1000000 in
set_option maxRecDepth 100000 in
theorem growNil_any (n : Nat) (w : World) (hn : n ≤ 4194304) :
    Calls Tryz.prog 64 #[.slice none 0 0, .int .i64 n] w fun e w' => ∃ A c, e = .returned (.slice A 0 c) ∧ RowF w' w.heap.size A c [] [] ∧ Below w.heap.size w w' := by
  obtain ⟨i0, hi0, hz0, hz1, hz2⟩ := info_parts Tryz.infoFact
  by_cases h0 : n = 0
  · subst h0
    go_enter Tryz.func64, Tryz.ntmps64
    go_wp2_with (fail)
    go_ret
    exact ⟨none, 0, rfl, ⟨World.ownsRow_nil _ _ _ _, RdArgs.nil _ _⟩, Below.refl _ _⟩
  · have h1 : ¬ ((n : Int) < 0) := by omega
    have h4 : (n : Int) > 0 := by omega
    have hold : (Builtin.firstCells i0.size 0 (.slice none 0 0)).run Tryz.prog w.drew = .ok (#[] : Array Value) w.drew := run_firstCells_none w.drew i0.size 0 0 0
    have hrz : ∀ ty, (Builtin.append_ #[28, 3] ty #[.slice none 0 0, .int .i64 (n : Int)]).run Tryz.prog w =
        .ok (.slice (some ⟨w.heap.size, 0, none⟩) n (grownCap w n 0 52)) (w.drew.alloc (.cells (Builtin.zeroCells #[.int .i64 0, .slice none 0 0] n ++ Builtin.zeroCells #[.int .i64 0, .slice none 0 0] (grownCap w n 0 52 - n)) 52)) := fun ty => by
      have h := Lib.run_append_grow_zeros w 28 3 ty 52 i0 (.agg #[.int .i64 0, .slice none 0 0]) .i64 .i64 Tryz.underlying28 Tryz.underlying3 hi0 hz0 none 0 0 [] hold n (by omega) (by omega) (by omega) (by omega) (by rw [hz2]; omega)
        (growslice_fits (by omega) (by rw [hz2]; omega))
      simpa [Value.cells] using h
    have hGn : n ≤ grownCap w n 0 52 := grownCap_ge w _ _ _
    have hGm : grownCap w n 0 52 ≤ maxLen := grownCap_le_maxLen w n 0 52 (by unfold maxLen; omega)
    obtain ⟨G, hG⟩ : ∃ G, G = grownCap w n 0 52 := ⟨_, rfl⟩
    rw [← hG] at hrz hGn hGm
    have hG63 : G ≤ 9223372036854775807 := by unfold maxLen at hGm; omega
    have hsz : (Builtin.zeroCells #[Value.int IntKind.i64 0, Value.slice none 0 0] n ++ Builtin.zeroCells #[Value.int IntKind.i64 0, Value.slice none 0 0] (G - n)).size = G * 2 := by
      rw [Array.size_append, size_zeroPairs, size_zeroPairs]
      omega
    obtain ⟨zc, hzc⟩ : ∃ zc, zc = (Builtin.zeroCells #[Value.int IntKind.i64 0, Value.slice none 0 0] n ++ Builtin.zeroCells #[Value.int IntKind.i64 0, Value.slice none 0 0] (G - n)) := ⟨_, rfl⟩
    rw [← hzc] at hrz hsz
    have HS := Lib.hid hsz
    clear hold hG hzc hsz h0
    go_enter Tryz.func64, Tryz.ntmps64
    go_wp2_with (at_builtin; refine Lib.wpList_append_run _ rfl _ _ _ _ rfl _ _ rfl rfl _ _ (hrz _) ?_)
    go_ret
    refine ⟨_, _, rfl, ⟨?_, RdArgs.nil _ _⟩, (Below.refl _ _).drew.alloc (Nat.le_refl _) _⟩
    exact World.ownsRow_made w.drew zc G (Nat.le_refl _) hGm HS.out

set_option maxHeartbeats 400000 in
set_option maxRecDepth 100000 in
/-- slices.Clone, the headers known. -/
theorem clone_av (A : Option Addr) (c : Nat) (fs : List LFact) (av : List Value) (w : World) (ha : RdArgs w w.heap.size av fs) (hc : CellsAt w A (flat fs av)) (hl : fs.length ≤ 4194304) :
    Calls Tryz.prog 108 #[.slice A fs.length c] w fun e w' => ∃ A' c', e = .returned (.slice A' fs.length c') ∧ RowF w' w.heap.size A' c' fs av ∧ Below w.heap.size w w' := by
  obtain ⟨i0, hi0, hz0, hz1, hz2⟩ := info_parts Tryz.infoFact
  have hE := facts_eqlSome
  have hN := facts_eqlNil
  rcases A with _ | ad
  · have h0 := hc.1 rfl
    have hfl := flat_length fs av ha.1
    rw [h0] at hfl
    have hfs : fs = [] := List.eq_nil_of_length_eq_zero (by simp at hfl; omega)
    have hav : av = [] := List.eq_nil_of_length_eq_zero (by rw [ha.1, hfs]; rfl)
    subst hfs hav
    clear hfl h0 ha hc
    go_enter Tryz.func108, Tryz.ntmps108
    go_wp2_with (fail)
    go_ret
    exact ⟨none, 0, rfl, ⟨World.ownsRow_nil _ _ _ _, RdArgs.nil _ _⟩, Below.refl _ _⟩
  · have HA := Lib.hid ha
    have HC := Lib.hid hc
    clear ha hc
    go_enter Tryz.func108, Tryz.ntmps108
    go_wp2_with (at_builtin; refine wpList_append_facts rfl (.tmp 5) (.tmp 6) 28 rfl w.heap.size 52 i0 (.agg #[.int .i64 0, .slice none 0 0]) 32 Tryz.underlying28 hi0 hz0 hz1 hz2 rfl (.slice (some ⟨w.heap.size, 0, none⟩) 0 0) 0 [] rfl ?c1 (some ad) c fs av _ rfl (HA.out.on (below1 _ _)) ?c2 (by unfold maxLen; omega) (by omega) (by simp) ?_)
    case c1 => exact World.ownsRow_made w #[] 0 (Nat.le_refl _) (by decide) rfl
    case c2 => exact HC.out.on (below1 _ _)
    intro A' c' w' hown hgr hob
    have hB : Below w.heap.size w w' := (below1 w _).grown hgr (by simp) (fun b hb => by simp [Value.ownBlock] at hb; omega)
    have HR := Lib.hid (show RowF w' w.heap.size A' c' fs av from ⟨hown, HA.out.on hB⟩)
    have HB := Lib.hid hB
    clear hown hgr hob hB
    go_wp2_with (fail)
    go_ret
    exact ⟨A', c', rfl, HR.out, HB.out⟩

/-- What has been laid behind each other after k of two slices. -/
def joinF (xs ys : List LFact) (k : Nat) : List LFact := if k = 0 then [] else if k = 1 then xs else xs ++ ys
def joinV (xs ys : List Value) (k : Nat) : List Value := if k = 0 then [] else if k = 1 then xs else xs ++ ys
def joinN (n m k : Nat) : Nat := if k = 0 then 0 else if k = 1 then n else n + m

set_option maxHeartbeats 2000000 in
set_option maxRecDepth 100000 in
theorem concat_any (g c : Nat) (v v2 : Value) (xs ys : List LFact) (w : World) (k0 : w.cell? ⟨g, 0, none⟩ = some v) (k1 : w.cell? ⟨g, 1, none⟩ = some v2) (h : RdFacts w w.heap.size v xs) (h2 : RdFacts w w.heap.size v2 ys) (hn : xs.length + ys.length ≤ 2097152) :
    Calls Tryz.prog 38 #[.slice (some ⟨g, 0, none⟩) 2 c] w fun e w' => ∃ A' c' av, e = .returned (.slice A' (xs ++ ys).length c') ∧ RowF w' w.heap.size A' c' (xs ++ ys) av ∧ Below w.heap.size w w' := by
  obtain ⟨i0, hi0, hz0, hz1, hz2⟩ := info_parts Tryz.infoFact
  obtain ⟨A1, c1, av1, rfl, ha1, hc1⟩ := h.heads
  obtain ⟨A2, c2, av2, rfl, ha2, hc2⟩ := h2.heads
  have HA1 := Lib.hid (And.intro ha1 hc1)
  have HA2 := Lib.hid (And.intro ha2 hc2)
  clear h h2 ha1 ha2 hc1 hc2
  go_enter Tryz.func38, Tryz.ntmps38
  go_wp2_with (fail)
  go_loop [3, 5, 11] (fun s _ i => ∃ k : Nat, k ≤ 2 ∧ i = .int .i64 k ∧ s = .int .i64 (joinN xs.length ys.length k : Nat)) (fun _ _ i => 2 - (intOf i).toNat)
  case atStart => exact ⟨0, by omega, rfl, rfl⟩
  case round =>
    obtain ⟨k, hk, rfl, rfl⟩ := hrel
    rcases (show k = 0 ∨ k = 1 ∨ k = 2 by omega) with rfl | rfl | rfl
    · have hj : joinN xs.length ys.length 0 = 0 := rfl
      rw [hj]
      go_wp2_with (fail)
      go_round
      case rel => exact ⟨1, by omega, rfl, by simp [joinN]⟩
      case measure => simp [intOf]
    · have hj : joinN xs.length ys.length 1 = xs.length := rfl
      rw [hj]
      go_wp2_with (fail)
      go_round
      case rel => exact ⟨2, by omega, rfl, by simp [joinN]⟩
      case measure => simp [intOf]
    · have hj : joinN xs.length ys.length 2 = xs.length + ys.length := rfl
      rw [hj]
      go_wp2_with (fail)
      refine (growNil_any (xs.length + ys.length) w (by omega)).mono ?_
      rintro e w2 ⟨A', c', rfl, hrow, hb⟩
      have k02 : w2.cell? ⟨g, 0, none⟩ = some (.slice A1 xs.length c1) := (hb.cell (World.block_lt_of_cell? _ _ k0)).trans k0
      have k12 : w2.cell? ⟨g, 1, none⟩ = some (.slice A2 ys.length c2) := (hb.cell (World.block_lt_of_cell? _ _ k1)).trans k1
      have HG := Lib.hid (And.intro (World.block_lt_of_cell? _ _ k0) (And.intro k0 k1))
      clear k0 k1 hj
      go_wp2_with (fail)
      go_loopw [6, 8, 27] (fun r _ i wr => ∃ (k : Nat) (B : Option Addr) (d : Nat), k ≤ 2 ∧ i = .int .i64 k ∧ r = .slice B (joinF xs ys k).length d ∧ RowF wr w.heap.size B d (joinF xs ys k) (joinV av1 av2 k) ∧ Below w.heap.size w wr) (fun _ _ i _ => 2 - (intOf i).toNat)
      case atStart => exact ⟨0, A', c', by omega, rfl, rfl, hrow, hb⟩
      case round =>
        obtain ⟨k, B, d, hk, rfl, rfl, hr, hbe⟩ := hrel
        have q0 : wr.cell? ⟨g, 0, none⟩ = some (.slice A1 xs.length c1) := (hbe.cell HG.out.1).trans HG.out.2.1
        have q1 : wr.cell? ⟨g, 1, none⟩ = some (.slice A2 ys.length c2) := (hbe.cell HG.out.1).trans HG.out.2.2
        have HR := Lib.hid (And.intro hr hbe)
        clear hr hbe k02 k12
        rcases (show k = 0 ∨ k = 1 ∨ k = 2 by omega) with rfl | rfl | rfl
        · have hjl : (joinF xs ys 0).length = 0 := rfl
          rw [hjl]
          go_wp2_with (at_builtin; refine wpList_append_facts rfl (.tmp 31) (.tmp 32) 28 rfl w.heap.size 52 i0 (.agg #[.int .i64 0, .slice none 0 0]) 32 Tryz.underlying28 hi0 hz0 hz1 hz2 rfl (.slice B 0 d) 0 [] rfl ?c1 A1 c1 xs av1 _ rfl (HA1.out.1.on HR.out.2) ?c2 (by unfold maxLen; omega) (by omega) (HR.out.2.size) ?_)
          case c1 => exact HR.out.1.row
          case c2 => exact HA1.out.2.on HR.out.2
          intro A4 c4 w4 hown hgr hob
          have hlt := HR.out.1.row.lt
          have hB : Below w.heap.size w w4 := HR.out.2.grown hgr HR.out.2.size (fun b hb => (hlt b hb).1)
          have HQ := Lib.hid (show RowF w4 w.heap.size A4 c4 (joinF xs ys 1) (joinV av1 av2 1) ∧ Below w.heap.size w w4 from ⟨⟨by simpa [joinF, joinV] using hown, by simpa [joinF, joinV] using HA1.out.1.on hB⟩, hB⟩)
          have HL := Lib.hid (show 0 + xs.length = (joinF xs ys 1).length by simp [joinF])
          clear hown hgr hob hB hlt
          try rw [HL.out]
          go_wp2_with (fail)
          go_roundw
          case rel => exact ⟨1, _, _, by omega, rfl, by simp [joinF], HQ.out.1, HQ.out.2⟩
          case measure => simp [intOf]
        · have hjl : (joinF xs ys 1).length = xs.length := rfl
          rw [hjl]
          go_wp2_with (at_builtin; refine wpList_append_facts rfl (.tmp 31) (.tmp 32) 28 rfl w.heap.size 52 i0 (.agg #[.int .i64 0, .slice none 0 0]) 32 Tryz.underlying28 hi0 hz0 hz1 hz2 rfl (.slice B xs.length d) xs.length (flat xs av1) rfl ?c1 A2 c2 ys av2 _ rfl (HA2.out.1.on HR.out.2) ?c2 (by unfold maxLen; omega) (by omega) (HR.out.2.size) ?_)
          case c1 => exact HR.out.1.row
          case c2 => exact HA2.out.2.on HR.out.2
          intro A4 c4 w4 hown hgr hob
          have hlt := HR.out.1.row.lt
          have hB : Below w.heap.size w w4 := HR.out.2.grown hgr HR.out.2.size (fun b hb => (hlt b hb).1)
          have HQ := Lib.hid (show RowF w4 w.heap.size A4 c4 (joinF xs ys 2) (joinV av1 av2 2) ∧ Below w.heap.size w w4 from ⟨⟨by
            rw [← flat_append xs av1 HA1.out.1.1 ys av2] at hown
            simpa [joinF, joinV] using hown, by simpa [joinF, joinV] using (HA1.out.1.on hB).append (HA2.out.1.on hB)⟩, hB⟩)
          have HL := Lib.hid (show xs.length + ys.length = (joinF xs ys 2).length by simp [joinF])
          clear hown hgr hob hB hlt
          try rw [HL.out]
          go_wp2_with (fail)
          go_roundw
          case rel => exact ⟨2, _, _, by omega, rfl, by simp [joinF], HQ.out.1, HQ.out.2⟩
          case measure => simp [intOf]
        · have HJ := Lib.hid (show joinF xs ys 2 = xs ++ ys from rfl)
          go_wp2_with (fail)
          go_ret
          exact ⟨B, d, joinV av1 av2 2, rfl, HR.out.1, HR.out.2⟩

end Go.Proofs.YtebincnejcmocaaGreat
/-
  FactOrder's contract with its worlds written out: draws on, and blocks behind.
-/
namespace Go.Proofs.YtebincnejcmocaaGreat
open Go.RowKit Go.Sort

/-- W is w some draws on, with blocks laid behind it. -/
def Gr (w W : World) : Prop := ∃ q os, W = grow (w.drewN q) os
theorem Gr.refl (w : World) : Gr w w := ⟨0, #[], by simp [grow, World.drewN]⟩
theorem Gr.alloc {w W : World} (h : Gr w W) (o : Obj) : Gr w (W.alloc o) := by
  obtain ⟨q, os, rfl⟩ := h
  exact ⟨q, os.push o, by simp [grow, World.alloc]⟩
theorem Gr.drew {w W : World} (h : Gr w W) : Gr w W.drew := by
  obtain ⟨q, os, rfl⟩ := h
  exact ⟨q + 1, os, rfl⟩
theorem Gr.drewN {w W : World} (h : Gr w W) (n : Nat) : Gr w (W.drewN n) := by
  obtain ⟨q, os, rfl⟩ := h
  exact ⟨q + n, os, by simp [grow, World.drewN, Nat.add_assoc]⟩
theorem Gr.trans {w w1 W : World} (h : Gr w w1) (k : Gr w1 W) : Gr w W := by
  obtain ⟨q, os, rfl⟩ := h
  obtain ⟨q', os', rfl⟩ := k
  exact ⟨q + q', os ++ os', by simp [grow, World.drewN, Nat.add_assoc, Array.append_assoc]⟩
theorem Gr.below {w W : World} (h : Gr w W) : Below w.heap.size w W := by
  obtain ⟨q, os, rfl⟩ := h
  exact ⟨rfl, rfl, rfl, by simp [grow, World.drewN], fun k hk => by simp [grow, World.drewN, Array.getElem?_append, hk]⟩

set_option maxHeartbeats 400000 in
set_option maxRecDepth 100000 in
theorem implFactOrder_grow (v v2 : Value) (f g : LFact) (w : World) (h : RdFact w w.heap.size v f) (h2 : RdFact w w.heap.size v2 g) (hn : f.2.length ≤ 1048576) (hn2 : g.2.length ≤ 1048576) :
    Calls Tryz.prog 110 #[v, v2] w fun e w' => e = .returned (.int .i64 (factOrder f g)) ∧ Gr w w' := by
  obtain ⟨a, rfl, h⟩ := h
  have H := Lib.hid h
  obtain ⟨A, c, rfl, hc, _⟩ := h
  obtain ⟨a, rfl, h2⟩ := h2
  have H2 := Lib.hid h2
  obtain ⟨A2, c2, rfl, hc2, _⟩ := h2
  have HF := Lib.hid (factOrder_or f g)
  go_enter Tryz.func110, Tryz.ntmps110
  go_wp2_with (fail)
  obtain ⟨w1, hw1⟩ : ∃ w1, w1 = ((w.alloc (Obj.cells #[Value.int IntKind.i64 f.1, Value.slice A f.2.length c] 52)).alloc (Obj.cells #[Value.int IntKind.i64 g.1, Value.slice A2 g.2.length c2] 52)) := ⟨_, rfl⟩
  have B1 : Gr w w1 := by rw [hw1]; exact ((Gr.refl _).alloc _).alloc _
  have k0 : Blk w1 w.heap.size 52 #[.int .i64 f.1, .slice A f.2.length c] := by rw [hw1]; exact (Blk.new w _ _).alloc _
  have k1 : Blk w1 (w.heap.size + 1) 52 #[.int .i64 g.1, .slice A2 g.2.length c2] := by rw [hw1]; simpa using Blk.new (w.alloc (Obj.cells #[Value.int IntKind.i64 f.1, Value.slice A f.2.length c] 52)) 52 #[.int .i64 g.1, .slice A2 g.2.length c2]
  rw [← hw1]
  clear hw1
  have HS0 := Lib.hid (show ∀ W, Gr w1 W → (Gr w1 W ∧ W.cell? ⟨w.heap.size, 0, none⟩ = some (.int .i64 f.1) ∧ W.cell? ⟨w.heap.size, 1, none⟩ = some (.slice A f.2.length c) ∧ W.cell? ⟨w.heap.size + 1, 0, none⟩ = some (.int .i64 g.1) ∧ W.cell? ⟨w.heap.size + 1, 1, none⟩ = some (.slice A2 g.2.length c2)) from
    fun W hW => ⟨hW, (k0.below hW.below k0.lt).cell 0, (k0.below hW.below k0.lt).cell 1, (k1.below hW.below k1.lt).cell 0, (k1.below hW.below k1.lt).cell 1⟩)
  go_region_held3 (fun W => Gr w1 W ∧ W.cell? ⟨w.heap.size, 0, none⟩ = some (.int .i64 f.1) ∧ W.cell? ⟨w.heap.size, 1, none⟩ = some (.slice A f.2.length c) ∧ W.cell? ⟨w.heap.size + 1, 0, none⟩ = some (.int .i64 g.1) ∧ W.cell? ⟨w.heap.size + 1, 1, none⟩ = some (.slice A2 g.2.length c2))
    (first | assumption | exact HS0.out _ (Gr.refl _) | exact HS0.out _ ((Gr.refl _).alloc _).drew | exact HS0.out _ (Gr.refl _).drew | exact HS0.out _ ((And.left (by assumption) : Gr w1 _).alloc _) | exact HS0.out _ (And.left (by assumption) : Gr w1 _).drew | (refine HS0.out _ ?_; go_goals; fail))
    (first
      | (go_at_call 130; refine (cmpCompare_any _ _ _).mono ?_; rintro e w' ⟨rfl, rfl⟩)
      | (go_at_call 131; refine (slicesCompare_any _ _ f.2 g.2 _ ?_ ?_ (by omega) (by omega)).mono ?_; exact H.out.on (bthen B1.below (And.left (by assumption) : Gr w1 _).below); exact H2.out.on (bthen B1.below (And.left (by assumption) : Gr w1 _).below); rintro e w' ⟨rfl, rfl⟩)
      | (go_at_call 129; refine (cmpOr_any _ (cmpI f.1 g.1) (cmpL f.2 g.2) _ ?_).mono ?_; exact rdInts_pair _ _ _; rintro e w' ⟨rfl, rfl⟩))
  all_goals
    go_wp2_with (fail)
    go_ret
    exact ⟨ret_int HF.out, B1.trans (And.left (by assumption))⟩

end Go.Proofs.YtebincnejcmocaaGreat
