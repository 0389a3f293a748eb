/-
  The law FnExactRoundOf: for every input the call returns true, and each argument reads behind it as it read before. Conditions: none but the row's own.
-/
import Derived.Sort.Grow
import Derived.Test.YtniedmhkajnfjaaGreatChecked
import Derived.Deep.SlicePairs
import Derived.ProofKit
import Derived.OpenShut
import Derived.ChangeOld
import Derived.WalkKit
import Derived.Deep.Slices
import Derived.Deep.Fields
import Derived.ChangeSame
import Derived.Lib.SmallJoins
import Derived.KernelRfl
import Derived.Deep.RegionHeld3
import Derived.Deep.DeepCutAuto
import Derived.Deep.RegionWith
import Derived.Test.YtniedmhkajnfjaaGreatRows
import Derived.Test.YtniedmhkajnfjaaGreatRoundOfJoin
import Derived.Test.YtniedmhkajnfjaaGreatMRf1
import Derived.Test.YtniedmhkajnfjaaGreatMRf2
import Derived.Test.YtniedmhkajnfjaaGreatMRf5
import Derived.Test.YtniedmhkajnfjaaGreatMRf8
import Derived.Test.YtniedmhkajnfjaaGreatMRf9
import Derived.Test.YtniedmhkajnfjaaGreatMRf11
/-
  Rows of slices of facts as results of laws: compared, marked, held.
-/
namespace Go.Proofs.YtniedmhkajnfjaaGreat
open Go.RowKit

section
variable {w w' : World} {lo hi j B : Nat} {v : Value} {hv : List Value} {FF : List (List LFact)} {F' : List LFact} {P Q : Nat → Nat}
theorem FFAt.set (h : FFAt w lo hi v hv FF P Q) (hj : j < FF.length) (hj' : j < hv.length) (hu : OwnFacts w' (P j) (Q j) hv[j] F') (ho : Only (P j) (Q j) w w') : FFAt w' lo hi v hv (FF.set j F') P Q := by
  obtain ⟨k1, k2, k3, k4⟩ := h.own j hj hj'
  refine ⟨by rw [List.length_set]; exact ownsRow_only h.row fun b hb => ho.block b (h.row.lt b hb).2 (by have := k4 b hb; omega), h.lt, fun i a b => ?_, fun i m hi hm => h.ord i m hi (by simpa using hm)⟩
  by_cases e : i = j
  · subst e
    rw [List.getElem_set_self]
    exact ⟨k1, k2, hu, k4⟩
  · rw [List.length_set] at a
    rw [List.getElem_set_ne (Ne.symm e)]
    obtain ⟨g1, g2, g3, g4⟩ := h.own i a b
    refine ⟨g1, g2, g3.only ho ?_, g4⟩
    rcases Nat.lt_or_gt_of_ne e with h1 | h1
    · exact .inl (h.ord i j h1 hj)
    · exact .inr (h.ord j i h1 a)
end
def totFF (FF : List (List LFact)) : Nat := (FF.map szF).sum
def szFF (FF : List (List LFact)) : Nat := FF.length + totFF FF
theorem totFF_at : ∀ (FF : List (List LFact)) (k : Nat) (h : k < FF.length), szF FF[k] ≤ totFF FF
  | F :: FF, 0, _ => by simp [totFF]
  | F :: FF, k + 1, h => by
    have := totFF_at FF k (by simpa using h)
    simp only [totFF, List.map_cons, List.sum_cons, List.getElem_cons_succ] at this ⊢
    omega
theorem totFF_few {FF : List (List LFact)} {n m : Nat} (hn : FF.length ≤ n) (hm : ∀ F ∈ FF, szF F ≤ m) : totFF FF ≤ n * m := by
  have key : ∀ (l : List (List LFact)), (∀ x ∈ l, szF x ≤ m) → totFF l ≤ l.length * m := by
    intro l
    induction l with
    | nil => intro _; simp [totFF]
    | cons x l ih =>
      intro h
      have h1 := h x List.mem_cons_self
      have h2 := ih fun y hy => h y (List.mem_cons_of_mem _ hy)
      simp only [totFF, List.map_cons, List.sum_cons, List.length_cons, Nat.add_mul] at h2 ⊢
      omega
  exact Nat.le_trans (key FF hm) (Nat.mul_le_mul_right m hn)
def endFF (k : Int) (FF : List (List LFact)) : Int := FF.foldl endF k
def markFF : Int → List (List LFact) → List (List LFact)
  | _, [] => []
  | k, F :: FF => markF k F :: markFF (endF k F) FF
theorem markFF_length : ∀ (k : Int) (FF : List (List LFact)), (markFF k FF).length = FF.length
  | _, [] => rfl
  | k, F :: FF => by simp [markFF, markFF_length _ FF]
theorem endFF_snoc (k : Int) (FF : List (List LFact)) (F : List LFact) : endFF k (FF ++ [F]) = endF (endFF k FF) F := by simp [endFF]
theorem markFF_snoc : ∀ (k : Int) (FF : List (List LFact)) (F : List LFact), markFF k (FF ++ [F]) = markFF k FF ++ [markF (endFF k FF) F]
  | k, [], F => by simp [markFF, endFF]
  | k, G :: FF, F => by
    have h := markFF_snoc (endF k G) FF F
    show markF k G :: markFF (endF k G) (FF ++ [F]) = _
    rw [h]
    rfl
theorem markFF_at {FF : List (List LFact)} {k : Int} {j : Nat} (h : j < FF.length) (h' : j < (markFF k FF).length) : (markFF k FF)[j] = markF (endFF k (FF.take j)) FF[j] := by
  have hp : ∀ (xs ys : List (List LFact)) (k : Int), ∃ zs, markFF k (xs ++ ys) = markFF k xs ++ zs := by
    intro xs
    induction xs with
    | nil => intro ys k; exact ⟨_, rfl⟩
    | cons x xs ih =>
      intro ys k
      obtain ⟨zs, hz⟩ := ih ys (endF k x)
      exact ⟨zs, by simp [markFF, hz]⟩
  have e : FF = FF.take (j + 1) ++ FF.drop (j + 1) := (List.take_append_drop _ _).symm
  have hl : (markFF k (FF.take j)).length = j := by rw [markFF_length]; simp; omega
  obtain ⟨zs, hz⟩ := hp (FF.take (j + 1)) (FF.drop (j + 1)) k
  rw [← e, take_snoc FF j h, markFF_snoc] at hz
  have : (markFF k FF)[j]? = some (markF (endFF k (FF.take j)) FF[j]) := by
    rw [hz, List.append_assoc, List.getElem?_append_right (by omega), hl]
    simp
  rw [List.getElem?_eq_getElem h'] at this
  exact Option.some.inj this
def markedFF (FF : List (List LFact)) (k : Int) (j : Nat) : List (List LFact) := markFF k (FF.take j) ++ FF.drop j
theorem markedFF_step {FF : List (List LFact)} {k : Int} {j : Nat} (h : j < FF.length) : (markedFF FF k j).set j (markF (endFF k (FF.take j)) FF[j]) = markedFF FF k (j + 1) := by
  have hl : (markFF k (FF.take j)).length = j := by rw [markFF_length]; simp; omega
  unfold markedFF
  rw [List.drop_eq_getElem_cons h, List.set_append_right _ _ (by omega), hl, Nat.sub_self, List.set_cons_zero, take_snoc FF j h, markFF_snoc]
  simp
theorem markedFF_at {FF : List (List LFact)} {k : Int} {j : Nat} (h : j < FF.length) (h' : j < (markedFF FF k j).length) : (markedFF FF k j)[j] = FF[j] := by
  have hl : (markFF k (FF.take j)).length = j := by rw [markFF_length]; simp; omega
  have e : (markedFF FF k j)[j]? = some FF[j] := by
    unfold markedFF
    rw [List.getElem?_append_right (by omega), hl]
    simp [h]
  rw [List.getElem?_eq_getElem h'] at e
  exact Option.some.inj e
theorem markedFF_length {FF : List (List LFact)} {k : Int} {j : Nat} (h : j ≤ FF.length) : (markedFF FF k j).length = FF.length := by simp [markedFF, markFF_length]; omega
theorem endFF_bounds : ∀ (FF : List (List LFact)) (k : Int), k ≤ endFF k FF ∧ endFF k FF ≤ k + totFF FF
  | [], k => by simp [endFF, totFF]
  | F :: FF, k => by
    have h := endFF_bounds FF (endF k F)
    have h1 : k ≤ endF k F ∧ endF k F ≤ k + szF F := by unfold endF szF; omega
    have e : endFF k (F :: FF) = endFF (endF k F) FF := rfl
    have e2 : totFF (F :: FF) = szF F + totFF FF := by simp [totFF]
    rw [e, e2]
    omega
theorem totFF_take : ∀ (FF : List (List LFact)) (k : Nat), totFF (FF.take k) ≤ totFF FF
  | [], k => by simp
  | x :: FF, 0 => by simp [totFF]
  | x :: FF, k + 1 => by
    have := totFF_take FF k
    simp only [totFF, List.take_succ_cons, List.map_cons, List.sum_cons] at this ⊢
    omega

/-- The marks from k on stand in a row of lists of facts, and end at z. -/
def HdFF (w : World) (lo hi : Nat) (v : Value) (FF : List (List LFact)) (k z : Int) : Prop := OwnFF w lo hi v (markFF k FF) ∧ z = endFF k FF ∧ 0 ≤ k ∧ k ≤ 2147483648 ∧ szFF FF ≤ 1073741824
theorem HdFF.below {w w' : World} {lo hi B : Nat} {v : Value} {FF : List (List LFact)} {k z : Int} (h : HdFF w lo hi v FF k z) (hb : Below B w w') (hB : hi ≤ B) : HdFF w' lo hi v FF k z := ⟨h.1.below hb hB, h.2⟩

end Go.Proofs.YtniedmhkajnfjaaGreat
/-
  Rounds: the specification's, and bounds.
-/
namespace Go.Proofs.YtniedmhkajnfjaaGreat
open Go.RowKit

theorem OwnFF.only {w w' : World} {lo hi a b : Nat} {v : Value} {FF : List (List LFact)} (h : OwnFF w lo hi v FF) (ho : Only a b w w') (hd : hi ≤ a ∨ b ≤ lo) : OwnFF w' lo hi v FF := by
  obtain ⟨hv, P, Q, h⟩ := h
  refine ⟨hv, P, Q, ownsRow_only h.row fun g hg => ho.block g (h.row.lt g hg).2 (by have := h.lt g hg; have := (h.row.lt g hg).1; omega), h.lt, fun i h1 h2 => ?_, h.ord⟩
  obtain ⟨g1, g2, g3, g4⟩ := h.own i h1 h2
  exact ⟨g1, g2, g3.only ho (by omega), g4⟩
theorem roundsL_few (p : LProg) (fs : List LFact) : szFF (roundsL p fs) ≤ 1073741824 ∧ ∀ F ∈ roundsL p fs, szF F ≤ 1048576 := by
  have hF : ∀ F ∈ roundsL p fs, szF F ≤ 4608 := fun F hF => by
    unfold roundsL at hF
    cases h : lokB p fs
    · rw [h] at hF
      simp at hF
    · obtain ⟨h1, h2, h3, _⟩ := lok_parts h
      rw [h] at hF
      simp only [if_true, roundsFrom, List.mem_map] at hF
      obtain ⟨k, _, rfl⟩ := hF
      have := iter_few h1 h2 (FitL.set h3) k
      unfold szF
      omega
  have hn : (roundsL p fs).length ≤ 2001 := by
    unfold roundsL
    split
    · have h4 : roundsM p.2 (setOf fs) ≤ 2000 := firstM_le p.2 (setOf fs) 2000 0
      simp [roundsFrom]
      omega
    · simp
  have := totFF_few hn hF
  exact ⟨by unfold szFF; omega, fun F h => by have := hF F h; omega⟩

set_option maxHeartbeats 2000000 in
set_option maxRecDepth 100000 in
theorem specRounds_any (v v2 : Value) (p : LProg) (fs : List LFact) (w : World) (h : RdProg w w.heap.size v p) (h2 : RdFacts w w.heap.size v2 fs) (hs : szP p ≤ 1048576) (hn : fs.length ≤ 1048576) (ht : tot fs ≤ 1048576) :
    Calls Tryz.prog 28 #[v, v2] w fun e w' => ∃ A' c', e = .returned (.slice A' (roundsL p fs).length c') ∧ OwnFF w' w.heap.size w'.heap.size (.slice A' (roundsL p fs).length c') (roundsL p fs) ∧ Below w.heap.size w w' := by
  have HP := Lib.hid h
  have H2 := Lib.hid h2
  have hs' := hs
  unfold szP at hs'
  obtain ⟨a, b, rfl, hA, hR⟩ := h
  have HR := Lib.hid hR
  obtain ⟨A, c, rfl, hcA, _⟩ := hA
  obtain ⟨A2, c2, rfl, hcR, _⟩ := hR
  obtain ⟨A3, c3, rfl, hcF, _⟩ := h2
  obtain ⟨po, hpo⟩ : ∃ po, po = lokB p fs := ⟨_, rfl⟩
  obtain ⟨R, hRR⟩ : ∃ R, R = roundsL p fs := ⟨_, rfl⟩
  have HRR := Lib.hid (show R = if po then roundsFrom p.2 (setOf fs) else [] by rw [hRR, hpo]; rfl)
  rw [← hRR]
  clear hRR
  go_enter Tryz.func28, Tryz.ntmps28
  go_upto_region 1 with fail
  obtain ⟨w1, hw1⟩ : ∃ w1, w1 = w.alloc (Obj.cells #[Value.slice A p.1.length c, Value.slice A2 p.2.length c2] 35) := ⟨_, rfl⟩
  have X1 : Blk w1 w.heap.size 35 #[.slice A p.1.length c, .slice A2 p.2.length c2] := by rw [hw1]; exact Blk.new _ _ _
  have B1 : Below w.heap.size w w1 := by rw [hw1]; exact below1 _ _
  rw [← hw1]
  clear hw1
  have x0 : w1.cell? ⟨w.heap.size, 0, none⟩ = some (.slice A p.1.length c) := X1.cell 0
  have x1 : w1.cell? ⟨w.heap.size, 1, none⟩ = some (.slice A2 p.2.length c2) := X1.cell 1
  have CP := Lib.hid ((l4Ok_any _ _ p fs w1 (HP.out.on B1) (H2.out.on B1) hs hn ht).mono fun e w' (hh : e = .returned (.bool (lokB p fs)) ∧ Below w1.heap.size w1 w') => (⟨by rw [hh.1, hpo], hh.2⟩ : e = .returned (.bool po) ∧ Below w1.heap.size w1 w'))
  have HPO := Lib.hid hpo
  have HX1 := Lib.hid X1
  clear hpo X1
  cases po
  · go_wp2_with (go_at_call 53; refine CP.out.mono ?_; rintro e w2 ⟨rfl, b2⟩; have B2 := Lib.hid (bthen B1 b2); clear b2)
    go_ret
    have e : R = [] := by rw [HRR.out]; rfl
    rw [e]
    exact ⟨none, 0, rfl, OwnFF.none _ _ _, B2.out⟩
  · obtain ⟨har, hfit, hff, hrl⟩ := lok_parts HPO.out.symm
    have CA := Lib.hid (fun W (hW : Below w.heap.size w W) => l4Rounds_any p.1 har p.2 hfit (by omega) (by omega) (.slice A2 p.2.length c2) (.slice A3 fs.length c3) fs W (HR.out.on hW) (H2.out.on hW) hff hn ht)
    have HRE := Lib.hid (show R = roundsFrom p.2 (setOf fs) by rw [HRR.out]; rfl)
    rw [← HRE.out] at CA
    clear har hfit hff hrl
    go_wp2_with (first
      | (go_at_call 53; refine CP.out.mono ?_; rintro e w2 ⟨rfl, b2⟩; have B2 := Lib.hid (bthen B1 b2)
         have x21 : w2.cell? ⟨w.heap.size, 1, none⟩ = some (.slice A2 p.2.length c2) := (HX1.out.below b2 HX1.out.lt).cell 1
         clear b2)
      | (go_at_call 54; refine (CA.out _ B2.out).mono ?_; rintro e w4 ⟨A4, c4, rfl, o4, b4⟩; have B4 := Lib.hid (bthen B2.out b4)
         have O4 := Lib.hid (o4.mono B2.out.size (Nat.le_refl _))
         clear o4 b4))
    go_ret
    exact ⟨A4, c4, rfl, O4.out, B4.out⟩

end Go.Proofs.YtniedmhkajnfjaaGreat
/-
  FactOrder's contract with its worlds written out: draws on, and blocks behind.
-/
namespace Go.Proofs.YtniedmhkajnfjaaGreat
open Go.RowKit Go.Sort

/-- W is w some draws on, with blocks laid behind it. -/
def Gr (w W : World) : Prop := ∃ q os, W = grow (w.drewN q) os
theorem Gr.refl (w : World) : Gr w w := ⟨0, #[], by simp [grow, World.drewN]⟩
theorem Gr.alloc {w W : World} (h : Gr w W) (o : Obj) : Gr w (W.alloc o) := by
  obtain ⟨q, os, rfl⟩ := h
  exact ⟨q, os.push o, by simp [grow, World.alloc]⟩
theorem Gr.drew {w W : World} (h : Gr w W) : Gr w W.drew := by
  obtain ⟨q, os, rfl⟩ := h
  exact ⟨q + 1, os, rfl⟩
theorem Gr.drewN {w W : World} (h : Gr w W) (n : Nat) : Gr w (W.drewN n) := by
  obtain ⟨q, os, rfl⟩ := h
  exact ⟨q + n, os, by simp [grow, World.drewN, Nat.add_assoc]⟩
theorem Gr.trans {w w1 W : World} (h : Gr w w1) (k : Gr w1 W) : Gr w W := by
  obtain ⟨q, os, rfl⟩ := h
  obtain ⟨q', os', rfl⟩ := k
  exact ⟨q + q', os ++ os', by simp [grow, World.drewN, Nat.add_assoc, Array.append_assoc]⟩
theorem Gr.below {w W : World} (h : Gr w W) : Below w.heap.size w W := by
  obtain ⟨q, os, rfl⟩ := h
  exact ⟨rfl, rfl, rfl, by simp [grow, World.drewN], fun k hk => by simp [grow, World.drewN, Array.getElem?_append, hk]⟩

set_option maxHeartbeats 400000 in
set_option maxRecDepth 100000 in
theorem implFactOrder_grow (v v2 : Value) (f g : LFact) (w : World) (h : RdFact w w.heap.size v f) (h2 : RdFact w w.heap.size v2 g) (hn : f.2.length ≤ 1048576) (hn2 : g.2.length ≤ 1048576) :
    Calls Tryz.prog 94 #[v, v2] w fun e w' => e = .returned (.int .i64 (factOrder f g)) ∧ Gr w w' := by
  obtain ⟨a, rfl, h⟩ := h
  have H := Lib.hid h
  obtain ⟨A, c, rfl, hc, _⟩ := h
  obtain ⟨a, rfl, h2⟩ := h2
  have H2 := Lib.hid h2
  obtain ⟨A2, c2, rfl, hc2, _⟩ := h2
  have HF := Lib.hid (factOrder_or f g)
  go_enter Tryz.func94, Tryz.ntmps94
  go_wp2_with (fail)
  obtain ⟨w1, hw1⟩ : ∃ w1, w1 = ((w.alloc (Obj.cells #[Value.int IntKind.i64 f.1, Value.slice A f.2.length c] 39)).alloc (Obj.cells #[Value.int IntKind.i64 g.1, Value.slice A2 g.2.length c2] 39)) := ⟨_, rfl⟩
  have B1 : Gr w w1 := by rw [hw1]; exact ((Gr.refl _).alloc _).alloc _
  have k0 : Blk w1 w.heap.size 39 #[.int .i64 f.1, .slice A f.2.length c] := by rw [hw1]; exact (Blk.new w _ _).alloc _
  have k1 : Blk w1 (w.heap.size + 1) 39 #[.int .i64 g.1, .slice A2 g.2.length c2] := by rw [hw1]; simpa using Blk.new (w.alloc (Obj.cells #[Value.int IntKind.i64 f.1, Value.slice A f.2.length c] 39)) 39 #[.int .i64 g.1, .slice A2 g.2.length c2]
  rw [← hw1]
  clear hw1
  have HS0 := Lib.hid (show ∀ W, Gr w1 W → (Gr w1 W ∧ W.cell? ⟨w.heap.size, 0, none⟩ = some (.int .i64 f.1) ∧ W.cell? ⟨w.heap.size, 1, none⟩ = some (.slice A f.2.length c) ∧ W.cell? ⟨w.heap.size + 1, 0, none⟩ = some (.int .i64 g.1) ∧ W.cell? ⟨w.heap.size + 1, 1, none⟩ = some (.slice A2 g.2.length c2)) from
    fun W hW => ⟨hW, (k0.below hW.below k0.lt).cell 0, (k0.below hW.below k0.lt).cell 1, (k1.below hW.below k1.lt).cell 0, (k1.below hW.below k1.lt).cell 1⟩)
  go_region_held3 (fun W => Gr w1 W ∧ W.cell? ⟨w.heap.size, 0, none⟩ = some (.int .i64 f.1) ∧ W.cell? ⟨w.heap.size, 1, none⟩ = some (.slice A f.2.length c) ∧ W.cell? ⟨w.heap.size + 1, 0, none⟩ = some (.int .i64 g.1) ∧ W.cell? ⟨w.heap.size + 1, 1, none⟩ = some (.slice A2 g.2.length c2))
    (first | assumption | exact HS0.out _ (Gr.refl _) | exact HS0.out _ ((Gr.refl _).alloc _).drew | exact HS0.out _ (Gr.refl _).drew | exact HS0.out _ ((And.left (by assumption) : Gr w1 _).alloc _) | exact HS0.out _ (And.left (by assumption) : Gr w1 _).drew | (refine HS0.out _ ?_; go_goals; fail))
    (first
      | (go_at_call 139; refine (cmpCompare_any _ _ _).mono ?_; rintro e w' ⟨rfl, rfl⟩)
      | (go_at_call 140; refine (slicesCompare_any _ _ f.2 g.2 _ ?_ ?_ (by omega) (by omega)).mono ?_; exact H.out.on (bthen B1.below (And.left (by assumption) : Gr w1 _).below); exact H2.out.on (bthen B1.below (And.left (by assumption) : Gr w1 _).below); rintro e w' ⟨rfl, rfl⟩)
      | (go_at_call 138; refine (cmpOr_any _ (cmpI f.1 g.1) (cmpL f.2 g.2) _ ?_).mono ?_; exact rdInts_pair _ _ _; rintro e w' ⟨rfl, rfl⟩))
  all_goals
    go_wp2_with (fail)
    go_ret
    exact ⟨ret_int HF.out, B1.trans (And.left (by assumption))⟩

end Go.Proofs.YtniedmhkajnfjaaGreat
/-
  sameFact.
-/
namespace Go.Proofs.YtniedmhkajnfjaaGreat
open Go.RowKit Go.Sort

set_option maxHeartbeats 400000 in
set_option maxRecDepth 100000 in
theorem sameFact_grow (v v2 : Value) (f g : LFact) (w : World) (h : RdFact w w.heap.size v f) (h2 : RdFact w w.heap.size v2 g) (hn : f.2.length ≤ 1048576) (hn2 : g.2.length ≤ 1048576) :
    Calls Tryz.prog 63 #[v, v2] w fun e w' => e = .returned (.bool (factOrder f g == 0)) ∧ Gr w w' := by
  obtain ⟨a, rfl, h⟩ := h
  have H := Lib.hid h
  obtain ⟨A, c, rfl, hc, _⟩ := h
  obtain ⟨a, rfl, h2⟩ := h2
  have H2 := Lib.hid h2
  obtain ⟨A2, c2, rfl, hc2, _⟩ := h2
  go_enter Tryz.func63, Tryz.ntmps63
  go_wp2_with (fail)
  refine (implFactOrder_grow _ _ f g _ ⟨_, rfl, H.out.on (below2 _ _ _)⟩ ⟨_, rfl, H2.out.on (below2 _ _ _)⟩ hn hn2).mono ?_
  rintro e w1 ⟨rfl, hg1⟩
  have HG := Lib.hid ((((Gr.refl w).alloc _).alloc _).trans hg1)
  clear hg1
  go_wp2_with (fail)
  go_ret
  exact ⟨rfl, HG.out⟩

end Go.Proofs.YtniedmhkajnfjaaGreat
/-
  roundOf's closure, and slices.IndexFunc by it: where a fact stands first.
-/
namespace Go.Proofs.YtniedmhkajnfjaaGreat
open Go.RowKit

theorem sameF_iff (f g : LFact) : (factOrder f g == 0) = decide (f = g) := by
  by_cases h : f = g
  · subst h
    simp [order_refl]
  · rw [decide_eq_false h]
    simpa using fun e => h (order_eq e)

set_option maxHeartbeats 1000000 in
set_option maxRecDepth 100000 in
theorem sameAs_any (b0 : Nat) (f h : LFact) (A A2 : Option Addr) (c c2 : Nat) (w : World) (hf : RdInts w w.heap.size (.slice A f.2.length c) f.2) (hb : Blk w b0 39 #[.int .i64 h.1, .slice A2 h.2.length c2]) (hh : RdInts w w.heap.size (.slice A2 h.2.length c2) h.2) (hn : f.2.length ≤ 1048576) (hn2 : h.2.length ≤ 1048576) :
    Calls Tryz.prog 62 #[.agg #[.int .i64 f.1, .slice A f.2.length c], .pointer (some ⟨b0, 0, none⟩)] w fun e w' => e = .returned (.bool (decide (f = h))) ∧ Below w.heap.size w w' := by
  have HF := Lib.hid hf
  have HH := Lib.hid hh
  have HB := Lib.hid hb
  have hbl := hb.lt
  clear hf hh hb
  go_enter Tryz.func62, Tryz.ntmps62
  go_upto_region 1 with fail
  obtain ⟨w1, hw1⟩ : ∃ w1, w1 = w.alloc (Obj.cells #[Value.int IntKind.i64 f.1, Value.slice A f.2.length c] 39) := ⟨_, rfl⟩
  have X1 : Blk w1 w.heap.size 39 #[.int .i64 f.1, .slice A f.2.length c] := by rw [hw1]; exact Blk.new _ _ _
  have B1 : Below w.heap.size w w1 := by rw [hw1]; exact below1 _ _
  rw [← hw1]
  clear hw1
  have Y1 := HB.out.below B1 hbl
  have y0 : w1.cell? ⟨b0, 0, none⟩ = some (.int .i64 h.1) := Y1.cell 0
  have y1 : w1.cell? ⟨b0, 1, none⟩ = some (.slice A2 h.2.length c2) := Y1.cell 1
  have x0 : w1.cell? ⟨w.heap.size, 0, none⟩ = some (.int .i64 f.1) := X1.cell 0
  have x1 : w1.cell? ⟨w.heap.size, 1, none⟩ = some (.slice A f.2.length c) := X1.cell 1
  have CS := Lib.hid ((sameFact_grow (.agg #[.int .i64 f.1, .slice A f.2.length c]) (.agg #[.int .i64 h.1, .slice A2 h.2.length c2]) f h w1 ⟨_, rfl, HF.out.on B1⟩ ⟨_, rfl, HH.out.on B1⟩ hn hn2).mono fun e w' (hx : e = .returned (.bool (factOrder f h == 0)) ∧ Gr w1 w') => (⟨by rw [hx.1, sameF_iff], hx.2.below⟩ : e = .returned (.bool (decide (f = h))) ∧ Below w1.heap.size w1 w'))
  have HB1 := Lib.hid B1
  clear X1 Y1 B1
  go_wp2_with (go_at_call 63; refine CS.out.mono ?_; rintro e w2 ⟨rfl, b2⟩; have HB2 := Lib.hid (bthen HB1.out b2); clear b2)
  go_ret
  exact ⟨rfl, HB2.out⟩

set_option maxHeartbeats 2000000 in
set_option maxRecDepth 100000 in
theorem indexFact_any (v : Value) (fs : List LFact) (b0 : Nat) (h : LFact) (A2 : Option Addr) (c2 : Nat) (w : World) (hr : RdFacts w w.heap.size v fs) (hb : Blk w b0 39 #[.int .i64 h.1, .slice A2 h.2.length c2]) (hh : RdInts w w.heap.size (.slice A2 h.2.length c2) h.2) (hn : fs.length ≤ 1048576) (hn1 : ∀ f ∈ fs, f.2.length ≤ 1048576) (hn2 : h.2.length ≤ 1048576) :
    Calls Tryz.prog 61 #[v, .func (.func 62) #[] #[.pointer (some ⟨b0, 0, none⟩)]] w fun e w' =>
      ((e = .returned (.int .i64 (-1)) ∧ h ∉ fs) ∨ ∃ k : Nat, e = .returned (.int .i64 k) ∧ (∃ hk : k < fs.length, fs[k] = h)) ∧ Below w.heap.size w w' := by
  have H := Lib.hid hr
  have HB := Lib.hid hb
  have HH := Lib.hid hh
  have HL := Lib.hid hn1
  have hbl := hb.lt
  obtain ⟨A, c, rfl, hc, _⟩ := hr
  clear hb hh hn1
  go_enter Tryz.func61, Tryz.ntmps61
  go_wp2_with fail
  go_loopw [8] (fun i wr => ∃ k : Nat, k ≤ fs.length ∧ i = .int .i64 k ∧ (∀ j (hj : j < fs.length), j < k → fs[j] ≠ h) ∧ Below w.heap.size w wr) (fun i _ => fs.length - (intOf i).toNat)
  case atStart => exact ⟨0, Nat.zero_le _, rfl, fun j _ h => absurd h (by omega), Below.refl _ _⟩
  case round =>
    obtain ⟨k, hk, rfl, hs, hbe⟩ := hrel
    by_cases hlt : k < fs.length
    · obtain ⟨b, o, A3, c3, rfl, hbB, k1, k2, k3⟩ := (H.out.below hbe (Nat.le_refl _)).get hlt
      have hsz := hbe.size
      have CI := Lib.hid (sameAs_any b0 fs[k] h A3 A2 c3 c2 wr (k3.more (by omega)) (HB.out.below hbe hbl) (HH.out.on hbe) (HL.out _ (List.getElem_mem hlt)) hn2)
      obtain ⟨f, hfe⟩ : ∃ f, f = fs[k] := ⟨_, rfl⟩
      rw [← hfe] at CI k1 k2
      have HFE := Lib.hid hfe
      have HS := Lib.hid hs
      have HBE := Lib.hid hbe
      clear k3 hs hbe hfe
      by_cases h0 : f = h
      · rw [decide_eq_true h0] at CI
        have H0 := Lib.hid h0
        clear h0
        go_wp2_with (go_at_call 62; refine CI.out.mono ?_; rintro e w2 ⟨rfl, hb2⟩; have HB2 := Lib.hid (bthen HBE.out hb2); clear hb2)
        go_ret
        exact ⟨.inr ⟨k, rfl, hlt, by rw [← HFE.out]; exact H0.out⟩, HB2.out⟩
      · rw [decide_eq_false h0] at CI
        have H0 := Lib.hid h0
        clear h0
        go_wp2_with (go_at_call 62; refine CI.out.mono ?_; rintro e w2 ⟨rfl, hb2⟩; have HB2 := Lib.hid (bthen HBE.out hb2); clear hb2)
        go_roundw
        case rel => exact ⟨k + 1, by omega, by go_num, fun j hj hjk => by
          by_cases e : j = k
          · subst e
            have := H0.out
            rw [HFE.out] at this
            exact this
          · exact HS.out j hj (by omega), HB2.out⟩
        case measure => simp [intOf]; omega
    · have HBE := Lib.hid hbe
      have HNO := Lib.hid (show h ∉ fs from fun hm => by
        obtain ⟨j, hj, e⟩ := List.getElem_of_mem hm
        exact hs j hj (by omega) e)
      clear hs hbe
      go_wp2_with fail
      go_ret
      exact ⟨.inl ⟨rfl, HNO.out⟩, HBE.out⟩

end Go.Proofs.YtniedmhkajnfjaaGreat
/-
  slices.BinarySearch at integers.
-/
namespace Go.Proofs.YtniedmhkajnfjaaGreat
open Go.RowKit

theorem cmpLessI_any (x y : Int) (w : World) :
    Calls Tryz.prog 100 #[.int .i64 x, .int .i64 y] w fun e w' => e = .returned (.bool (decide (x < y))) ∧ w' = w := by
  go_enter Tryz.func100, Tryz.ntmps100
  go_wp2
  go_ret
  simp
theorem cmpLessI_is {x y : Int} {b : Bool} (h : decide (x < y) = b) (w : World) :
    Calls Tryz.prog 100 #[.int .i64 x, .int .i64 y] w fun e w' => e = .returned (.bool b) ∧ w' = w := h ▸ cmpLessI_any x y w
def LessI (T : List Int) (m : Int) (i : Nat) : Prop := ∀ k (h : k < T.length), k < i → T[k] < m
def FromI (T : List Int) (m : Int) (j : Nat) : Prop := ∀ k (h : k < T.length), j ≤ k → m ≤ T[k]
theorem lessI_mid {T : List Int} {m : Int} {h : Nat} (hup : T.Pairwise (· ≤ ·)) (hh : h < T.length) (e : T[h] < m) : LessI T m (h + 1) := fun k hk hlt => by
  by_cases e2 : k = h
  · subst e2
    exact e
  · have := List.pairwise_iff_getElem.1 hup k h hk hh (by omega)
    omega
theorem fromI_mid {T : List Int} {m : Int} {h : Nat} (hup : T.Pairwise (· ≤ ·)) (hh : h < T.length) (e : ¬ T[h] < m) : FromI T m h := fun k hk hle => by
  by_cases e2 : k = h
  · subst e2
    omega
  · have := List.pairwise_iff_getElem.1 hup h k hh hk (by omega)
    omega

set_option maxHeartbeats 2000000 in
set_option maxRecDepth 100000 in
theorem searchI_any (v : Value) (T : List Int) (m : Int) (B : Nat) (w : World) (h : RdInts w B v T) (hup : T.Pairwise (· ≤ ·)) (hn : T.length ≤ 1048576) :
    Calls Tryz.prog 64 #[v, .int .i64 m] w fun e w' =>
      (∃ (i : Nat) (R : Bool), e = .returned (.tuple #[.int .i64 i, .bool R]) ∧ i ≤ T.length ∧ LessI T m i ∧ FromI T m i) ∧ w' = w := by
  have HU := Lib.hid hup
  have H := Lib.hid h
  obtain ⟨A, c, rfl, hc, hcell⟩ := h
  have HC := Lib.hid hcell
  clear hup hcell
  go_enter Tryz.func64, Tryz.ntmps64
  go_wp2_with fail
  go_loopg [7, 8] T.length (fun q vi vj wr => ∃ i j : Nat, vi = .int .i64 i ∧ vj = .int .i64 j ∧ i ≤ j ∧ j ≤ T.length ∧ j - i ≤ q ∧ wr = w ∧ Hid (LessI T m i ∧ FromI T m j))
  case atStart => exact ⟨0, T.length, rfl, rfl, Nat.zero_le _, Nat.le_refl _, Nat.sub_le _ _, rfl, fun k _ hk => absurd hk (by omega), fun k hk hle => absurd hk (by omega)⟩
  case round =>
    obtain ⟨i, j, rfl, rfl, hij, hj, hq, rfl, HI⟩ := hrel
    by_cases hlt : i < j
    · obtain ⟨p, hp⟩ : ∃ p, p = (i + j) / 2 := ⟨_, rfl⟩
      have hp1 : i ≤ p := by omega
      have hp2 : p < j := by omega
      have hpl : p < T.length := by omega
      have HM := Lib.hid (show ((i : Int) + (j : Int)) / 2 = (p : Int) by omega)
      obtain ⟨b, o, rfl, hbB, kk⟩ := HC.out (by omega)
      have k1 := kk p hpl
      obtain ⟨K, hK⟩ : ∃ K, K = T[p] := ⟨_, rfl⟩
      rw [← hK] at k1
      have HK := Lib.hid hK
      clear hK hp kk
      go_upto_region 5 with fail
      rw [HM.out]
      by_cases hl : K < m
      · have hl2 : decide (K < m) = true := decide_eq_true hl
        have HN := Lib.hid (lessI_mid HU.out hpl (by rw [← HK.out]; exact hl))
        have HL := Lib.hid hl2
        clear hl2 hl
        go_wp2_with (go_at_call 100; refine (cmpLessI_is HL.out _).mono ?_; rintro e w' ⟨rfl, rfl⟩)
        go_roundg (j - (p + 1))
        case measure => omega
        case rel => exact ⟨p + 1, j, by go_num, rfl, by omega, hj, Nat.le_refl _, rfl, HN.out, HI.out.2⟩
      · have hl2 : decide (K < m) = false := decide_eq_false hl
        have HN := Lib.hid (fromI_mid HU.out hpl (by rw [← HK.out]; exact hl))
        have HL := Lib.hid hl2
        clear hl2 hl
        go_wp2_with (go_at_call 100; refine (cmpLessI_is HL.out _).mono ?_; rintro e w' ⟨rfl, rfl⟩)
        go_roundg (p - i)
        case measure => omega
        case rel => exact ⟨i, p, rfl, rfl, hp1, by omega, Nat.le_refl _, rfl, HI.out.1, HN.out⟩
    · obtain rfl : i = j := by omega
      have HNN : ∀ W (x : Int), Calls Tryz.prog 101 #[.int .i64 x] W fun e w' => e = .returned (.bool false) ∧ w' = W := by
        intro W x
        go_enter Tryz.func101, Tryz.ntmps101
        go_wp2
        go_ret
        exact ⟨rfl, rfl⟩
      by_cases hpl : i < T.length
      · obtain ⟨b, o, rfl, hbB, kk⟩ := HC.out (by omega)
        have k1 := kk i hpl
        obtain ⟨K, hK⟩ : ∃ K, K = T[i] := ⟨_, rfl⟩
        rw [← hK] at k1
        clear hK kk
        by_cases e : K = m
        · subst e
          go_wp2_with (go_at_call 101; refine (HNN _ _).mono ?_; rintro e w' ⟨rfl, rfl⟩)
          go_ret2
          exact ⟨⟨i, _, rfl, hj, HI.out.1, HI.out.2⟩, rfl⟩
        · have hne : (K == m) = false := by simpa using e
          go_wp2_with (go_at_call 101; refine (HNN _ _).mono ?_; rintro e w' ⟨rfl, rfl⟩)
          go_ret2
          exact ⟨⟨i, _, rfl, hj, HI.out.1, HI.out.2⟩, rfl⟩
      · go_wp2_with (go_at_call 101; refine (HNN _ _).mono ?_; rintro e w' ⟨rfl, rfl⟩)
        go_ret2
        exact ⟨⟨i, _, rfl, hj, HI.out.1, HI.out.2⟩, rfl⟩

end Go.Proofs.YtniedmhkajnfjaaGreat
/-
  roundOf: the round that brings a fact.
-/
namespace Go.Proofs.YtniedmhkajnfjaaGreat
open Go.RowKit

theorem GrAt.rdEnds {w : World} {g o e : Nat} {X : List FV} {E : List Nat} {R : Nat → Value} (h : GrAt w g X E o e R) (hm : 0 < E.length) : ∃ b c, R 1 = .slice (some ⟨b, 0, none⟩) E.length c ∧ RdInts w w.heap.size (.slice (some ⟨b, 0, none⟩) E.length c) (E.map fun (n : Nat) => (n : Int)) := by
  obtain ⟨b, c, h1, h2, h3⟩ := h.endsAt hm
  have hlt := (h.raw.rowLt (r := 1) (by omega) (b := b) (by rw [h1]; rfl)).2
  refine ⟨b, c, h1, _, c, by rw [List.length_map], by rw [List.length_map]; exact h3, fun _ => ⟨b, 0, rfl, hlt, fun k hk => ?_⟩⟩
  rw [List.length_map] at hk
  have := h2 k hk
  rw [Nat.zero_add, this]
  simp [hk]

set_option maxHeartbeats 4000000 in
set_option maxRecDepth 100000 in
theorem roundOf_any (g : Nat) (X : List FV) (E : List Nat) (o e : Nat) (R : Nat → Value) (f : LFact) (A2 : Option Addr) (c2 : Nat) (w : World) (h : GrAt w g X E o e R) (hf : RdInts w w.heap.size (.slice A2 f.2.length c2) f.2) (hX : X.length ≤ 1048576) (hXs : ∀ x ∈ factsX X, x.2.length ≤ 1048576) (hfn : f.2.length ≤ 1048576) (hE : 0 < E.length) (hE2 : E.length ≤ 1048576) (hup : E.Pairwise (· < ·)) :
    Calls Tryz.prog 33 #[.pointer (some ⟨g, 0, none⟩), .agg #[.int .i64 f.1, .slice A2 f.2.length c2]] w fun e' w' =>
      ((e' = .returned (.int .i64 (-1)) ∧ f ∉ factsX X) ∨ ∃ r k : Nat, e' = .returned (.int .i64 r) ∧ (∃ hk : k < (factsX X).length, (factsX X)[k] = f) ∧ r ≤ E.length ∧ (∀ i, i < r → i < E.length → E.getD i 0 ≤ k) ∧ ∀ i, r ≤ i → i < E.length → k < E.getD i 0) ∧ Below w.heap.size w w' := by
  have HG := Lib.hid h
  have HF := Lib.hid hf
  have HUP := Lib.hid (show (E.map fun (n : Nat) => (n : Int)).Pairwise (· ≤ ·) from by
    rw [List.pairwise_map]
    exact hup.imp fun h => by omega)
  obtain ⟨A0, c0, hv0⟩ := h.raw.formL
  have hgl := h.lt
  clear h hf hup
  go_enter Tryz.func33, Tryz.ntmps33
  go_upto_region 1 with fail
  obtain ⟨w1, hw1⟩ : ∃ w1, w1 = w.alloc (Obj.cells #[Value.int IntKind.i64 f.1, Value.slice A2 f.2.length c2] 39) := ⟨_, rfl⟩
  have X1 : Blk w1 w.heap.size 39 #[.int .i64 f.1, .slice A2 f.2.length c2] := by rw [hw1]; exact Blk.new _ _ _
  have B1 : Below w.heap.size w w1 := by rw [hw1]; exact below1 _ _
  rw [← hw1]
  clear hw1
  have G1 := HG.out.on B1
  have HG1 := Lib.hid G1
  have q0 : w1.cell? ⟨g, 0, none⟩ = some (.slice A0 X.length c0) := by rw [← hv0]; exact G1.raw.cellList
  have hXc : X.length ≤ c0 := by
    rcases G1.raw.list.2 with ⟨e1, e0⟩ | ⟨b', cap, cur, e1, _, _, h2, _⟩
    · rw [hv0] at e1; injection e1 with _ e2 e3; omega
    · rw [hv0] at e1; injection e1 with _ e2 e3; omega
  have hl := factsX_len X
  have HRD := Lib.hid (rdX G1.raw.list G1.raw.argsL (Nat.le_refl _) hv0 (c' := c0) hXc)
  rw [show (factsX X).take X.length = factsX X from List.take_of_length_le (by rw [hl]; exact Nat.le_refl _)] at HRD
  have CI := Lib.hid (indexFact_any (.slice A0 X.length c0) (factsX X) w.heap.size f A2 c2 w1 HRD.out X1 (HF.out.on B1) (by omega) hXs hfn)
  have HL := Lib.hid hl
  have HB1 := Lib.hid B1
  clear X1 B1 G1 hv0 hl
  go_upto_region 2 with (go_at_call 61; refine CI.out.mono ?_; rintro e2 w2 ⟨hcase, b2⟩; rcases hcase with ⟨rfl, hno⟩ | ⟨k, rfl, hk⟩)
  · have HB2 := Lib.hid (bthen HB1.out b2)
    have HNO := Lib.hid hno
    clear hno b2 q0
    go_wp2_with fail
    go_ret
    exact ⟨.inl ⟨rfl, HNO.out⟩, HB2.out⟩
  · have HB2 := Lib.hid (bthen HB1.out b2)
    have G2 := HG1.out.on b2
    obtain ⟨b1, c1, hv1, hrd⟩ := G2.rdEnds hE
    have q1 : w2.cell? ⟨g, 1, none⟩ = some (.slice (some ⟨b1, 0, none⟩) E.length c1) := by rw [← hv1]; exact G2.raw.cellEnds
    have HK := Lib.hid hk
    have hk0 : ¬ (k : Int) < 0 := by omega
    have hk1 : k < X.length := by rw [← HL.out]; exact hk.1
    have CS := Lib.hid (searchI_any (.slice (some ⟨b1, 0, none⟩) E.length c1) (E.map fun (n : Nat) => (n : Int)) ((k : Int) + 1) w2.heap.size w2 hrd HUP.out (by rw [List.length_map]; exact hE2))
    clear hk b2 q0 G2 hv1 hrd
    go_wp2_with (go_at_call 64; refine CS.out.mono ?_; rintro e3 w3 ⟨⟨i, Rb, rfl, hi, hless, hfrom⟩, rfl⟩; have HI := Lib.hid (And.intro hi (And.intro hless hfrom)); clear hi hless hfrom)
    go_ret
    obtain ⟨hi, hless, hfrom⟩ := HI.out
    rw [List.length_map] at hi
    refine ⟨.inr ⟨i, k, rfl, HK.out, hi, fun j h1 h2 => ?_, fun j h1 h2 => ?_⟩, HB2.out⟩
    · have := hless j (by rw [List.length_map]; exact h2) h1
      simp [List.getD_eq_getElem?_getD, h2] at this ⊢
      omega
    · have := hfrom j (by rw [List.length_map]; exact h2) h1
      simp [List.getD_eq_getElem?_getD, h2] at this ⊢
      omega

end Go.Proofs.YtniedmhkajnfjaaGreat
/-
  In which round a fact comes, plain mathematics.
-/
namespace Go.Proofs.YtniedmhkajnfjaaGreat
open Go.RowKit

def firstIx (f : LFact) : List (List LFact) → Nat → Int
  | [], _ => -1
  | F :: FF, k => if f ∈ F then (k : Int) else firstIx f FF (k + 1)
theorem firstIx_none {f : LFact} : ∀ {FF : List (List LFact)} {k : Nat}, (∀ F ∈ FF, f ∉ F) → firstIx f FF k = -1
  | [], _, _ => rfl
  | F :: FF, k, h => by
    rw [firstIx, if_neg (h F List.mem_cons_self)]
    exact firstIx_none fun G hG => h G (List.mem_cons_of_mem _ hG)
theorem firstIx_at {f : LFact} : ∀ {FF : List (List LFact)} {k r : Nat} (hr : r < FF.length), f ∈ FF[r] → (∀ i (h : i < FF.length), i < r → f ∉ FF[i]) → firstIx f FF k = (k : Int) + r
  | [], _, _, hr, _, _ => absurd hr (by simp)
  | F :: FF, k, 0, _, h, _ => by
    rw [firstIx, if_pos (show f ∈ F from h)]
    simp
  | F :: FF, k, r + 1, hr, h, hn => by
    rw [firstIx, if_neg (show f ∉ F from hn 0 (by simp) (by omega)), firstIx_at (FF := FF) (k := k + 1) (r := r) (by simpa using hr) h fun i hi hir => hn (i + 1) (by simpa using hi) (by omega)]
    omega
def roundOfL (p : LProg) (fs : List LFact) (f : LFact) : Int := firstIx f (roundsL p fs) 0
theorem firstIx_ge (f : LFact) : ∀ (FF : List (List LFact)) (k : Nat), -1 ≤ firstIx f FF k ∧ firstIx f FF k ≤ (k : Int) + FF.length
  | [], k => by simp [firstIx]
  | F :: FF, k => by
    have := firstIx_ge f FF (k + 1)
    rw [firstIx, List.length_cons]
    split <;> omega
theorem mem_take_ix {L : List LFact} {f : LFact} {k n : Nat} (hn : L.Nodup) (hk : k < L.length) (e : L[k] = f) : f ∈ L.take n ↔ k < n := by
  rw [List.mem_take_iff_getElem]
  constructor
  · rintro ⟨i, hi, e2⟩
    have : i = k := (List.getElem_inj hn).1 (e2.trans e.symm)
    omega
  · intro h
    exact ⟨k, by omega, e⟩
/-- What roundOf hands back is the round. -/
theorem Grown.ix {w : World} {g o m : Nat} {p : LProg} {fs : List LFact} {X : List FV} {E : List Nat} {R : Nat → Value} (h : Grown w g p fs X E o R m) (hl : lokB p fs = true) (f : LFact) :
    (f ∉ factsX X → roundOfL p fs f = -1) ∧ ∀ r k : Nat, (∃ hk : k < (factsX X).length, (factsX X)[k] = f) → r ≤ E.length → (∀ i, i < r → i < E.length → E.getD i 0 ≤ k) → (∀ i, r ≤ i → i < E.length → k < E.getD i 0) → roundOfL p fs f = (r : Int) := by
  obtain ⟨hlen, _⟩ := h.len_ hl
  have hat : ∀ i (hi : i < (roundsL p fs).length), f ∈ (roundsL p fs)[i] ↔ f ∈ (factsX X).take (E.getD i 0) := fun i hi => by
    have him : i ≤ m := by have := h.len; omega
    have he : (roundsL p fs)[i] = iterL p.2 (setOf fs) i := by
      obtain ⟨h1, h2, h3, _⟩ := lok_parts hl
      simp [roundsL, hl, roundsFrom]
    rw [he]
    exact ((h.ends i him).2 f).symm
  refine ⟨fun hn => firstIx_none fun F hF => ?_, fun r k ⟨hk, e⟩ hr h1 h2 => ?_⟩
  · obtain ⟨i, hi, rfl⟩ := List.getElem_of_mem hF
    rw [hat i hi]
    exact fun hm => hn (List.mem_of_mem_take hm)
  · have hlm := h.len
    have hr2 : r < E.length := by
      apply Classical.byContradiction
      intro hc
      have h3 := h1 m (by omega) (by omega)
      have h4 : f ∈ factsX X := by rw [← e]; exact List.getElem_mem hk
      rw [h.now, ← (h.ends m (Nat.le_refl _)).2, mem_take_ix h.fit.nodup hk e] at h4
      omega
    unfold roundOfL
    rw [firstIx_at (r := r) (by omega) ((hat r (by omega)).2 ((mem_take_ix h.fit.nodup hk e).2 (h2 r (Nat.le_refl _) hr2))) fun i hi hir => by
      rw [hat i hi, mem_take_ix h.fit.nodup hk e]
      have := h1 i hir (by omega)
      omega]
    simp

end Go.Proofs.YtniedmhkajnfjaaGreat
/-
  RoundOf: the specification's and the program's.
-/
namespace Go.Proofs.YtniedmhkajnfjaaGreat
open Go.RowKit

theorem Grown.shorts {w : World} {g o m : Nat} {p : LProg} {fs : List LFact} {X : List FV} {E : List Nat} {R : Nat → Value} (h : Grown w g p fs X E o R m) (hl : lokB p fs = true) : X.length ≤ 1536 ∧ (∀ x ∈ factsX X, x.2.length ≤ 1048576) ∧ 0 < E.length := by
  obtain ⟨h1, _⟩ := lok_parts hl
  refine ⟨h.at_.few h1 h.fit, fun x hx => ?_, by have := h.len; omega⟩
  have := fits_short h1 (h.fit.fits x hx)
  omega

set_option maxHeartbeats 4000000 in
set_option maxRecDepth 100000 in
theorem implRoundOf_any (v v2 v3 : Value) (p : LProg) (fs : List LFact) (f : LFact) (w : World) (h : RdProg w w.heap.size v p) (h2 : RdFacts w w.heap.size v2 fs) (h3 : RdFact w w.heap.size v3 f) (hs : szP p ≤ 1048576) (hn : fs.length ≤ 1048576) (ht : tot fs ≤ 1048576) (hf : f.2.length ≤ 1048576) :
    Calls Tryz.prog 12 #[v, v2, v3] w fun e w' => e = .returned (.int .i64 (roundOfL p fs f)) ∧ Below w.heap.size w w' := by
  have HP := Lib.hid h
  have H2 := Lib.hid h2
  obtain ⟨a, b, rfl, hA, hR⟩ := h
  obtain ⟨A, c, rfl, hcA, _⟩ := hA
  obtain ⟨A2, c2, rfl, hcR, _⟩ := hR
  obtain ⟨A3, c3, rfl, hcF, _⟩ := h2
  obtain ⟨a3, rfl, ha3⟩ := h3
  have H3 := Lib.hid ha3
  obtain ⟨A4, c4, rfl, hc4, _⟩ := ha3
  obtain ⟨R, hRR⟩ : ∃ R, R = roundOfL p fs f := ⟨_, rfl⟩
  have HRR := Lib.hid hRR
  rw [← hRR]
  clear hRR
  go_enter Tryz.func12, Tryz.ntmps12
  go_upto_region 1 with fail
  obtain ⟨w1, hw1⟩ : ∃ w1, w1 = w.alloc (Obj.cells #[Value.slice A p.1.length c, Value.slice A2 p.2.length c2] 35) := ⟨_, rfl⟩
  have X1 : Blk w1 w.heap.size 35 #[.slice A p.1.length c, .slice A2 p.2.length c2] := by rw [hw1]; exact Blk.new _ _ _
  have B1 : Below w.heap.size w w1 := by rw [hw1]; exact below1 _ _
  have hs1 : w1.heap.size = w.heap.size + 1 := by rw [hw1]; simp
  rw [← hw1]
  clear hw1
  obtain ⟨w2, hw2⟩ : ∃ w2, w2 = w1.alloc (Obj.cells #[Value.int IntKind.i64 f.1, Value.slice A4 f.2.length c4] 39) := ⟨_, rfl⟩
  have Y2 : Blk w2 (w.heap.size + 1) 39 #[.int .i64 f.1, .slice A4 f.2.length c4] := by rw [hw2, ← hs1]; exact Blk.new _ _ _
  have b2 : Below w1.heap.size w1 w2 := by rw [hw2]; exact below1 _ _
  rw [← hw2]
  clear hw2
  have X2 := X1.below b2 X1.lt
  have B2 := bthen B1 b2
  have x0 : w2.cell? ⟨w.heap.size, 0, none⟩ = some (.slice A p.1.length c) := X2.cell 0
  have x1 : w2.cell? ⟨w.heap.size, 1, none⟩ = some (.slice A2 p.2.length c2) := X2.cell 1
  have CG := Lib.hid (growthOf_any _ _ p fs w2 (HP.out.on B2) (H2.out.on B2) hs hn ht)
  have HY2 := Lib.hid Y2
  have HB2 := Lib.hid B2
  clear X1 X2 Y2 B1 B2 b2 hs1
  go_upto_region 2 with (go_at_call 32; refine CG.out.mono ?_; rintro e w3 ⟨hcase, b3⟩; rcases hcase with ⟨hno, rfl⟩ | ⟨hyes, g, X, E, o, Rg, m, rfl, hg, hgr⟩)
  · have HNO := Lib.hid hno
    have HB3 := Lib.hid (bthen HB2.out b3)
    clear hno b3 x0 x1
    go_wp2_with fail
    go_ret
    exact ⟨by rw [HRR.out]; unfold roundOfL roundsL; rw [HNO.out]; rfl, HB3.out⟩
  · have HGR := Lib.hid hgr
    have HY := Lib.hid hyes
    have hB3 := bthen HB2.out b3
    have HB3 := Lib.hid hB3
    have Y3 := HY2.out.below b3 HY2.out.lt
    have y0 : w3.cell? ⟨w.heap.size + 1, 0, none⟩ = some (.int .i64 f.1) := Y3.cell 0
    have y1 : w3.cell? ⟨w.heap.size + 1, 1, none⟩ = some (.slice A4 f.2.length c4) := Y3.cell 1
    obtain ⟨s1, s2, s3⟩ := hgr.shorts hyes
    have CR := Lib.hid (roundOf_any g X E o X.length Rg f A4 c4 w3 hgr.at_ (H3.out.on hB3) (by omega) s2 hf s3 (by have := (hgr.len_ hyes).2; omega) hgr.up)
    clear hgr hyes b3 x0 x1 hB3 Y3 s1 s2 s3
    go_wp2_with (go_at_call 33; refine CR.out.mono ?_; rintro e w4 ⟨hcase, b4⟩; have HC := Lib.hid hcase; have HB4 := Lib.hid (bthen HB3.out b4); clear b4; rcases hcase with ⟨rfl, hno⟩ | ⟨r, k, rfl, hrk⟩)
    · have HNO := Lib.hid hno
      clear hno HC
      go_wp2_with fail
      go_ret
      exact ⟨ret_int (by rw [HRR.out, (HGR.out.ix HY.out f).1 HNO.out]), HB4.out⟩
    · have HRK := Lib.hid hrk
      clear hrk HC
      go_wp2_with fail
      go_ret
      exact ⟨ret_int (by rw [HRR.out, (HGR.out.ix HY.out f).2 r k HRK.out.1 HRK.out.2.1 HRK.out.2.2.1 HRK.out.2.2.2]), HB4.out⟩

set_option maxHeartbeats 4000000 in
set_option maxRecDepth 100000 in
theorem specRoundOf_any (v v2 v3 : Value) (p : LProg) (fs : List LFact) (f : LFact) (w : World) (h : RdProg w w.heap.size v p) (h2 : RdFacts w w.heap.size v2 fs) (h3 : RdFact w w.heap.size v3 f) (hs : szP p ≤ 1048576) (hn : fs.length ≤ 1048576) (ht : tot fs ≤ 1048576) (hf : f.2.length ≤ 1048576) :
    Calls Tryz.prog 8 #[v, v2, v3] w fun e w' => e = .returned (.int .i64 (roundOfL p fs f)) ∧ Below w.heap.size w w' := by
  have HP := Lib.hid h
  have H2 := Lib.hid h2
  obtain ⟨a, b, rfl, hA, hR⟩ := h
  obtain ⟨A, c, rfl, hcA, _⟩ := hA
  obtain ⟨A2, c2, rfl, hcR, _⟩ := hR
  obtain ⟨A3, c3, rfl, hcF, _⟩ := h2
  obtain ⟨a3, rfl, ha3⟩ := h3
  have H3 := Lib.hid ha3
  obtain ⟨A4, c4, rfl, hc4, _⟩ := ha3
  obtain ⟨R, hRR⟩ : ∃ R, R = roundOfL p fs f := ⟨_, rfl⟩
  obtain ⟨RS, hRS⟩ : ∃ RS, RS = roundsL p fs := ⟨_, rfl⟩
  have HRR := Lib.hid (show R = firstIx f RS 0 by rw [hRR, hRS]; rfl)
  have HFW := Lib.hid (show RS.length ≤ 2001 ∧ ∀ F ∈ RS, szF F ≤ 1048576 from by
    rw [hRS]
    refine ⟨?_, fun F hF => (roundsL_few p fs).2 F hF⟩
    unfold roundsL
    split
    · have h4 : roundsM p.2 (setOf fs) ≤ 2000 := firstM_le p.2 (setOf fs) 2000 0
      simp [roundsFrom]
      omega
    · simp)
  have HRS := Lib.hid hRS
  rw [← hRR]
  clear hRR hRS
  go_enter Tryz.func8, Tryz.ntmps8
  go_upto_region 1 with fail
  obtain ⟨w1, hw1⟩ : ∃ w1, w1 = w.alloc (Obj.cells #[Value.slice A p.1.length c, Value.slice A2 p.2.length c2] 35) := ⟨_, rfl⟩
  have X1 : Blk w1 w.heap.size 35 #[.slice A p.1.length c, .slice A2 p.2.length c2] := by rw [hw1]; exact Blk.new _ _ _
  have B1 : Below w.heap.size w w1 := by rw [hw1]; exact below1 _ _
  have hs1 : w1.heap.size = w.heap.size + 1 := by rw [hw1]; simp
  rw [← hw1]
  clear hw1
  obtain ⟨w2, hw2⟩ : ∃ w2, w2 = w1.alloc (Obj.cells #[Value.int IntKind.i64 f.1, Value.slice A4 f.2.length c4] 39) := ⟨_, rfl⟩
  have Y2 : Blk w2 (w.heap.size + 1) 39 #[.int .i64 f.1, .slice A4 f.2.length c4] := by rw [hw2, ← hs1]; exact Blk.new _ _ _
  have b2 : Below w1.heap.size w1 w2 := by rw [hw2]; exact below1 _ _
  rw [← hw2]
  clear hw2
  have X2 := X1.below b2 X1.lt
  have B2 := bthen B1 b2
  have x0 : w2.cell? ⟨w.heap.size, 0, none⟩ = some (.slice A p.1.length c) := X2.cell 0
  have x1 : w2.cell? ⟨w.heap.size, 1, none⟩ = some (.slice A2 p.2.length c2) := X2.cell 1
  have CG := Lib.hid (specRounds_any _ _ p fs w2 (HP.out.on B2) (H2.out.on B2) hs hn ht)
  rw [← HRS.out] at CG
  have HY2 := Lib.hid Y2
  have HB2 := Lib.hid B2
  clear X1 X2 Y2 B1 B2 b2 hs1
  go_upto_region 2 with (go_at_call 28; refine CG.out.mono ?_; rintro e w3 ⟨A5, c5, rfl, o5, b3⟩; have HO := Lib.hid (And.intro o5 b3); clear o5 b3)
  clear x0 x1
  have HB3 := Lib.hid (bthen HB2.out HO.out.2)
  have HY3 := Lib.hid (HY2.out.below HO.out.2 HY2.out.lt)
  have hn5 : RS.length ≤ 2001 := HFW.out.1
  go_wp2_with fail
  go_loopw [8] (fun i wr => ∃ k : Nat, k ≤ RS.length ∧ i = .int .i64 k ∧ (∀ j (hj : j < RS.length), j < k → f ∉ RS[j]) ∧ Below w3.heap.size w3 wr) (fun i _ => RS.length - (intOf i).toNat)
  case atStart => exact ⟨0, Nat.zero_le _, rfl, fun j _ h => absurd h (by omega), Below.refl _ _⟩
  case round =>
    obtain ⟨k, hk, rfl, hs2, hbe⟩ := hrel
    by_cases hlt : k < RS.length
    · obtain ⟨hv, P, Q, hff⟩ := HO.out.1.below hbe (Nat.le_refl _)
      obtain ⟨gr, A6, c6, rfl, hgr, hlo, k0, o0, _, _⟩ := hff.get hlt
      have HR0 := Lib.hid o0.rdS
      have Y4 := HY3.out.below hbe HY3.out.lt
      have HYR := Lib.hid Y4
      have HS2 := Lib.hid hs2
      have HBE := Lib.hid hbe
      have hfl := HFW.out.2 _ (List.getElem_mem hlt)
      obtain ⟨F, hFe⟩ : ∃ F, F = RS[k] := ⟨_, rfl⟩
      rw [← hFe] at k0 HR0 hfl
      have HFE := Lib.hid hFe
      unfold szF at hfl
      clear hff o0 hs2 hbe Y4 hFe
      go_upto_region 5 with fail
      obtain ⟨wo, rfl⟩ : ∃ wo, wo = wr := ⟨_, rfl⟩
      obtain ⟨SS, hSS⟩ : ∃ SS : World → Prop, SS = (fun W => W.cell? ⟨gr, k, none⟩ = some (.slice A6 F.length c6) ∧ W.cell? ⟨w.heap.size + 1, 0, none⟩ = some (.int .i64 f.1) ∧ W.cell? ⟨w.heap.size + 1, 1, none⟩ = some (.slice A4 f.2.length c4)) := ⟨_, rfl⟩
      have HB := Lib.hid (show ∀ W, SS W → (W.cell? ⟨gr, k, none⟩ = some (.slice A6 F.length c6) ∧ W.cell? ⟨w.heap.size + 1, 0, none⟩ = some (.int .i64 f.1) ∧ W.cell? ⟨w.heap.size + 1, 1, none⟩ = some (.slice A4 f.2.length c4)) from by rw [hSS]; exact fun W hW => hW)
      have SB : SS wo.drew := by
        rw [hSS]
        exact ⟨k0, HYR.out.cell 0, HYR.out.cell 1⟩
      have BB : Below wo.heap.size wo wo.drew := (Below.refl _ _).drew
      have HBB := Lib.hid (bthen HBE.out BB)
      have CH := Lib.hid (specFactsHas_any (.slice A6 F.length c6) (.agg #[.int .i64 f.1, .slice A4 f.2.length c4]) F f wo.drew (HR0.out.on BB) ⟨_, rfl, H3.out.on (HB3.out.trans (HBB.out.mono HB3.out.size))⟩ (by omega) (by omega) hf)
      rw [factsHas_in] at CH
      have hki : (k : Int) < (RS.length : Int) := by omega
      clear hSS k0
      by_cases hm : f ∈ F
      · rw [decide_eq_true hm] at CH
        have HM := Lib.hid hm
        clear hm
        refine wp_region_rel SS 5 6 (by kernel_rfl) rfl ?_
        refine wpAnyR_pure (i := 0) (oi := _) ?va0 rfl rfl (by kernel_rfl) (by decide) (fun _ _ _ h => h) rfl ?hya0 (fun _ => SB) ?resta0
        case hya0 => (intro W; go_simp; (try with_reducible rfl))
        try simp only [List.setIfInBounds_toArray, List.set_cons_zero, List.set_cons_succ]
        refine wpAnyR_pure (i := 1) (oi := _) ?va1 rfl rfl (by kernel_rfl) (by decide) (fun _ _ _ h => h) rfl ?hya1 (fun _ => SB) ?resta1
        case hya1 => (intro W; go_simp; (try with_reducible rfl))
        try simp only [List.setIfInBounds_toArray, List.set_cons_zero, List.set_cons_succ]
        refine wpAnyR_pure (i := 2) (oi := _) ?va2 rfl rfl (by kernel_rfl) (by decide) (fun _ _ _ h => h) rfl ?hya2 (fun _ => SB) ?resta2
        case hya2 => (intro W; go_simp; (try with_reducible rfl))
        try simp only [List.setIfInBounds_toArray, List.set_cons_zero, List.set_cons_succ]
        refine wpAnyR_take (i := 3) (oi := _) ?va3 rfl rfl (by kernel_rfl) (fun _ _ _ h => h) rfl ?hya3 SB ?resta3
        case hya3 => (intro W hW; obtain ⟨E0, _, _⟩ := HB.out W hW; go_simp; (try with_reducible rfl))
        try simp only [List.setIfInBounds_toArray, List.set_cons_zero, List.set_cons_succ]
        refine wpAnyR_take (i := 4) (oi := _) ?va4 rfl rfl (by kernel_rfl) (fun _ _ _ h => h) rfl ?hya4 SB ?resta4
        case hya4 => (intro W hW; obtain ⟨_, E0, E1⟩ := HB.out W hW; go_simp; (try with_reducible rfl))
        try simp only [List.setIfInBounds_toArray, List.set_cons_zero, List.set_cons_succ]
        refine wpAnyR_one (i := 5) (by kernel_rfl) rfl (fun K hK => ?_)
        try rw [if_pos (show Region.wanted _ _ = true from rfl)]
        go_simp
        refine CH.out.mono ?_
        rintro e6 w6 ⟨rfl, b6⟩
        have H6 := Lib.hid b6
        clear b6
        refine hK.out _ _ (fun hf => absurd hf (by decide)) ?_
        clear hK K
        try simp only [List.setIfInBounds_toArray, List.set_cons_zero, List.set_cons_succ, Act.put]
        refine wpAnyR_done (by kernel_rfl) ?_
        go_wp2_with fail
        go_ret
        refine ⟨ret_int ?_, HB3.out.trans ((bthen HBB.out H6.out).mono HB3.out.size)⟩
        rw [HRR.out, firstIx_at (r := k) hlt (by rw [← HFE.out]; exact HM.out) fun i hi hik => HS2.out i hi hik]
        simp
      · rw [decide_eq_false hm] at CH
        have HM := Lib.hid hm
        clear hm
        refine wp_region_rel SS 5 6 (by kernel_rfl) rfl ?_
        refine wpAnyR_pure (i := 0) (oi := _) ?vb0 rfl rfl (by kernel_rfl) (by decide) (fun _ _ _ h => h) rfl ?hyb0 (fun _ => SB) ?restb0
        case hyb0 => (intro W; go_simp; (try with_reducible rfl))
        try simp only [List.setIfInBounds_toArray, List.set_cons_zero, List.set_cons_succ]
        refine wpAnyR_pure (i := 1) (oi := _) ?vb1 rfl rfl (by kernel_rfl) (by decide) (fun _ _ _ h => h) rfl ?hyb1 (fun _ => SB) ?restb1
        case hyb1 => (intro W; go_simp; (try with_reducible rfl))
        try simp only [List.setIfInBounds_toArray, List.set_cons_zero, List.set_cons_succ]
        refine wpAnyR_pure (i := 2) (oi := _) ?vb2 rfl rfl (by kernel_rfl) (by decide) (fun _ _ _ h => h) rfl ?hyb2 (fun _ => SB) ?restb2
        case hyb2 => (intro W; go_simp; (try with_reducible rfl))
        try simp only [List.setIfInBounds_toArray, List.set_cons_zero, List.set_cons_succ]
        refine wpAnyR_take (i := 3) (oi := _) ?vb3 rfl rfl (by kernel_rfl) (fun _ _ _ h => h) rfl ?hyb3 SB ?restb3
        case hyb3 => (intro W hW; obtain ⟨E0, _, _⟩ := HB.out W hW; go_simp; (try with_reducible rfl))
        try simp only [List.setIfInBounds_toArray, List.set_cons_zero, List.set_cons_succ]
        refine wpAnyR_take (i := 4) (oi := _) ?vb4 rfl rfl (by kernel_rfl) (fun _ _ _ h => h) rfl ?hyb4 SB ?restb4
        case hyb4 => (intro W hW; obtain ⟨_, E0, E1⟩ := HB.out W hW; go_simp; (try with_reducible rfl))
        try simp only [List.setIfInBounds_toArray, List.set_cons_zero, List.set_cons_succ]
        refine wpAnyR_one (i := 5) (by kernel_rfl) rfl (fun K hK => ?_)
        try rw [if_pos (show Region.wanted _ _ = true from rfl)]
        go_simp
        refine CH.out.mono ?_
        rintro e6 w6 ⟨rfl, b6⟩
        have H6 := Lib.hid b6
        clear b6
        refine hK.out _ _ (fun hf => absurd hf (by decide)) ?_
        clear hK K
        try simp only [List.setIfInBounds_toArray, List.set_cons_zero, List.set_cons_succ, Act.put]
        refine wpAnyR_done (by kernel_rfl) ?_
        clear SB HB
        go_wp2_with fail
        go_roundw
        case rel => exact ⟨k + 1, by omega, by go_num, fun j hj hjk => by
          by_cases e : j = k
          · subst e
            rw [← HFE.out]
            exact HM.out
          · exact HS2.out j hj (by omega), bthen HBB.out H6.out⟩
        case measure => simp [intOf]; omega
    · have HBE := Lib.hid hbe
      have HNO := Lib.hid (show ∀ F ∈ RS, f ∉ F from fun F hF => by
        obtain ⟨j, hj, rfl⟩ := List.getElem_of_mem hF
        exact hs2 j hj (by omega))
      clear hs2 hbe
      go_wp2_with fail
      go_ret
      exact ⟨ret_int (by rw [HRR.out, firstIx_none HNO.out]), HB3.out.trans (HBE.out.mono HB3.out.size)⟩

end Go.Proofs.YtniedmhkajnfjaaGreat
/-
  Marks on rules and programs that are not read again: markRuleS, markProgram.
-/
namespace Go.Proofs.YtniedmhkajnfjaaGreat
open Go.RowKit

theorem endR_le (k : Int) (r : LRule) : k ≤ endR k r ∧ endR k r ≤ k + 2 * (szR r : Int) := by
  unfold endR endL szR
  omega
theorem totR_take_le (rs : List LRule) (j : Nat) : totR (rs.take j) ≤ totR rs := by
  have := congrArg (fun l => (l.map szR).sum) (List.take_append_drop j rs)
  simp only [List.map_append, List.sum_append] at this
  unfold totR
  omega

end Go.Proofs.YtniedmhkajnfjaaGreat
/-
  What comes in, its lengths.
-/
namespace Go.Proofs.YtniedmhkajnfjaaGreat
open Go.RowKit

theorem ruleLens_in {r : LRule} (h : ruleFitsIn r) : ruleLens r := by
  obtain ⟨h1, h2, h3⟩ := h
  unfold maxLen at *
  exact ⟨by omega, by omega, fun k hk => by have := h3 k hk; omega⟩
theorem progLens_in {p : LProg} (h : p.1.length ≤ maxLen ∧ p.2.length ≤ maxLen ∧ ∀ k (h : k < p.2.length), ruleFitsIn p.2[k]) : progLens p := by
  obtain ⟨h1, h2, h3⟩ := h
  refine ⟨?_, ?_, fun k hk => ruleLens_in (h3 k hk)⟩ <;> (unfold maxLen at *; omega)

end Go.Proofs.YtniedmhkajnfjaaGreat
/-
  Programs that a call has made, and their sizes and marks, in the one form that the laws' walks ask.
-/
namespace Go.Proofs.YtniedmhkajnfjaaGreat
open Go.RowKit

/-- A program whose two rows stand in blocks from lo on and below hi. -/
def OwnProg (w : World) (lo hi : Nat) (v : Value) (p : LProg) : Prop := ∃ a b, v = .agg #[a, b] ∧ OwnInts w lo hi a p.1 ∧ OwnRules w lo hi b p.2
theorem RdProg.more {w : World} {B B' : Nat} {v : Value} {p : LProg} (h : RdProg w B v p) (hB : B ≤ B') : RdProg w B' v p := by
  obtain ⟨a, b, rfl, h1, h2⟩ := h
  exact ⟨a, b, rfl, h1.more hB, h2.more hB⟩
theorem OwnProg.below {w w' : World} {lo hi B : Nat} {v : Value} {p : LProg} (h : OwnProg w lo hi v p) (hb : Below B w w') (hB : hi ≤ B) : OwnProg w' lo hi v p := by
  obtain ⟨a, b, rfl, h1, h2⟩ := h
  exact ⟨a, b, rfl, h1.below hb hB, h2.below hb hB⟩
theorem OwnProg.only {w w' : World} {lo hi lo' hi' : Nat} {v : Value} {p : LProg} (h : OwnProg w lo hi v p) (ho : Only lo' hi' w w') (hd : hi ≤ lo' ∨ hi' ≤ lo) (hh : hi ≤ w.heap.size) : OwnProg w' lo hi v p := by
  obtain ⟨a, b, rfl, h1, h2⟩ := h
  exact ⟨a, b, rfl, h1.only ho hd, h2.keep fun g h3 h4 => ho.block g (by omega) (by omega)⟩
theorem OwnProg.rd {w : World} {lo hi : Nat} {v : Value} {p : LProg} (h : OwnProg w lo hi v p) : RdProg w hi v p := by
  obtain ⟨a, b, rfl, h1, h2⟩ := h
  exact ⟨a, b, rfl, h1.rd, h2.rd⟩

theorem toProgram_own (v : Value) (p : LProg) (w : World) (h : RdProg w w.heap.size v p) (hn : szP p ≤ 1048576) :
    Calls Tryz.prog 9 #[v] w fun e w' => ∃ A c A2 c2, e = .returned (.agg #[.slice A p.1.length c, .slice A2 p.2.length c2]) ∧ OwnProg w' w.heap.size w'.heap.size (.agg #[.slice A p.1.length c, .slice A2 p.2.length c2]) p ∧ Below w.heap.size w w' :=
  (toProgram_any v p w h hn).mono fun _ _ ⟨A, c, A2, c2, he, h1, h2, hb⟩ => ⟨A, c, A2, c2, he, ⟨_, _, rfl, h1, h2⟩, hb⟩

theorem us_prog {v : Value} {p : LProg} {left : Int} {w : World} (h : RdProg w w.heap.size v p) (h0 : 0 ≤ left) (hl : left ≤ 1048576) (hn : progLens p) :
    Calls Tryz.prog 5 #[v, .int .i64 left] w fun e w' => ∃ z, e = .returned (.int .i64 z) ∧ (z = -1 ∨ (0 ≤ z ∧ z + szP p = left)) ∧ Below w.heap.size w w' :=
  szProgram_any v p left w h h0 hl hn

end Go.Proofs.YtniedmhkajnfjaaGreat
/-
  Marks on integers, in the one form that the laws' walks ask.
-/
namespace Go.Proofs.YtniedmhkajnfjaaGreat
open Go.RowKit

/-- The marks from k on stand in a row of integers, and end at z. -/
def HdInts (w : World) (lo hi : Nat) (v : Value) (xs : List Int) (k z : Int) : Prop := OwnInts w lo hi v (seqI k xs.length) ∧ z = k + xs.length ∧ 0 ≤ k ∧ k ≤ 4294967296 ∧ xs.length ≤ 1073741824
theorem HdInts.below {w w' : World} {lo hi B : Nat} {v : Value} {xs : List Int} {k z : Int} (h : HdInts w lo hi v xs k z) (hb : Below B w w') (hB : hi ≤ B) : HdInts w' lo hi v xs k z := ⟨h.1.below hb hB, h.2⟩
theorem HdInts.only {w w' : World} {lo hi lo' hi' : Nat} {v : Value} {xs : List Int} {k z : Int} (h : HdInts w lo hi v xs k z) (ho : Only lo' hi' w w') (hd : hi ≤ lo' ∨ hi' ≤ lo) : HdInts w' lo hi v xs k z := ⟨h.1.only ho hd, h.2⟩

theorem um_ints {v : Value} {xs : List Int} {lo hi : Nat} {w : World} (k : Int) (h : OwnInts w lo hi v xs) (hk0 : 0 ≤ k) (hk : k ≤ 4294967296) (hs : xs.length ≤ 1073741824) :
    Calls Tryz.prog 50 #[v, .int .i64 k] w fun e w' => ∃ z, e = .returned (.int .i64 z) ∧ k ≤ z ∧ z ≤ k + xs.length ∧ HdInts w' lo hi v xs k z ∧ Only lo hi w w' :=
  (markIntS_any v xs k lo hi w h hk0 (by omega)).mono fun _ _ ⟨he, ho, hg⟩ =>
    ⟨_, he, by omega, Int.le_refl _, ⟨ho, rfl, hk0, hk, hs⟩, Only.of_grown hg (fun g hg' => by have := h.lt hg'; omega)⟩

theorem uh_ints {v : Value} {xs : List Int} {lo hi : Nat} {w : World} {k z : Int} (h : HdInts w lo hi v xs k z) (hh : hi ≤ w.heap.size) :
    Calls Tryz.prog 51 #[v, .int .i64 k] w fun e w' => e = .returned (.int .i64 z) ∧ Below w.heap.size w w' :=
  (heldIntS_any v xs.length k w (h.1.rd.more hh) h.2.2.1 (by have := h.2.2.2.1; have := h.2.2.2.2; omega)).mono fun _ _ ⟨he, hw⟩ => ⟨by rw [he, h.2.1], hw ▸ Below.refl _ _⟩

end Go.Proofs.YtniedmhkajnfjaaGreat
/-
  Marks and sizes of a fact, in the one form that the laws' walks ask.
-/
namespace Go.Proofs.YtniedmhkajnfjaaGreat
open Go.RowKit

theorem us_fact {v : Value} {f : LFact} {left : Int} {w : World} (h : RdFact w w.heap.size v f) (h0 : 0 ≤ left) (hl : left ≤ 1048576) (hn : f.2.length ≤ maxLen) :
    Calls Tryz.prog 7 #[v, .int .i64 left] w fun e w' => ∃ z, e = .returned (.int .i64 z) ∧ (z = -1 ∨ (0 ≤ z ∧ z + f.2.length = left)) ∧ Below w.heap.size w w' :=
  (szFact_any v f left w h h0 hl (by unfold maxLen at hn; omega)).mono fun _ _ ⟨he, hb⟩ => ⟨_, he, (szV_cases left f.2.length).imp And.left id, hb⟩

end Go.Proofs.YtniedmhkajnfjaaGreat
/-
  What comes in, opened into the words of the Base text.
-/
namespace Go.Proofs.YtniedmhkajnfjaaGreat
open Go.ChangeShapes Go.WideShapes Go.ChangeAt Go.RowKit Go.Joins Go.Deep

section
variable {H : Type} {enc : TypeId × Value → H} {W : World}

def InFact (W : World) (v : Value) (f : LFact) : Prop := RdFact W W.heap.size v f ∧ f.2.length ≤ maxLen
def InFacts (W : World) (v : Value) (fs : List LFact) : Prop := RdFacts W W.heap.size v fs ∧ fs.length ≤ maxLen ∧ ∀ k (h : k < fs.length), fs[k].2.length ≤ maxLen

theorem Tryz.cells28 : Tryz.prog.cellsOf 28 = 2 := by kernel_rfl
set_option maxRecDepth 100000 in
theorem open_inFact {v : Value} {d : DataW H} {p : List MemPlace} {b0 : Nat} (hv : Value.okWide Tryz.prog W .any b0 28 v) (h : DataW.Trod enc Tryz.prog W 0 (fun _ => true) true 28 v d p) :
    ∃ f, InFact W v f := by
  obtain ⟨v0, v1, y0, y1, n, rfl, _, _, h0, h1⟩ := open_agg2 Tryz.underlying28 (by kernel_rfl) Tryz.cells28 hv h
  obtain ⟨m, e0, _, _⟩ := DataW.trod_int Tryz.underlying3 h0
  simp at e0
  subst e0
  obtain ⟨xs, hx⟩ := open_inInts_cells h1
  exact ⟨(m, xs), ⟨v1, rfl, hx.1⟩, hx.2⟩

set_option maxRecDepth 100000 in
theorem open_inFacts {v : Value} {d : DataW H} {p : List MemPlace} {b0 : Nat} (hv : Value.okWide Tryz.prog W .any b0 26 v) (h : DataW.Trod enc Tryz.prog W 0 (fun _ => true) true 26 v d p) :
    ∃ fs, InFacts W v fs := by
  obtain ⟨a, len, cap, rfl⟩ := okWide_slice Tryz.underlying26 hv
  obtain ⟨fuel, hf⟩ := h
  rcases open_slice_pairs Tryz.underlying26 Tryz.underlying28 Tryz.cells28 rfl rfl Tryz.cells3 Tryz.cells22 hf with ⟨hcs, _⟩ | ⟨a', len', cap', m, n, V0, V1, D0, D1, P0, P1, hcs, _, hl, hm, hmm, _, hx⟩
  · simp [Value.cells] at hcs
    obtain ⟨rfl, rfl, rfl⟩ := hcs
    exact ⟨[], ⟨none, 0, rfl, by simp, fun h => absurd h (by simp)⟩, by simp, fun k h => absurd h (by simp)⟩
  · simp [Value.cells] at hcs
    obtain ⟨rfl, rfl, rfl⟩ := hcs
    simp at hmm
    subst hmm
    obtain ⟨F, hF⟩ := choose_lt (α := LFact) (n := len) (p := fun i f => V0 i = .int .i64 f.1 ∧ InInts W (V1 i) f.2) (fun i hi => by
      obtain ⟨_, _, h0, h1⟩ := hx i (by omega)
      obtain ⟨q, e0, _, _⟩ := DataW.trod_int Tryz.underlying3 h0
      obtain ⟨xs, hxs⟩ := open_inInts_cells h1
      simp at e0
      exact ⟨(q, xs), e0, hxs⟩)
    refine ⟨(List.range len).map F, ⟨some a', m, by simp, by simpa using hl, fun hn => ?_⟩, by simp; omega, fun k hk => ?_⟩
    · simp at hn
      obtain ⟨b, off, spot⟩ := a'
      have hspot : spot = none := by simpa [Addr.add] using World.cell?_spot (hx 0 (by omega)).1
      subst hspot
      have hb : b < W.heap.size := by simpa [Addr.add] using World.block_lt_of_cell? _ _ (hx 0 (by omega)).1
      refine ⟨b, off, rfl, hb, fun k hk => ?_⟩
      simp at hk
      obtain ⟨c0, c1, _, _⟩ := hx k (by omega)
      obtain ⟨e0, e1⟩ := hF k hk
      rw [Go.WideShapes.add_plain, e0] at c0
      rw [Go.WideShapes.add_plain] at c1
      exact ⟨V1 k, by simpa using c0, by simpa [Nat.add_assoc] using c1, by simpa using e1.1⟩
    · simp at hk ⊢
      exact (hF k hk).2.2
end

end Go.Proofs.YtniedmhkajnfjaaGreat
/-
  The walk of the law on RoundOf (written by wip/genlaw.py).
-/
namespace Go.Proofs.YtniedmhkajnfjaaGreat
open Go.RowKit

set_option maxHeartbeats 4000000 in
set_option maxRecDepth 100000 in
theorem lawRoundOf_any (v0 : Value) (v1 : Value) (v2 : Value) (p : LProg) (fs : List LFact) (f : LFact) (w : World) (h0 : RdProg w w.heap.size v0 p) (h1 : RdFacts w w.heap.size v1 fs) (h2 : RdFact w w.heap.size v2 f) (n0 : progLens p) (n1 : fs.length ≤ maxLen) (m1 : ∀ k (h : k < fs.length), fs[k].2.length ≤ maxLen) (n2 : f.2.length ≤ maxLen) :
    Calls Tryz.prog 3 #[v0, v1, v2] w fun e w' => e = .returned (.bool true) ∧ Below w.heap.size w w' := by
  have H0 := Lib.hid h0
  obtain ⟨_, _, rfl, ⟨A0, c0, rfl, hc0, _⟩, ⟨A0b, c0b, rfl, hc0b, _⟩⟩ := h0
  have H1 := Lib.hid h1
  obtain ⟨A1, c1, rfl, hc1, _⟩ := h1
  have H2 := Lib.hid h2
  obtain ⟨a2, rfl, A2, c2, rfl, hc2, _⟩ := h2
  go_enter Tryz.func3, Tryz.ntmps3
  go_wp2_with (fail)
  obtain ⟨w1, hw_w1⟩ : ∃ W', W' = (w.alloc (Obj.cells #[Value.slice A0 p.1.length c0, Value.slice A0b p.2.length c0b] 25)).alloc (Obj.cells #[Value.int IntKind.i64 f.1, Value.slice A2 f.2.length c2] 28) := ⟨_, rfl⟩
  rw [← hw_w1]
  have B_w1 : Below w.heap.size w w1 := by rw [hw_w1]; exact below2 _ _ _
  have bx0 : Blk w1 (w.heap.size + 0) 25 #[.slice A0 p.1.length c0, .slice A0b p.2.length c0b] := by
    rw [hw_w1]
    have := (Blk.new w 25 #[.slice A0 p.1.length c0, .slice A0b p.2.length c0b]).alloc (Obj.cells #[.int .i64 f.1, .slice A2 f.2.length c2] 28)
    simpa using this
  have bx0_l := bx0.lt
  rw [Nat.add_zero] at bx0 bx0_l
  have bx2 : Blk w1 (w.heap.size + 1) 28 #[.int .i64 f.1, .slice A2 f.2.length c2] := by
    rw [hw_w1]
    have := (Blk.new (w.alloc (Obj.cells #[.slice A0 p.1.length c0, .slice A0b p.2.length c0b] 25)) 28 #[.int .i64 f.1, .slice A2 f.2.length c2])
    simpa using this
  have bx2_l := bx2.lt
  have s_w1 := B_w1.size
  clear hw_w1
  refine (us_prog (H0.out.on B_w1) (by omega) (by omega) n0).mono ?_
  rintro e w2 ⟨z0, rfl, hz0, hbz0⟩
  have s_w2 := hbz0.size
  have bx0_1 := bx0.below hbz0 (by first | exact bx0.lt | omega)
  clear bx0
  have bx0_1_l := bx0_1.lt
  have bx2_1 := bx2.below hbz0 (by first | exact bx2.lt | omega)
  clear bx2
  have bx2_1_l := bx2_1.lt
  have B_w2 := bthen B_w1 hbz0
  rcases hz0 with rfl | ⟨zp0, zs0⟩
  · go_wp2_with (fail)
    go_ret
    exact ⟨rfl, B_w2⟩
  have zn0 : ¬ z0 < 0 := by omega
  have r0 : szP p ≤ 1048576 := by omega
  have zl0 : z0 ≤ 1048576 := by omega
  have ZS0 := Lib.hid zs0
  clear zs0
  have q1 : w2.cell? ⟨w.heap.size, 0, none⟩ = some (.slice A0 p.1.length c0) := bx0_1.cell 0
  have q2 : w2.cell? ⟨w.heap.size, 1, none⟩ = some (.slice A0b p.2.length c0b) := bx0_1.cell 1
  have q3 : w2.cell? ⟨w.heap.size + 1, 0, none⟩ = some (.int .i64 f.1) := bx2_1.cell 0
  have q4 : w2.cell? ⟨w.heap.size + 1, 1, none⟩ = some (.slice A2 f.2.length c2) := bx2_1.cell 1
  go_wp2_with (fail)
  clear q1 q2 q3 q4
  refine (us_facts (H1.out.on B_w2) (by omega) (by omega) n1 m1).mono ?_
  rintro e w3 ⟨z1, rfl, hz1, hbz1⟩
  have s_w3 := hbz1.size
  have bx0_2 := bx0_1.below hbz1 (by first | exact bx0_1.lt | omega)
  clear bx0_1
  have bx0_2_l := bx0_2.lt
  have bx2_2 := bx2_1.below hbz1 (by first | exact bx2_1.lt | omega)
  clear bx2_1
  have bx2_2_l := bx2_2.lt
  have B_w3 := bthen B_w2 hbz1
  rcases hz1 with rfl | ⟨zp1, zs1⟩
  · go_wp2_with (fail)
    go_ret
    exact ⟨rfl, B_w3⟩
  have zn1 : ¬ z1 < 0 := by omega
  have r1 : szF fs ≤ 1048576 := by omega
  have zl1 : z1 ≤ 1048576 := by omega
  have ZS1 := Lib.hid zs1
  clear zs1
  have q5 : w3.cell? ⟨w.heap.size, 0, none⟩ = some (.slice A0 p.1.length c0) := bx0_2.cell 0
  have q6 : w3.cell? ⟨w.heap.size, 1, none⟩ = some (.slice A0b p.2.length c0b) := bx0_2.cell 1
  have q7 : w3.cell? ⟨w.heap.size + 1, 0, none⟩ = some (.int .i64 f.1) := bx2_2.cell 0
  have q8 : w3.cell? ⟨w.heap.size + 1, 1, none⟩ = some (.slice A2 f.2.length c2) := bx2_2.cell 1
  go_wp2_with (fail)
  clear q5 q6 q7 q8
  refine (us_fact (H2.out.on B_w3) (by omega) (by omega) n2).mono ?_
  rintro e w4 ⟨z2, rfl, hz2, hbz2⟩
  have s_w4 := hbz2.size
  have bx0_3 := bx0_2.below hbz2 (by first | exact bx0_2.lt | omega)
  clear bx0_2
  have bx0_3_l := bx0_3.lt
  have bx2_3 := bx2_2.below hbz2 (by first | exact bx2_2.lt | omega)
  clear bx2_2
  have bx2_3_l := bx2_3.lt
  have B_w4 := bthen B_w3 hbz2
  rcases hz2 with rfl | ⟨zp2, zs2⟩
  · go_wp2_with (fail)
    go_ret
    exact ⟨rfl, B_w4⟩
  have zn2 : ¬ z2 < 0 := by omega
  have r2 : f.2.length ≤ 1048576 := by omega
  have zl2 : z2 ≤ 1048576 := by omega
  have ZS2 := Lib.hid zs2
  clear zs2 zn2
  have zn2 : ¬ z2 < 0 := by omega
  obtain ⟨R0, hR0⟩ : ∃ R, R = roundOfL p fs f := ⟨_, rfl⟩
  have HR0 := Lib.hid hR0
  clear hR0
  have gb0 : (R0 != R0) = false := by simp
  have q9 : w4.cell? ⟨w.heap.size, 0, none⟩ = some (.slice A0 p.1.length c0) := bx0_3.cell 0
  have q10 : w4.cell? ⟨w.heap.size, 1, none⟩ = some (.slice A0b p.2.length c0b) := bx0_3.cell 1
  have q11 : w4.cell? ⟨w.heap.size + 1, 0, none⟩ = some (.int .i64 f.1) := bx2_3.cell 0
  have q12 : w4.cell? ⟨w.heap.size + 1, 1, none⟩ = some (.slice A2 f.2.length c2) := bx2_3.cell 1
  go_upto_region 11 with fail
  clear q9 q10 q11 q12
  have HS_w4 := Lib.hid (show ∀ W, Below w4.heap.size w4 W → (Below w4.heap.size w4 W ∧ W.cell? ⟨w.heap.size, 0, none⟩ = some (.slice A0 p.1.length c0) ∧ W.cell? ⟨w.heap.size, 1, none⟩ = some (.slice A0b p.2.length c0b) ∧ W.cell? ⟨w.heap.size + 1, 0, none⟩ = some (.int .i64 f.1) ∧ W.cell? ⟨w.heap.size + 1, 1, none⟩ = some (.slice A2 f.2.length c2)) from fun W hW => ⟨hW, (bx0_3.below hW bx0_3_l).cell 0, (bx0_3.below hW bx0_3_l).cell 1, (bx2_3.below hW bx2_3_l).cell 0, (bx2_3.below hW bx2_3_l).cell 1⟩)
  go_cut [8] (fun s0 wx => s0 = .int .i64 R0 ∧ Below w4.heap.size w4 wx)
  case first =>
    go_region_held3 (fun W => Below w4.heap.size w4 W ∧ W.cell? ⟨w.heap.size, 0, none⟩ = some (.slice A0 p.1.length c0) ∧ W.cell? ⟨w.heap.size, 1, none⟩ = some (.slice A0b p.2.length c0b) ∧ W.cell? ⟨w.heap.size + 1, 0, none⟩ = some (.int .i64 f.1) ∧ W.cell? ⟨w.heap.size + 1, 1, none⟩ = some (.slice A2 f.2.length c2))
      (first | exact HS_w4.out _ (Below.refl _ _) | exact HS_w4.out _ (Below.refl _ _).drew | exact HS_w4.out _ (bthen (And.left (by assumption)) (by assumption)))
      (first
        | (go_at_call 9; refine (toProgram_own _ p _ ?_ (by omega)).mono ?_; exact H0.out.on (bthen B_w4 (And.left (by assumption))); rintro e w_0 ⟨P0, d0, P0b, d0b, rfl, o0, g0⟩)
        | (go_at_call 10; refine (toFactS_any _ fs _ ?_ (by unfold szF at *; omega) (by unfold szF at *; omega)).mono ?_; exact H1.out.on (bthen B_w4 (And.left (by assumption))); rintro e w_1 ⟨P1, d1, rfl, o1, g1⟩)
        | (go_at_call 11; refine (toFact_any _ f _ ?_ (by omega)).mono ?_; exact H2.out.on (bthen B_w4 (And.left (by assumption))); rintro e w_2 ⟨P2, d2, rfl, o2, g2⟩)
        | (go_at_call 8; refine (specRoundOf_any _ _ _ p fs f _ (((o0.rd.on g1).on g2)) ((o1.rd.on g2)) ⟨_, rfl, o2.rd⟩ (by omega) (by unfold szF at r1; omega) (by unfold szF at r1; omega) (by omega)).mono ?_; try rw [← HR0.out]; rintro e w_r ⟨rfl, hb_r⟩))
    all_goals (go_wp2_with fail; go_meet; exact ⟨rfl, And.left (by assumption)⟩)
  case rest =>
    obtain ⟨rfl, hb1⟩ := hcut
    clear HS_w4
    generalize wc = w5 at *
    have s_w5 := hb1.size
    have bx0_4 := bx0_3.below hb1 (by first | exact bx0_3.lt | omega)
    clear bx0_3
    have bx0_4_l := bx0_4.lt
    have bx2_4 := bx2_3.below hb1 (by first | exact bx2_3.lt | omega)
    clear bx2_3
    have bx2_4_l := bx2_4.lt
    have B_w5 := bthen B_w4 hb1
    have q13 : w5.cell? ⟨w.heap.size, 0, none⟩ = some (.slice A0 p.1.length c0) := bx0_4.cell 0
    have q14 : w5.cell? ⟨w.heap.size, 1, none⟩ = some (.slice A0b p.2.length c0b) := bx0_4.cell 1
    have q15 : w5.cell? ⟨w.heap.size + 1, 0, none⟩ = some (.int .i64 f.1) := bx2_4.cell 0
    have q16 : w5.cell? ⟨w.heap.size + 1, 1, none⟩ = some (.slice A2 f.2.length c2) := bx2_4.cell 1
    go_wp2_with (fail)
    clear q13 q14 q15 q16
    refine (toProgram_own _ p _ (H0.out.on B_w5) (by omega)).mono ?_
    rintro e w6 ⟨P2, d2, P2b, d2b, rfl, o2, hb2⟩
    have s_w6 := hb2.size
    have bx0_5 := bx0_4.below hb2 (by first | exact bx0_4.lt | omega)
    clear bx0_4
    have bx0_5_l := bx0_5.lt
    have bx2_5 := bx2_4.below hb2 (by first | exact bx2_4.lt | omega)
    clear bx2_4
    have bx2_5_l := bx2_5.lt
    have B_w6 := bthen B_w5 hb2
    have q17 : w6.cell? ⟨w.heap.size, 0, none⟩ = some (.slice A0 p.1.length c0) := bx0_5.cell 0
    have q18 : w6.cell? ⟨w.heap.size, 1, none⟩ = some (.slice A0b p.2.length c0b) := bx0_5.cell 1
    have q19 : w6.cell? ⟨w.heap.size + 1, 0, none⟩ = some (.int .i64 f.1) := bx2_5.cell 0
    have q20 : w6.cell? ⟨w.heap.size + 1, 1, none⟩ = some (.slice A2 f.2.length c2) := bx2_5.cell 1
    go_wp2_with (fail)
    clear q17 q18 q19 q20
    obtain ⟨w7, hw_w7⟩ : ∃ W', W' = w6.alloc (Obj.cells #[Value.slice P2 p.1.length d2, Value.slice P2b p.2.length d2b] 35) := ⟨_, rfl⟩
    rw [← hw_w7]
    have hb_w7 : Below w6.heap.size w6 w7 := by rw [hw_w7]; exact below1 _ _
    have bxx0_n : Blk w7 w6.heap.size 35 #[.slice P2 p.1.length d2, .slice P2b p.2.length d2b] := by rw [hw_w7]; exact Blk.new _ _ _
    have bxx0_nl := bxx0_n.lt
    clear hw_w7
    have s_w7 := hb_w7.size
    have bx0_6 := bx0_5.below hb_w7 (by first | exact bx0_5.lt | omega)
    clear bx0_5
    have bx0_6_l := bx0_6.lt
    have bx2_6 := bx2_5.below hb_w7 (by first | exact bx2_5.lt | omega)
    clear bx2_5
    have bx2_6_l := bx2_6.lt
    have x0_6 := o2.below hb_w7 (by omega)
    clear o2
    have B_w7 := bthen B_w6 hb_w7
    refine (toFactS_any _ fs _ (H1.out.on B_w7) (by unfold szF at *; omega) (by unfold szF at *; omega)).mono ?_
    rintro e w8 ⟨P3, d3, rfl, o3, hb3⟩
    have s_w8 := hb3.size
    have bx0_7 := bx0_6.below hb3 (by first | exact bx0_6.lt | omega)
    clear bx0_6
    have bx0_7_l := bx0_7.lt
    have bx2_7 := bx2_6.below hb3 (by first | exact bx2_6.lt | omega)
    clear bx2_6
    have bx2_7_l := bx2_7.lt
    have x0_7 := x0_6.below hb3 (by omega)
    clear x0_6
    have bxx0_7 := bxx0_n.below hb3 (by first | exact bxx0_n.lt | omega)
    clear bxx0_n
    have bxx0_7_l := bxx0_7.lt
    have B_w8 := bthen B_w7 hb3
    have q21 : w8.cell? ⟨w.heap.size, 0, none⟩ = some (.slice A0 p.1.length c0) := bx0_7.cell 0
    have q22 : w8.cell? ⟨w.heap.size, 1, none⟩ = some (.slice A0b p.2.length c0b) := bx0_7.cell 1
    have q23 : w8.cell? ⟨w.heap.size + 1, 0, none⟩ = some (.int .i64 f.1) := bx2_7.cell 0
    have q24 : w8.cell? ⟨w.heap.size + 1, 1, none⟩ = some (.slice A2 f.2.length c2) := bx2_7.cell 1
    have q25 : w8.cell? ⟨w6.heap.size, 0, none⟩ = some (.slice P2 p.1.length d2) := bxx0_7.cell 0
    have q26 : w8.cell? ⟨w6.heap.size, 1, none⟩ = some (.slice P2b p.2.length d2b) := bxx0_7.cell 1
    go_wp2_with (fail)
    clear q21 q22 q23 q24 q25 q26
    refine (toFact_any _ f _ (H2.out.on B_w8) (by omega)).mono ?_
    rintro e w9 ⟨P4, d4, rfl, o4, hb4⟩
    have s_w9 := hb4.size
    have bx0_8 := bx0_7.below hb4 (by first | exact bx0_7.lt | omega)
    clear bx0_7
    have bx0_8_l := bx0_8.lt
    have bx2_8 := bx2_7.below hb4 (by first | exact bx2_7.lt | omega)
    clear bx2_7
    have bx2_8_l := bx2_8.lt
    have x0_8 := x0_7.below hb4 (by omega)
    clear x0_7
    have bxx0_8 := bxx0_7.below hb4 (by first | exact bxx0_7.lt | omega)
    clear bxx0_7
    have bxx0_8_l := bxx0_8.lt
    have x1_8 := o3.below hb4 (by omega)
    clear o3
    have B_w9 := bthen B_w8 hb4
    have q27 : w9.cell? ⟨w.heap.size, 0, none⟩ = some (.slice A0 p.1.length c0) := bx0_8.cell 0
    have q28 : w9.cell? ⟨w.heap.size, 1, none⟩ = some (.slice A0b p.2.length c0b) := bx0_8.cell 1
    have q29 : w9.cell? ⟨w.heap.size + 1, 0, none⟩ = some (.int .i64 f.1) := bx2_8.cell 0
    have q30 : w9.cell? ⟨w.heap.size + 1, 1, none⟩ = some (.slice A2 f.2.length c2) := bx2_8.cell 1
    have q31 : w9.cell? ⟨w6.heap.size, 0, none⟩ = some (.slice P2 p.1.length d2) := bxx0_8.cell 0
    have q32 : w9.cell? ⟨w6.heap.size, 1, none⟩ = some (.slice P2b p.2.length d2b) := bxx0_8.cell 1
    go_wp2_with (fail)
    clear q27 q28 q29 q30 q31 q32
    obtain ⟨w10, hw_w10⟩ : ∃ W', W' = w9.alloc (Obj.cells #[Value.int IntKind.i64 f.1, Value.slice P4 f.2.length d4] 39) := ⟨_, rfl⟩
    rw [← hw_w10]
    have hb_w10 : Below w9.heap.size w9 w10 := by rw [hw_w10]; exact below1 _ _
    have bxx2_n : Blk w10 w9.heap.size 39 #[.int .i64 f.1, .slice P4 f.2.length d4] := by rw [hw_w10]; exact Blk.new _ _ _
    have bxx2_nl := bxx2_n.lt
    clear hw_w10
    have s_w10 := hb_w10.size
    have bx0_9 := bx0_8.below hb_w10 (by first | exact bx0_8.lt | omega)
    clear bx0_8
    have bx0_9_l := bx0_9.lt
    have bx2_9 := bx2_8.below hb_w10 (by first | exact bx2_8.lt | omega)
    clear bx2_8
    have bx2_9_l := bx2_9.lt
    have x0_9 := x0_8.below hb_w10 (by omega)
    clear x0_8
    have bxx0_9 := bxx0_8.below hb_w10 (by first | exact bxx0_8.lt | omega)
    clear bxx0_8
    have bxx0_9_l := bxx0_9.lt
    have x1_9 := x1_8.below hb_w10 (by omega)
    clear x1_8
    have x2_9 := o4.below hb_w10 (by omega)
    clear o4
    have B_w10 := bthen B_w9 hb_w10
    refine (implRoundOf_any _ _ _ p fs f _ (x0_9.rd.more (by omega)) (x1_9.rd.more (by omega)) ⟨_, rfl, x2_9.rd.more (by omega)⟩ (by omega) (by unfold szF at r1; omega) (by unfold szF at r1; omega) (by omega)).mono ?_
    try rw [← HR0.out]
    rintro e w11 ⟨rfl, hb5⟩
    have s_w11 := hb5.size
    have bx0_10 := bx0_9.below hb5 (by first | exact bx0_9.lt | omega)
    clear bx0_9
    have bx0_10_l := bx0_10.lt
    have bx2_10 := bx2_9.below hb5 (by first | exact bx2_9.lt | omega)
    clear bx2_9
    have bx2_10_l := bx2_10.lt
    have x0_10 := x0_9.below hb5 (by omega)
    clear x0_9
    have bxx0_10 := bxx0_9.below hb5 (by first | exact bxx0_9.lt | omega)
    clear bxx0_9
    have bxx0_10_l := bxx0_10.lt
    have x1_10 := x1_9.below hb5 (by omega)
    clear x1_9
    have x2_10 := x2_9.below hb5 (by omega)
    clear x2_9
    have bxx2_10 := bxx2_n.below hb5 (by first | exact bxx2_n.lt | omega)
    clear bxx2_n
    have bxx2_10_l := bxx2_10.lt
    have B_w11 := bthen B_w10 hb5
    have q33 : w11.cell? ⟨w.heap.size, 0, none⟩ = some (.slice A0 p.1.length c0) := bx0_10.cell 0
    have q34 : w11.cell? ⟨w.heap.size, 1, none⟩ = some (.slice A0b p.2.length c0b) := bx0_10.cell 1
    have q35 : w11.cell? ⟨w.heap.size + 1, 0, none⟩ = some (.int .i64 f.1) := bx2_10.cell 0
    have q36 : w11.cell? ⟨w.heap.size + 1, 1, none⟩ = some (.slice A2 f.2.length c2) := bx2_10.cell 1
    have q37 : w11.cell? ⟨w6.heap.size, 0, none⟩ = some (.slice P2 p.1.length d2) := bxx0_10.cell 0
    have q38 : w11.cell? ⟨w6.heap.size, 1, none⟩ = some (.slice P2b p.2.length d2b) := bxx0_10.cell 1
    have q39 : w11.cell? ⟨w9.heap.size, 0, none⟩ = some (.int .i64 f.1) := bxx2_10.cell 0
    have q40 : w11.cell? ⟨w9.heap.size, 1, none⟩ = some (.slice P4 f.2.length d4) := bxx2_10.cell 1
    go_upto_region 18 with fail
    clear q33 q34 q35 q36 q37 q38 q39 q40
    have HS_w11 := Lib.hid (show ∀ W, Below w11.heap.size w11 W → (Below w11.heap.size w11 W ∧ W.cell? ⟨w.heap.size, 0, none⟩ = some (.slice A0 p.1.length c0) ∧ W.cell? ⟨w.heap.size, 1, none⟩ = some (.slice A0b p.2.length c0b) ∧ W.cell? ⟨w.heap.size + 1, 0, none⟩ = some (.int .i64 f.1) ∧ W.cell? ⟨w.heap.size + 1, 1, none⟩ = some (.slice A2 f.2.length c2) ∧ W.cell? ⟨w6.heap.size, 0, none⟩ = some (.slice P2 p.1.length d2) ∧ W.cell? ⟨w6.heap.size, 1, none⟩ = some (.slice P2b p.2.length d2b) ∧ W.cell? ⟨w9.heap.size, 0, none⟩ = some (.int .i64 f.1) ∧ W.cell? ⟨w9.heap.size, 1, none⟩ = some (.slice P4 f.2.length d4)) from fun W hW => ⟨hW, (bx0_10.below hW bx0_10_l).cell 0, (bx0_10.below hW bx0_10_l).cell 1, (bx2_10.below hW bx2_10_l).cell 0, (bx2_10.below hW bx2_10_l).cell 1, (bxx0_10.below hW bxx0_10_l).cell 0, (bxx0_10.below hW bxx0_10_l).cell 1, (bxx2_10.below hW bxx2_10_l).cell 0, (bxx2_10.below hW bxx2_10_l).cell 1⟩)
    have RX_w11 := Lib.hid (show RdProg w11 w11.heap.size (.agg #[.slice P2 p.1.length d2, .slice P2b p.2.length d2b]) p from x0_10.rd.more (by omega))
    go_cut [52] (fun s wx => s = .bool false ∧ Below w11.heap.size w11 wx)
    case first =>
      go_region_held3 (fun W => Below w11.heap.size w11 W ∧ W.cell? ⟨w.heap.size, 0, none⟩ = some (.slice A0 p.1.length c0) ∧ W.cell? ⟨w.heap.size, 1, none⟩ = some (.slice A0b p.2.length c0b) ∧ W.cell? ⟨w.heap.size + 1, 0, none⟩ = some (.int .i64 f.1) ∧ W.cell? ⟨w.heap.size + 1, 1, none⟩ = some (.slice A2 f.2.length c2) ∧ W.cell? ⟨w6.heap.size, 0, none⟩ = some (.slice P2 p.1.length d2) ∧ W.cell? ⟨w6.heap.size, 1, none⟩ = some (.slice P2b p.2.length d2b) ∧ W.cell? ⟨w9.heap.size, 0, none⟩ = some (.int .i64 f.1) ∧ W.cell? ⟨w9.heap.size, 1, none⟩ = some (.slice P4 f.2.length d4))
        (first | exact HS_w11.out _ (Below.refl _ _) | exact HS_w11.out _ (Below.refl _ _).drew | exact HS_w11.out _ (bthen (And.left (by assumption)) (by assumption)))
        (first
          | (go_at_call 9; refine (toProgram_own _ p _ ?_ (by omega)).mono ?_; exact H0.out.on (bthen B_w11 (And.left (by assumption))); rintro e wf ⟨Af, cf, Ag, cg, rfl, hof, hbf⟩)
          | (go_at_call 13; refine (eqProgram_any _ _ p p _ ?_ ?_ (by omega) (by omega)).mono ?_; exact (RX_w11.out.on (And.left (by assumption))); exact hof.rd; rw [show decide (p = p) = true by simp]; rintro e wg ⟨rfl, hbg⟩))
      all_goals (go_wp2_with fail; go_meet; exact ⟨rfl, And.left (by assumption)⟩)
    case rest =>
      obtain ⟨rfl, hb6⟩ := hcut
      clear HS_w11 RX_w11
      generalize wc = w12 at *
      have s_w12 := hb6.size
      have bx0_11 := bx0_10.below hb6 (by first | exact bx0_10.lt | omega)
      clear bx0_10
      have bx0_11_l := bx0_11.lt
      have bx2_11 := bx2_10.below hb6 (by first | exact bx2_10.lt | omega)
      clear bx2_10
      have bx2_11_l := bx2_11.lt
      have x0_11 := x0_10.below hb6 (by omega)
      clear x0_10
      have bxx0_11 := bxx0_10.below hb6 (by first | exact bxx0_10.lt | omega)
      clear bxx0_10
      have bxx0_11_l := bxx0_11.lt
      have x1_11 := x1_10.below hb6 (by omega)
      clear x1_10
      have x2_11 := x2_10.below hb6 (by omega)
      clear x2_10
      have bxx2_11 := bxx2_10.below hb6 (by first | exact bxx2_10.lt | omega)
      clear bxx2_10
      have bxx2_11_l := bxx2_11.lt
      have B_w12 := bthen B_w11 hb6
      have q41 : w12.cell? ⟨w.heap.size, 0, none⟩ = some (.slice A0 p.1.length c0) := bx0_11.cell 0
      have q42 : w12.cell? ⟨w.heap.size, 1, none⟩ = some (.slice A0b p.2.length c0b) := bx0_11.cell 1
      have q43 : w12.cell? ⟨w.heap.size + 1, 0, none⟩ = some (.int .i64 f.1) := bx2_11.cell 0
      have q44 : w12.cell? ⟨w.heap.size + 1, 1, none⟩ = some (.slice A2 f.2.length c2) := bx2_11.cell 1
      have q45 : w12.cell? ⟨w6.heap.size, 0, none⟩ = some (.slice P2 p.1.length d2) := bxx0_11.cell 0
      have q46 : w12.cell? ⟨w6.heap.size, 1, none⟩ = some (.slice P2b p.2.length d2b) := bxx0_11.cell 1
      have q47 : w12.cell? ⟨w9.heap.size, 0, none⟩ = some (.int .i64 f.1) := bxx2_11.cell 0
      have q48 : w12.cell? ⟨w9.heap.size, 1, none⟩ = some (.slice P4 f.2.length d4) := bxx2_11.cell 1
      go_wp2_with (fail)
      clear q41 q42 q43 q44 q45 q46 q47 q48
      refine (toFactS_any _ fs _ (H1.out.on B_w12) (by unfold szF at *; omega) (by unfold szF at *; omega)).mono ?_
      rintro e w13 ⟨P7, d7, rfl, o7, hb7⟩
      have s_w13 := hb7.size
      have bx0_12 := bx0_11.below hb7 (by first | exact bx0_11.lt | omega)
      clear bx0_11
      have bx0_12_l := bx0_12.lt
      have bx2_12 := bx2_11.below hb7 (by first | exact bx2_11.lt | omega)
      clear bx2_11
      have bx2_12_l := bx2_12.lt
      have x0_12 := x0_11.below hb7 (by omega)
      clear x0_11
      have bxx0_12 := bxx0_11.below hb7 (by first | exact bxx0_11.lt | omega)
      clear bxx0_11
      have bxx0_12_l := bxx0_12.lt
      have x1_12 := x1_11.below hb7 (by omega)
      clear x1_11
      have x2_12 := x2_11.below hb7 (by omega)
      clear x2_11
      have bxx2_12 := bxx2_11.below hb7 (by first | exact bxx2_11.lt | omega)
      clear bxx2_11
      have bxx2_12_l := bxx2_12.lt
      have B_w13 := bthen B_w12 hb7
      have q49 : w13.cell? ⟨w.heap.size, 0, none⟩ = some (.slice A0 p.1.length c0) := bx0_12.cell 0
      have q50 : w13.cell? ⟨w.heap.size, 1, none⟩ = some (.slice A0b p.2.length c0b) := bx0_12.cell 1
      have q51 : w13.cell? ⟨w.heap.size + 1, 0, none⟩ = some (.int .i64 f.1) := bx2_12.cell 0
      have q52 : w13.cell? ⟨w.heap.size + 1, 1, none⟩ = some (.slice A2 f.2.length c2) := bx2_12.cell 1
      have q53 : w13.cell? ⟨w6.heap.size, 0, none⟩ = some (.slice P2 p.1.length d2) := bxx0_12.cell 0
      have q54 : w13.cell? ⟨w6.heap.size, 1, none⟩ = some (.slice P2b p.2.length d2b) := bxx0_12.cell 1
      have q55 : w13.cell? ⟨w9.heap.size, 0, none⟩ = some (.int .i64 f.1) := bxx2_12.cell 0
      have q56 : w13.cell? ⟨w9.heap.size, 1, none⟩ = some (.slice P4 f.2.length d4) := bxx2_12.cell 1
      go_wp2_with (fail)
      clear q49 q50 q51 q52 q53 q54 q55 q56
      refine (eqFactS_any _ _ fs fs _ (x1_12.rd.more (by omega)) (o7.rd.more (by omega)) (by unfold szF at *; omega) (by unfold szF at *; omega) (by unfold szF at *; omega) (by unfold szF at *; omega)).mono ?_
      rintro e w14 ⟨rfl, hb8⟩
      rw [show decide (fs = fs) = true by simp]
      have s_w14 := hb8.size
      have bx0_13 := bx0_12.below hb8 (by first | exact bx0_12.lt | omega)
      clear bx0_12
      have bx0_13_l := bx0_13.lt
      have bx2_13 := bx2_12.below hb8 (by first | exact bx2_12.lt | omega)
      clear bx2_12
      have bx2_13_l := bx2_13.lt
      have x0_13 := x0_12.below hb8 (by omega)
      clear x0_12
      have bxx0_13 := bxx0_12.below hb8 (by first | exact bxx0_12.lt | omega)
      clear bxx0_12
      have bxx0_13_l := bxx0_13.lt
      have x1_13 := x1_12.below hb8 (by omega)
      clear x1_12
      have x2_13 := x2_12.below hb8 (by omega)
      clear x2_12
      have bxx2_13 := bxx2_12.below hb8 (by first | exact bxx2_12.lt | omega)
      clear bxx2_12
      have bxx2_13_l := bxx2_13.lt
      have B_w14 := bthen B_w13 hb8
      have q57 : w14.cell? ⟨w.heap.size, 0, none⟩ = some (.slice A0 p.1.length c0) := bx0_13.cell 0
      have q58 : w14.cell? ⟨w.heap.size, 1, none⟩ = some (.slice A0b p.2.length c0b) := bx0_13.cell 1
      have q59 : w14.cell? ⟨w.heap.size + 1, 0, none⟩ = some (.int .i64 f.1) := bx2_13.cell 0
      have q60 : w14.cell? ⟨w.heap.size + 1, 1, none⟩ = some (.slice A2 f.2.length c2) := bx2_13.cell 1
      have q61 : w14.cell? ⟨w6.heap.size, 0, none⟩ = some (.slice P2 p.1.length d2) := bxx0_13.cell 0
      have q62 : w14.cell? ⟨w6.heap.size, 1, none⟩ = some (.slice P2b p.2.length d2b) := bxx0_13.cell 1
      have q63 : w14.cell? ⟨w9.heap.size, 0, none⟩ = some (.int .i64 f.1) := bxx2_13.cell 0
      have q64 : w14.cell? ⟨w9.heap.size, 1, none⟩ = some (.slice P4 f.2.length d4) := bxx2_13.cell 1
      go_upto_region 22 with fail
      clear q57 q58 q59 q60 q61 q62 q63 q64
      have HS_w14 := Lib.hid (show ∀ W, Below w14.heap.size w14 W → (Below w14.heap.size w14 W ∧ W.cell? ⟨w.heap.size, 0, none⟩ = some (.slice A0 p.1.length c0) ∧ W.cell? ⟨w.heap.size, 1, none⟩ = some (.slice A0b p.2.length c0b) ∧ W.cell? ⟨w.heap.size + 1, 0, none⟩ = some (.int .i64 f.1) ∧ W.cell? ⟨w.heap.size + 1, 1, none⟩ = some (.slice A2 f.2.length c2) ∧ W.cell? ⟨w6.heap.size, 0, none⟩ = some (.slice P2 p.1.length d2) ∧ W.cell? ⟨w6.heap.size, 1, none⟩ = some (.slice P2b p.2.length d2b) ∧ W.cell? ⟨w9.heap.size, 0, none⟩ = some (.int .i64 f.1) ∧ W.cell? ⟨w9.heap.size, 1, none⟩ = some (.slice P4 f.2.length d4)) from fun W hW => ⟨hW, (bx0_13.below hW bx0_13_l).cell 0, (bx0_13.below hW bx0_13_l).cell 1, (bx2_13.below hW bx2_13_l).cell 0, (bx2_13.below hW bx2_13_l).cell 1, (bxx0_13.below hW bxx0_13_l).cell 0, (bxx0_13.below hW bxx0_13_l).cell 1, (bxx2_13.below hW bxx2_13_l).cell 0, (bxx2_13.below hW bxx2_13_l).cell 1⟩)
      have RX_w14 := Lib.hid (show RdFact w14 w14.heap.size (.agg #[.int .i64 f.1, .slice P4 f.2.length d4]) f from ⟨_, rfl, x2_13.rd.more (by omega)⟩)
      go_region_held3 (fun W => Below w14.heap.size w14 W ∧ W.cell? ⟨w.heap.size, 0, none⟩ = some (.slice A0 p.1.length c0) ∧ W.cell? ⟨w.heap.size, 1, none⟩ = some (.slice A0b p.2.length c0b) ∧ W.cell? ⟨w.heap.size + 1, 0, none⟩ = some (.int .i64 f.1) ∧ W.cell? ⟨w.heap.size + 1, 1, none⟩ = some (.slice A2 f.2.length c2) ∧ W.cell? ⟨w6.heap.size, 0, none⟩ = some (.slice P2 p.1.length d2) ∧ W.cell? ⟨w6.heap.size, 1, none⟩ = some (.slice P2b p.2.length d2b) ∧ W.cell? ⟨w9.heap.size, 0, none⟩ = some (.int .i64 f.1) ∧ W.cell? ⟨w9.heap.size, 1, none⟩ = some (.slice P4 f.2.length d4))
        (first | exact HS_w14.out _ (Below.refl _ _) | exact HS_w14.out _ (Below.refl _ _).drew | exact HS_w14.out _ (bthen (And.left (by assumption)) (by assumption)))
        (first
          | (go_at_call 11; refine (toFact_any _ f _ ?_ (by omega)).mono ?_; exact H2.out.on (bthen B_w14 (And.left (by assumption))); rintro e wf ⟨Af, cf, rfl, hof, hbf⟩)
          | (go_at_call 15; refine (eqFact_any _ _ f f _ ?_ ?_ (by omega) (by omega)).mono ?_; exact (RX_w14.out.on (And.left (by assumption))); exact ⟨_, rfl, hof.rd⟩; rw [show decide (f = f) = true by simp]; rintro e wg ⟨rfl, hbg⟩))
      all_goals
        go_wp2_with (fail)
        go_ret
        exact ⟨rfl, bthen B_w14 (And.left (by assumption))⟩

theorem lawRoundOf_in (v0 : Value) (v1 : Value) (v2 : Value) (p : LProg) (fs : List LFact) (f : LFact) (w : World) (h0 : InProg w v0 p) (h1 : InFacts w v1 fs) (h2 : InFact w v2 f) : Calls Tryz.prog 3 #[v0, v1, v2] w fun e w' => e = .returned (.bool true) ∧ Below w.heap.size w w' :=
  lawRoundOf_any v0 v1 v2 p fs f w h0.1 h1.1 h2.1 (progLens_in h0.2) h1.2.1 h1.2.2 h2.2

end Go.Proofs.YtniedmhkajnfjaaGreat
/-
  The law FnExactRoundOf: for every input the call returns true, and each argument reads behind it as it read before. Conditions: none but the row's own.
-/
namespace Go.Proofs.YtniedmhkajnfjaaGreat
open Go.ChangeShapes Go.WideShapes Go.ChangeAt Go.RowKit

set_option maxRecDepth 100000 in
theorem fnExactRoundOf_lifted (os : Os) (started : os.Started) (H : Type) (enc : TypeId × Value → H) :
    ReturnsInHanded {} Tryz.checked os 3 .any (Rows.fnExactRoundOfSpec.pre6 enc Tryz.prog Tryz.f3 Rows.fnExactRoundOfRow.domain false) (Rows.fnExactRoundOfSpec.post enc Tryz.prog Tryz.f3 false true false false) := by
  refine returnsInHanded_of_change (C := Tryz.checked) Tryz.own started (by kernel_rfl) Tryz.func3
    (ChangeSpec.witness6 (enc := enc) (C := Tryz.checked) false ⟨#[], #[.agg #[.slice none 0 0, .slice none 0 0], .slice none 0 0, .agg #[.int .i64 0, .slice none 0 0]], []⟩ 8 (by kernel_rfl) (by kernel_rfl) (by kernel_rfl) (by kernel_rfl)) ?_
  intro W base args ds gs before hval0 hW hcnd _
  have hval : ∀ (j : Nat) t v, Tryz.f3.params[j]? = some t → args[j]? = some v → Value.okWide Tryz.prog W .any base t v := hval0
  have hW' := hW
  obtain ⟨p, q, hA0, hV, rfl, hfz, hnd⟩ := hW
  have hA : DataW.TrodAll enc Tryz.prog W 0 (fun _ => true) true Tryz.f3.params.toList args.toList ds p := hA0
  rw [Tryz.params3] at hA hval
  obtain ⟨v0, vs0, d0, ds0, p0, q0, hargs, rfl, rfl, h0, r0⟩ := trodAll_cons hA
  obtain ⟨v1, vs1, d1, ds1, p1, q1, rfl, rfl, rfl, h1, r1⟩ := trodAll_cons r0
  obtain ⟨v2, vs2, d2, ds2, p2, q2, rfl, rfl, rfl, h2, r2⟩ := trodAll_cons r1
  obtain ⟨rfl, rfl, rfl⟩ := trodAll_nil r2
  obtain rfl : args = #[v0, v1, v2] := by cases args; simp_all
  obtain ⟨rfl, rfl⟩ := trodVars_none hV
  have lt0 : ∀ x ∈ p0, x.block < W.heap.size := by obtain ⟨m, hm⟩ := h0; exact DataW.trod_lt m _ _ _ hm
  obtain ⟨x0, w0⟩ := open_inProg (hval 0 25 v0 rfl rfl) h0
  have lt1 : ∀ x ∈ p1, x.block < W.heap.size := by obtain ⟨m, hm⟩ := h1; exact DataW.trod_lt m _ _ _ hm
  obtain ⟨x1, w1⟩ := open_inFacts (hval 1 26 v1 rfl rfl) h1
  have lt2 : ∀ x ∈ p2, x.block < W.heap.size := by obtain ⟨m, hm⟩ := h2; exact DataW.trod_lt m _ _ _ hm
  obtain ⟨x2, w2⟩ := open_inFact (hval 2 28 v2 rfl rfl) h2
  clear hA0 hval0
  refine (lawRoundOf_in v0 v1 v2 x0 x1 x2 W w0 w1 w2).mono fun e W' ⟨he, bel⟩ => ?_
  subst he
  exact ⟨_, rfl, _, _, _, [], _, [], hW', trodAll_mk1 (shut_bool Tryz.underlying4 _), (trodAll_cons_mk (Below.trod Tryz.laidOut (by kernel_rfl) (of_decide_eq_true (by kernel_rfl)) h0 bel lt0) (trodAll_cons_mk (Below.trod Tryz.laidOut (by kernel_rfl) (of_decide_eq_true (by kernel_rfl)) h1 bel lt1) (trodAll_cons_mk (Below.trod Tryz.laidOut (by kernel_rfl) (of_decide_eq_true (by kernel_rfl)) h2 bel lt2) trodAll_mk0))), rfl, bel.frame _, fun h => by cases h⟩

end Go.Proofs.YtniedmhkajnfjaaGreat
/-
  The law FnExactRoundOf: for every input the call returns true, and each argument reads behind it as it read before. Conditions: none but the row's own.
-/
namespace Go.Proofs.YtniedmhkajnfjaaGreat
open Go.ChangeShapes Go.WideShapes Go.ChangeAt Go.RowKit

theorem fnExactRoundOf_holds : Rows.FnExactRoundOfSaid :=
  OpenClaim.holds_of_wide 3 Tryz.f3 rfl rfl rfl rfl rfl rfl rfl ⟨rfl, rfl, rfl, rfl, rfl⟩ rfl rfl rfl rfl rfl (by kernel_rfl) Tryz.func3 fnExactRoundOf_joined
    (of_decide_eq_true (by kernel_rfl)) (by unfold Func.isWrapper; rw [if_neg (of_decide_eq_false (by kernel_rfl))]; exact ⟨rfl, rfl⟩)
    (fun os started H enc _ => fnExactRoundOf_lifted os started H enc)

end Go.Proofs.YtniedmhkajnfjaaGreat
namespace Go.Proofs.YtniedmhkajnfjaaGreat
open Go.ChangeShapes Go.WideShapes Go.ChangeAt Go.RowKit


end Go.Proofs.YtniedmhkajnfjaaGreat
