/-
  The law FnExactRounds: for every input the call returns true, and each argument reads behind it as it read before. Conditions: none but the row's own.
-/
import Derived.Test.YtigkgheddngkeaaGreatDoorMLe10
import Derived.Test.YtigkgheddngkeaaGreatDoorMLe3
import Derived.Test.YtigkgheddngkeaaGreatDoorMLe12
import Derived.Test.YtigkgheddngkeaaGreatDoorMLe9
import Derived.Deep.RegionHeld3
import Derived.Deep.DeepCutAuto
import Derived.Deep.RegionWith
import Derived.Test.YtigkgheddngkeaaGreatDoorRows
import Derived.Test.YtigkgheddngkeaaGreatDoorMLe2
import Derived.Test.YtigkgheddngkeaaGreatDoorCards
import Derived.Test.YtigkgheddngkeaaGreatDoorTie
import Derived.Lay
import Derived.SevenTiedAt
import Derived.Test.YtigkgheddngkeaaGreatDoorRoundsJoin
import Derived.Test.YtigkgheddngkeaaGreatDoorJFm
import Derived.Test.YtigkgheddngkeaaGreatDoorJFg
import Derived.Test.YtigkgheddngkeaaGreatDoorRoundsGoes
/-
  broughtIn: the facts of one round.
-/
namespace Go.Proofs.YtigkgheddngkeaaGreatDoor
open Go.RowKit

theorem GrAt.endsAt {w : World} {g o e : Nat} {X : List FV} {E : List Nat} {R : Nat → Value} (h : GrAt w g X E o e R) (hm : 0 < E.length) : ∃ b c, R 1 = .slice (some ⟨b, 0, none⟩) E.length c ∧ (∀ k, k < E.length → w.cell? ⟨b, k, none⟩ = some (.int .i64 ((E.getD k 0 : Nat) : Int))) ∧ E.length ≤ c := by
  have hcells := @World.ownsRow.cells w (g + 1) 3 1 _ E.length (E.map inN) h.raw.ends
  rcases h.raw.ends.2 with ⟨e1, e0⟩ | ⟨b, cap, cur, e1, hb, hg, hc, _⟩
  · omega
  · refine ⟨b, cap, e1, fun k hk => ?_, by omega⟩
    have hget : (E.map inN)[k]? = some (.int .i64 ((E.getD k 0 : Nat) : Int)) := by
      rw [List.getElem?_map, List.getElem?_eq_getElem hk]
      simp [inN, hk]
    have := hcells (g := b) (by rw [e1]; rfl) k _ hget
    rw [Go.WideShapes.add_plain, Nat.zero_add] at this
    exact this

set_option maxHeartbeats 4000000 in
set_option maxRecDepth 100000 in
theorem broughtIn_any (g : Nat) (X : List FV) (E : List Nat) (o e : Nat) (R : Nat → Value) (k a b : Nat) (w0 w : World) (h0 : GrAt w0 g X E o e R) (hbw : Below w0.heap.size w0 w) (hk : k < E.length) (ha : a = if k = 0 then 0 else E.getD (k - 1) 0) (hb : b = E.getD k 0) (hab : a ≤ b) (hbX : b ≤ X.length) (hX : X.length ≤ 1048576) (hE : E.length ≤ 1048576) :
    Calls Tryz.prog 62 #[.pointer (some ⟨g, 0, none⟩), .int .i64 (k : Int)] w fun e' w' =>
      ∃ A c, e' = .returned (.slice A (b - a) c) ∧ RdFacts w0 w0.heap.size (.slice A (b - a) c) (((factsX X).take b).drop a) ∧ Below w.heap.size w w' := by
  have h := h0.on hbw
  obtain ⟨A0, c0, hv0⟩ := h.raw.formL
  obtain ⟨b1, c1, hv1, hce, hc1⟩ := h.endsAt (by omega)
  have hgl := h.lt
  have q0 : w.cell? ⟨g, 0, none⟩ = some (.slice A0 X.length c0) := by rw [← hv0]; exact h.raw.cellList
  have q1 : w.cell? ⟨g, 1, none⟩ = some (.slice (some ⟨b1, 0, none⟩) E.length c1) := by rw [← hv1]; exact h.raw.cellEnds
  have d0 : w.drew.cell? ⟨g, 0, none⟩ = some (.slice A0 X.length c0) := q0
  have d1 : w.drew.cell? ⟨g, 1, none⟩ = some (.slice (some ⟨b1, 0, none⟩) E.length c1) := q1
  have k1 := hce k hk
  have dk1 : w.drew.cell? ⟨b1, k, none⟩ = some (.int .i64 ((E.getD k 0 : Nat) : Int)) := k1
  rw [← hb] at k1 dk1
  have hXc : X.length ≤ c0 := by
    rcases h.raw.list.2 with ⟨e1, e0⟩ | ⟨b', cap, cur, e1, _, _, h2, _⟩
    · rw [hv0] at e1; injection e1 with _ e2 e3; omega
    · rw [hv0] at e1; injection e1 with _ e2 e3; omega
  have hlist := h0.raw.list
  rw [hv0] at hlist
  have HRD := Lib.hid (rdX_mid hlist h0.raw.argsL hab hbX)
  have BB := Lib.hid (show Below w.heap.size w w.drew from (Below.refl _ _).drew)
  have hi1 : (k : Int) < (E.length : Int) := by omega
  have hi2 : (a : Int) ≤ (b : Int) := by omega
  have hi3 : (b : Int) ≤ (c0 : Int) := by omega
  have hi4 : (a : Int) ≤ (c0 : Int) := by omega
  rcases k with _ | k
  · have ha0 : a = 0 := by rw [ha]; rfl
    subst ha0
    have HR2 := Lib.hid (show RdFacts w0 w0.heap.size (.slice A0 (b - 0) c0) (((factsX X).take b).drop 0) from rdX h0.raw.list h0.raw.argsL hbX hv0 (c' := c0) (by omega))
    clear h h0 hbw ha hb hce hv0 hv1 hlist
    go_enter Tryz.func62, Tryz.ntmps62
    go_upto_region 4 with fail
    go_big_region
    go_wp2_with fail
    go_ret
    exact ⟨_, _, rfl, HR2.out, BB.out⟩
  · have k0 := hce k (by omega)
    rw [show E.getD k 0 = a by rw [ha]; rfl] at k0
    have hj1 : (k : Int) < (E.length : Int) := by omega
    have hpos : 0 < (k : Int) + 1 := by omega
    clear h h0 hbw ha hb hce hv0 hv1 hlist
    go_enter Tryz.func62, Tryz.ntmps62
    go_upto_region 4 with fail
    go_big_region
    go_wp2_with fail
    · have hca := h
      have HR2 := Lib.hid (show RdFacts w0 w0.heap.size (.slice A0 (b - a) 0) (((factsX X).take b).drop a) from by
        have h1 := HRD.out
        rw [if_pos hca, hca, Nat.sub_self] at h1
        exact h1)
      go_ret
      exact ⟨_, _, rfl, HR2.out, BB.out⟩
    · have hca := h
      have HR2 := Lib.hid (show RdFacts w0 w0.heap.size (.slice (A0.map (·.add (a * 2))) (b - a) (c0 - a)) (((factsX X).take b).drop a) from by
        have h1 := HRD.out
        rw [if_neg hca] at h1
        exact h1)
      go_ret
      exact ⟨_, _, rfl, HR2.out, BB.out⟩

end Go.Proofs.YtigkgheddngkeaaGreatDoor
/-
  Rows of lists of facts that are made at once and filled one by one.
-/
namespace Go.Proofs.YtigkgheddngkeaaGreatDoor
open Go.RowKit

section
variable {w w' : World} {lo hi b : Nat} {v : Value} {hv : List Value} {FF : List (List LFact)} {F : List LFact} {P Q : Nat → Nat}
theorem OwnFacts.none (w : World) (p q : Nat) : OwnFacts w p q (.slice none 0 0) [] := ⟨_, .nil, World.ownsRow_nil _ _ _ _, fun g hg => by cases hg⟩
theorem FFAt.nils {n : Nat} (h : w.ownsRow lo 35 1 v n (List.replicate n (.slice none 0 0))) (hl : ∀ g, v.ownBlock = some g → g < hi) (hlo : lo ≤ hi) :
    FFAt w lo hi v (List.replicate n (.slice none 0 0)) (List.replicate n []) (fun _ => hi) (fun _ => hi) where
  row := by rw [List.length_replicate]; exact h
  lt := hl
  own i h1 h2 := by
    rw [List.getElem_replicate, List.getElem_replicate]
    exact ⟨hlo, ⟨Nat.le_refl _, Nat.le_refl _⟩, OwnFacts.none _ _ _, fun g hg => .inl (hl g hg)⟩
  ord _ _ _ _ := Nat.le_refl _
theorem OwnFF.none (w : World) (p q : Nat) : OwnFF w p q (.slice none 0 0) [] := ⟨[], fun _ => 0, fun _ => 0, ⟨World.ownsRow_nil _ _ _ _, fun g hg => (by cases hg), fun i h1 => absurd h1 (by simp), fun i j _ h1 => absurd h1 (by simp)⟩⟩
/-- A block that lies in no list changes. -/
theorem FFAt.only (h : FFAt w lo hi v hv FF P Q) (ho : Only b (b + 1) w w') (hne : ∀ g, v.ownBlock = some g → g ≠ b) (hP : ∀ i, i < FF.length → b < P i) : FFAt w' lo hi v hv FF P Q where
  row := ownsRow_only h.row fun g hg => ho.block g (h.row.lt g hg).2 (by have := hne g hg; omega)
  lt := h.lt
  own i h1 h2 := by
    obtain ⟨g1, g2, g3, g4⟩ := h.own i h1 h2
    exact ⟨g1, g2, g3.only ho (.inr (hP i h1)), g4⟩
  ord := h.ord
/-- List j, empty as all behind it, is filled. -/
theorem FFAt.put {g c n j a m : Nat} {u : Value} (h : FFAt w lo hi (.slice (some ⟨g, 0, none⟩) n c) hv FF P Q) (hn : FF.length = n) (hj : j < n) (hz : ∀ i, j ≤ i → i < n → hv[i]? = some (.slice none 0 0) ∧ FF[i]? = some [])
    (hu : OwnFacts w a m u F) (ha : hi ≤ a) (ham : a ≤ m) (hm : m ≤ w.heap.size) :
    FFAt (w.setCell ⟨g, j, none⟩ u) lo m (.slice (some ⟨g, 0, none⟩) n c) (hv.set j u) (FF.set j F) (fun i => if i < j then P i else if i = j then a else m) (fun i => if i < j then Q i else m) := by
  subst hn
  have hlen := h.len
  have hgl : g < hi := h.lt g rfl
  have hgw := h.row.lt g rfl
  have hst := h.row.stored j u
  have keep : ∀ {p q : Nat} {x : Value} {G : List LFact}, OwnFacts w p q x G → (g < p ∨ q ≤ g) → OwnFacts (w.setCell ⟨g, j, none⟩ u) p q x G := fun {p q x G} h0 hne => by
    have ho : Only g (g + 1) w (w.setCell ⟨g, j, none⟩ u) := Only.setCell (Only.refl g (g + 1) w) (p := ⟨g, j, none⟩) ⟨Nat.le_refl g, Nat.lt_succ_self g⟩ u
    exact h0.only ho (by omega)
  refine ⟨by rw [List.length_set]; exact hst.1, fun g2 hg2 => by have := h.lt g2 hg2; omega, fun i h1 h2 => ?_, fun i k hik hk => ?_⟩
  · rw [List.length_set] at h1 h2
    obtain ⟨g1, g2, g3, g4⟩ := h.own i h1 h2
    by_cases e1 : i < j
    · simp only [if_pos e1]
      rw [List.getElem_set_ne (by omega), List.getElem_set_ne (by omega)]
      exact ⟨g1, ⟨g2.1, by omega⟩, keep g3 (by have := g4 g rfl; omega), g4⟩
    · by_cases e2 : i = j
      · subst e2
        simp only [if_neg e1, if_true]
        rw [List.getElem_set_self, List.getElem_set_self]
        exact ⟨by omega, ⟨ham, Nat.le_refl _⟩, keep hu (by omega), fun g2 hg2 => by have := h.lt g2 hg2; omega⟩
      · simp only [if_neg e1, if_neg e2]
        rw [List.getElem_set_ne (by omega), List.getElem_set_ne (by omega)]
        obtain ⟨z1, z2⟩ := hz i (by omega) h1
        rw [List.getElem?_eq_getElem h2] at z1
        rw [List.getElem?_eq_getElem h1] at z2
        injection z1 with z1
        injection z2 with z2
        rw [z1, z2]
        exact ⟨by omega, ⟨Nat.le_refl _, Nat.le_refl _⟩, OwnFacts.none _ _ _, fun g2 hg2 => by have := h.lt g2 hg2; omega⟩
  · rw [List.length_set] at hk
    by_cases e1 : k < j
    · simp only [if_pos e1, if_pos (show i < j by omega)]
      exact h.ord i k hik hk
    · by_cases e2 : i < j
      · simp only [if_pos e2, if_neg e1]
        have hi2 := (h.own i (by omega) (by omega)).2.1
        split <;> omega
      · simp only [if_neg e2, if_neg e1, if_neg (show ¬ k = j by omega)]
        omega
end
/-- The rows of the first k, and no more. -/
def firstFF (RS : List (List LFact)) (k : Nat) : List (List LFact) := RS.take k ++ List.replicate (RS.length - k) []
theorem firstFF_len (RS : List (List LFact)) {k : Nat} (h : k ≤ RS.length) : (firstFF RS k).length = RS.length := by simp [firstFF]; omega
theorem firstFF_zero (RS : List (List LFact)) : firstFF RS 0 = List.replicate RS.length [] := by simp [firstFF]
theorem firstFF_all (RS : List (List LFact)) : firstFF RS RS.length = RS := by simp [firstFF]
theorem firstFF_nil (RS : List (List LFact)) {k i : Nat} (hi : k ≤ i) (h : i < RS.length) : (firstFF RS k)[i]? = some [] := by
  unfold firstFF
  rw [List.getElem?_append_right (by simp; omega), List.getElem?_replicate, if_pos (by simp; omega)]
theorem firstFF_set (RS : List (List LFact)) {k : Nat} (h : k < RS.length) : (firstFF RS k).set k RS[k] = firstFF RS (k + 1) := by
  apply List.ext_getElem?
  intro i
  by_cases e : i = k
  · subst e
    rw [List.getElem?_set_self (by rw [firstFF_len _ (by omega)]; exact h)]
    unfold firstFF
    rw [List.getElem?_append_left (by simp; omega), List.getElem?_take_of_lt (by omega), List.getElem?_eq_getElem h]
  · rw [List.getElem?_set_ne (by omega)]
    by_cases e2 : i < k
    · unfold firstFF
      rw [List.getElem?_append_left (by simp; omega), List.getElem?_append_left (by simp; omega), List.getElem?_take_of_lt e2, List.getElem?_take_of_lt (by omega)]
    · by_cases e3 : i < RS.length
      · rw [firstFF_nil RS (by omega) e3, firstFF_nil RS (by omega) e3]
      · rw [List.getElem?_eq_none (by rw [firstFF_len _ (by omega)]; omega), List.getElem?_eq_none (by rw [firstFF_len _ (by omega)]; omega)]

end Go.Proofs.YtigkgheddngkeaaGreatDoor
/-
  Rounds: the program's.
-/
namespace Go.Proofs.YtigkgheddngkeaaGreatDoor
open Go.RowKit

def roundsL (p : LProg) (fs : List LFact) : List (List LFact) := if lokB p fs then roundsFrom p.2 (setOf fs) else []
/-- Where the facts before round k end. -/
def bndE (E : List Nat) (k : Nat) : Nat := if k = 0 then 0 else E.getD (k - 1) 0
theorem Grown.len_ {w : World} {g o m : Nat} {p : LProg} {fs : List LFact} {X : List FV} {E : List Nat} {R : Nat → Value} (h : Grown w g p fs X E o R m) (hl : lokB p fs = true) : (roundsL p fs).length = E.length ∧ E.length ≤ 2001 := by
  obtain ⟨h1, h2, h3, _⟩ := lok_parts hl
  have hm := roundsM_is h1 h2 (FitL.set h3) h.rounds
  have h4 : roundsM p.2 (setOf fs) ≤ 2000 := firstM_le p.2 (setOf fs) 2000 0
  refine ⟨?_, by rw [h.len]; omega⟩
  unfold roundsL
  rw [if_pos hl, h.len]
  simp [roundsFrom, hm]
theorem Grown.at_k {w : World} {g o m : Nat} {p : LProg} {fs : List LFact} {X : List FV} {E : List Nat} {R : Nat → Value} (h : Grown w g p fs X E o R m) (hl : lokB p fs = true) {k : Nat} (hk : k < E.length) (hk2 : k < (roundsL p fs).length) :
    bndE E k ≤ E.getD k 0 ∧ E.getD k 0 ≤ X.length ∧ bndE E (k + 1) = E.getD k 0 ∧ tabFacts (tabWith zeroT ((factsX X).take (E.getD k 0))) p.1 = (roundsL p fs)[k] := by
  obtain ⟨h1, h2, h3, _⟩ := lok_parts hl
  have hm := roundsM_is h1 h2 (FitL.set h3) h.rounds
  have hkm : k ≤ m := by have := h.len; omega
  obtain ⟨e1, e2⟩ := h.ends k hkm
  refine ⟨?_, e1, by simp [bndE], ?_⟩
  · unfold bndE
    split
    · omega
    · have hp := h.up
      have h5 := List.pairwise_iff_getElem.1 hp (k - 1) k (by omega) hk (by omega)
      simp [List.getD_eq_getElem?_getD, hk, show k - 1 < E.length by omega]
      omega
  · have ht := tabFacts_with h1 (F := (factsX X).take (E.getD k 0)) fun f hf => h.fit.fits f (List.mem_of_mem_take hf)
    have he : (roundsL p fs)[k] = iterL p.2 (setOf fs) k := by
      simp [roundsL, hl, roundsFrom]
    rw [he]
    exact ht.1.unique (iterL_asc (setOf_asc _) k) fun f => (ht.2 f).trans (e2 f)
theorem tabWith_mid {L : List LFact} {a b : Nat} (h : a ≤ b) : tabWith (tabWith zeroT (L.take a)) ((L.take b).drop a) = tabWith zeroT (L.take b) := by
  conv => rhs; rw [take_mid h]
  simp [tabWith, List.foldl_append]

set_option maxHeartbeats 4000000 in
set_option maxRecDepth 100000 in
theorem implRounds_any (v v2 : Value) (p : LProg) (fs : List LFact) (w : World) (h : RdProg w w.heap.size v p) (h2 : RdFacts w w.heap.size v2 fs) (hs : szP p ≤ 1048576) (hn : fs.length ≤ 1048576) (ht : tot fs ≤ 1048576) (hT : Tab w) :
    Calls Tryz.prog 18 #[v, v2] w fun e w' => ∃ A' c', e = .returned (.slice A' (roundsL p fs).length c') ∧ OwnFF w' w.heap.size w'.heap.size (.slice A' (roundsL p fs).length c') (roundsL p fs) ∧ Below w.heap.size w w' := by
  obtain ⟨i0, hi0, hz0, hz1, hz2⟩ := info_parts Tryz.infoFactS
  have HT := Lib.hid hT
  have HP := Lib.hid h
  have H2 := Lib.hid h2
  obtain ⟨a, b, rfl, hA, hR⟩ := h
  have HA := Lib.hid hA
  obtain ⟨A, c, rfl, hcA, _⟩ := hA
  obtain ⟨A2, c2, rfl, hcR, _⟩ := hR
  obtain ⟨A3, c3, rfl, hcF, _⟩ := h2
  obtain ⟨RS, hRS⟩ : ∃ RS, RS = roundsL p fs := ⟨_, rfl⟩
  have HRS := Lib.hid hRS
  rw [← hRS]
  obtain ⟨n, hnR⟩ : ∃ n, n = RS.length := ⟨_, rfl⟩
  rw [← hnR]
  have HNR := Lib.hid hnR
  clear hRS hT hnR
  go_enter Tryz.func18, Tryz.ntmps18
  go_upto_region 1 with fail
  obtain ⟨w1, hw1⟩ : ∃ w1, w1 = w.alloc (Obj.cells #[Value.slice A p.1.length c, Value.slice A2 p.2.length c2] 33) := ⟨_, rfl⟩
  have X1 : Blk w1 w.heap.size 33 #[.slice A p.1.length c, .slice A2 p.2.length c2] := by rw [hw1]; exact Blk.new _ _ _
  have B1 : Below w.heap.size w w1 := by rw [hw1]; exact below1 _ _
  rw [← hw1]
  clear hw1
  have x0 : w1.cell? ⟨w.heap.size, 0, none⟩ = some (.slice A p.1.length c) := X1.cell 0
  have x1 : w1.cell? ⟨w.heap.size, 1, none⟩ = some (.slice A2 p.2.length c2) := X1.cell 1
  have CG := Lib.hid (growthOf_any _ _ p fs w1 (HP.out.on B1) (H2.out.on B1) hs hn ht)
  have HX1 := Lib.hid X1
  clear X1
  go_upto_region 2 with (go_at_call 60; refine CG.out.mono ?_; rintro e w2 ⟨hcase, b2⟩; rcases hcase with ⟨hno, rfl⟩ | ⟨hyes, g, X, E, o, Rg, m, rfl, hg, hgr⟩)
  · go_wp2_with fail
    go_ret
    have e : RS = [] := by rw [HRS.out]; unfold roundsL; rw [hno]; rfl
    have e0 : n = 0 := by rw [HNR.out, e]; rfl
    rw [e, e0]
    exact ⟨none, 0, rfl, OwnFF.none _ _ _, bthen B1 b2⟩
  · have HGR := Lib.hid hgr
    have HY := Lib.hid hyes
    have hB2 := bthen B1 b2
    have B2 := Lib.hid hB2
    have X2 := HX1.out.below b2 HX1.out.lt
    have HX2 := Lib.hid X2
    obtain ⟨har, _⟩ := lok_parts hyes
    have HAR := Lib.hid har
    obtain ⟨hlen, hE2⟩ := hgr.len_ hyes
    rw [← HRS.out] at hlen
    have hne : n = E.length := by rw [HNR.out]; exact hlen
    have hlen0 := hgr.len
    obtain ⟨b1, c1, hv1, hce, hc1⟩ := hgr.at_.endsAt (by omega)
    have hgl := hgr.at_.lt
    have q1 : w2.cell? ⟨g, 1, none⟩ = some (.slice (some ⟨b1, 0, none⟩) n c1) := by rw [hne, ← hv1]; exact hgr.at_.raw.cellEnds
    have hn2 : n ≤ 2001 := by omega
    have hn3 : (n : Int) ≤ 2001 := by omega
    have HNE := Lib.hid (And.intro hne (HNR.out.symm))
    have HS2 := Lib.hid (show w.heap.size < w2.heap.size from X2.lt)
    have hmk := fun W => run_make_rowN (P := Tryz.prog) 29 35 i0 (.slice none 0 0) Tryz.underlying29 hi0 hz0 .i64 .i64 n n (Nat.le_refl _) (by rw [hz2]; omega) (by omega) W
    rw [hz1] at hmk
    simp only [Value.cells] at hmk
    obtain ⟨cs, hcs⟩ : ∃ cs, cs = madeCells #[Value.slice none 0 0] (n * 1) := ⟨_, rfl⟩
    have HCS := Lib.hid (show cs.size = n * 1 ∧ cs.toList = List.replicate n (.slice none 0 0) by rw [hcs]; exact ⟨size_madeCells _ _, by rw [Nat.mul_one]; exact toList_madeCells_one _ _⟩)
    rw [← hcs] at hmk
    clear hgr hyes b2 x0 x1 har hv1 hce hlen hne hlen0 hcs B1 X2 HX1 hi0 hz0 hz1 hz2
    go_upto_region 6 with fail
    obtain ⟨w3, hw3⟩ : ∃ w3, w3 = w2.alloc (Obj.cells cs 35) := ⟨_, rfl⟩
    have b3 : Below w2.heap.size w2 w3 := by rw [hw3]; exact below1 _ _
    have hs3 : w3.heap.size = w2.heap.size + 1 := by rw [hw3]; simp
    have r3 : w3.ownsRow w2.heap.size 35 1 (.slice (some ⟨w2.heap.size, 0, none⟩) n n) n (List.replicate n (.slice none 0 0)) := by
      rw [hw3, ← HCS.out.2]
      exact World.ownsRow_lit w2 cs n (Nat.le_refl _) (by unfold maxLen; omega) HCS.out.1
    rw [← hw3]
    clear hw3 hmk
    obtain ⟨zs, hzs⟩ : ∃ zs, zs = (#[Value.int IntKind.u64 0, Value.int IntKind.u64 0, Value.int IntKind.u64 0, Value.int IntKind.u64 0, Value.int IntKind.u64 0, Value.int IntKind.u64 0, Value.int IntKind.u64 0, Value.int IntKind.u64 0, Value.int IntKind.u64 0, Value.int IntKind.u64 0, Value.int IntKind.u64 0, Value.int IntKind.u64 0, Value.int IntKind.u64 0, Value.int IntKind.u64 0, Value.int IntKind.u64 0, Value.int IntKind.u64 0, Value.int IntKind.u64 0, Value.int IntKind.u64 0, Value.int IntKind.u64 0, Value.int IntKind.u64 0, Value.int IntKind.u64 0, Value.int IntKind.u64 0, Value.int IntKind.u64 0, Value.int IntKind.u64 0] : Array Value) := ⟨_, rfl⟩
    have hzt : zs = tabCells zeroT := by rw [hzs]; rfl
    rw [← hzs]
    clear hzs
    obtain ⟨w4, hw4⟩ : ∃ w4, w4 = w3.alloc (Obj.cells zs 83) := ⟨_, rfl⟩
    have T4 : TabAt w4 (w2.heap.size + 1) zeroT := by rw [hw4, hzt, ← hs3]; exact TabAt.zero _
    have b4 : Below w3.heap.size w3 w4 := by rw [hw4]; exact below1 _ _
    have hs4 : w4.heap.size = w2.heap.size + 2 := by rw [hw4]; simp [hs3]
    rw [← hw4]
    clear hw4 hzt
    have F4 : FFAt w4 w2.heap.size (w2.heap.size + 2) (.slice (some ⟨w2.heap.size, 0, none⟩) n n) (List.replicate n (.slice none 0 0)) (List.replicate n []) (fun _ => w2.heap.size + 2) (fun _ => w2.heap.size + 2) :=
      FFAt.nils (ownsRow_below r3 (hi := w3.heap.size) (fun g hg => by simp [Value.ownBlock] at hg; omega) b4 (Nat.le_refl _)) (fun g hg => by simp [Value.ownBlock] at hg; omega) (by omega)
    have HB4 := Lib.hid (show Below w2.heap.size w2 w4 from bthen b3 b4)
    have HF4 := Lib.hid (And.intro T4 (And.intro F4 hs4))
    clear T4 F4 b3 b4 r3 hs3 hs4 q1
    go_wp2_with fail
    go_loopw [26] (fun i wr => ∃ (k hi : Nat) (hv : List Value) (P Q : Nat → Nat), k ≤ n ∧ i = .int .i64 k ∧ TabAt wr (w2.heap.size + 1) (tabWith zeroT ((factsX X).take (bndE E k))) ∧
      FFAt wr w2.heap.size hi (.slice (some ⟨w2.heap.size, 0, none⟩) n n) hv (firstFF RS k) P Q ∧ hi ≤ wr.heap.size ∧ (∀ i, i < n → w2.heap.size + 1 < P i) ∧ (∀ i, k ≤ i → i < n → hv[i]? = some (.slice none 0 0)) ∧ Only w2.heap.size (w2.heap.size + 2) w4 wr) (fun i _ => n - (intOf i).toNat)
    case atStart =>
      exact ⟨0, w2.heap.size + 2, _, _, _, Nat.zero_le _, rfl, HF4.out.1, by rw [firstFF_zero, HNE.out.2]; exact HF4.out.2.1, by have := HF4.out.2.2; omega, fun _ _ => by omega, fun i _ hi => by rw [List.getElem?_replicate, if_pos hi], Only.refl _ _ _⟩
    case round =>
      obtain ⟨k, hi, hv, P, Q, hk, rfl, hat, hff, hhi, hPP, hzz, hon⟩ := hrel
      by_cases hlt : k < n
      · have hbe : Below w2.heap.size w2 wr := Only.then_ HB4.out hon (Nat.le_refl _)
        have HBE := Lib.hid hbe
        have hk1 : k < E.length := by rw [← HNE.out.1]; exact hlt
        have hkR : k < RS.length := by rw [HNE.out.2]; exact hlt
        obtain ⟨F, hF⟩ : ∃ F, F = RS[k] := ⟨_, rfl⟩
        have hat4 : bndE E k ≤ E.getD k 0 ∧ E.getD k 0 ≤ X.length ∧ bndE E (k + 1) = E.getD k 0 ∧ tabFacts (tabWith zeroT ((factsX X).take (E.getD k 0))) p.1 = F := by
          have hh := HRS.out
          subst hh
          rw [hF]
          exact HGR.out.at_k HY.out hk1 hkR
        obtain ⟨e1, e2, e3, e4⟩ := hat4
        have hX2 : X.length ≤ 1536 := HGR.out.at_.few HAR.out HGR.out.fit
        have CB := Lib.hid (broughtIn_any g X E o X.length Rg k (bndE E k) (E.getD k 0) w2 wr HGR.out.at_ hbe hk1 rfl rfl e1 e2 (by omega) (by omega))
        have HFF := Lib.hid hff
        have HAT := Lib.hid hat
        have HON := Lib.hid hon
        have HPZ := Lib.hid (And.intro hPP hzz)
        have HF := Lib.hid hF
        have hEL : E.length ≤ 2001 := by rw [← HNE.out.1]; exact hn2
        have HE3 := Lib.hid e3
        have hlL : (((factsX X).take (E.getD k 0)).drop (bndE E k)).length = E.getD k 0 - bndE E k := by rw [List.length_drop, List.length_take, factsX_len]; omega
        have HTF := Lib.hid (show ∀ f ∈ ((factsX X).take (E.getD k 0)).drop (bndE E k), TabFact f from fun f hf => by
          have hff := HGR.out.fit.fits f (List.mem_of_mem_take (List.mem_of_mem_drop hf))
          have h1 := fits_parts hff
          have h2 : p.1.length ≤ 24 := by have := HAR.out; simp only [arityOk, Bool.and_eq_true, decide_eq_true_eq] at this; exact this.1
          exact ⟨h1.1.1, by omega, h1.2, fits_short HAR.out hff⟩)
        have HMID := Lib.hid (tabWith_mid (L := factsX X) e1)
        obtain ⟨L, hL⟩ : ∃ L, L = ((factsX X).take (E.getD k 0)).drop (bndE E k) := ⟨_, rfl⟩
        obtain ⟨T, hTe⟩ : ∃ T, T = tabWith zeroT ((factsX X).take (bndE E k)) := ⟨_, rfl⟩
        obtain ⟨T2, hT2⟩ : ∃ T2, T2 = tabWith zeroT ((factsX X).take (E.getD k 0)) := ⟨_, rfl⟩
        rw [← hL] at CB hlL HTF HMID
        rw [← hTe] at HMID HAT
        rw [← hT2] at HMID e4
        have HT2 := Lib.hid hT2
        have HE4 := Lib.hid e4
        obtain ⟨d, hd⟩ : ∃ d, d = E.getD k 0 - bndE E k := ⟨_, rfl⟩
        rw [← hd] at CB hlL
        have hLn : L.length ≤ 1048576 := by omega
        have HLL := Lib.hid hlL
        clear hff hat hon hPP hzz hF e1 e2 e3 e4 hL hTe hT2 hd hbe hlL
        go_upto_region 10 with (first
          | (go_at_call 62; refine CB.out.mono ?_; rintro e5 w5 ⟨A5, c5, rfl, r5, b5⟩
             have H5 := Lib.hid b5
             have HADD := Lib.hid (addAll_any (w2.heap.size + 1) w2.heap.size T (.slice A5 d c5) L w5 (HAT.out.below b5 HAT.out.1.lt) (r5.below (bthen HBE.out b5) (Nat.le_refl _)) (Nat.le_succ _) HTF.out hLn)
             rw [HMID.out] at HADD
             clear r5 b5)
          | (go_at_call 61; refine HADD.out.mono ?_; rintro e6 w6 ⟨rfl, t6, o6⟩; have H6 := Lib.hid (And.intro t6 o6); clear t6 o6))
        have h6s := H6.out.2.size
        have h5s := H5.out.size
        have hrs := HBE.out.size
        have hb6 : Below w2.heap.size w2 w6 := (bthen HBE.out H5.out).trans (H6.out.2.below (Nat.le_succ _) (by omega))
        have HB6 := Lib.hid (show Below w.heap.size w w6 from B2.out.trans (hb6.mono (by have := HS2.out; omega)))
        have x6 : w6.cell? ⟨w.heap.size, 0, none⟩ = some (.slice A p.1.length c) := (HX2.out.below hb6 HX2.out.lt).cell 0
        have CF := Lib.hid (tabFacts_any (w2.heap.size + 1) T2 (.slice A p.1.length c) p.1 w6 H6.out.1 (HA.out.on HB6.out) HAR.out (HT.out.below HB6.out))
        rw [HE4.out] at CF
        have FF6 := (HFF.out.below H5.out hhi).only H6.out.2 (fun g hg => by simp [Value.ownBlock] at hg; omega) (fun i hi => HPZ.out.1 i (by rw [firstFF_len RS (by omega), HNE.out.2] at hi; exact hi))
        have HFF6 := Lib.hid FF6
        have HFN := Lib.hid (show (firstFF RS k).length = n by rw [firstFF_len RS (by have := HNR.out; omega)]; exact HNR.out.symm)
        clear hb6 FF6
        have hsz6 : w2.heap.size + 2 ≤ w6.heap.size := by have := H6.out.1.1.lt; omega
        have hhi6 : hi ≤ w6.heap.size := by omega
        go_wp2_with (first
          | (go_at_call 63; refine CF.out.mono ?_; rintro e7 w7 ⟨A7, c7, rfl, o7, b7⟩
             have FF7 := HFF6.out.below b7 hhi6
             have row7 := FF7.row
             rw [HFN.out] at row7
             have hz7 := (row7.cellAt k (by omega)).trans (HPZ.out.2 k (Nat.le_refl _) hlt)
             have hf7 := row7.frozenAt k
             have H7 := Lib.hid (And.intro o7 b7)
             clear o7 b7 FF7 row7))
        have HN := Lib.hid (show ∀ W, W = w7.setCell ⟨w2.heap.size, k, none⟩ (.slice A7 F.length c7) → TabAt W (w2.heap.size + 1) (tabWith zeroT ((factsX X).take (bndE E (k + 1)))) ∧
            ∃ hi' hv' P' Q', FFAt W w2.heap.size hi' (.slice (some ⟨w2.heap.size, 0, none⟩) n n) hv' (firstFF RS (k + 1)) P' Q' ∧ hi' ≤ W.heap.size ∧ (∀ i, i < n → w2.heap.size + 1 < P' i) ∧ (∀ i, k + 1 ≤ i → i < n → hv'[i]? = some (.slice none 0 0)) ∧ Only w2.heap.size (w2.heap.size + 2) w4 W from fun W hW => by
          subst hW
          have FF7 := HFF6.out.below H7.out.2 hhi6
          have h7s := H7.out.2.size
          have ho : Only w2.heap.size (w2.heap.size + 1) w7 (w7.setCell ⟨w2.heap.size, k, none⟩ (.slice A7 F.length c7)) := Only.setCell (Only.refl _ _ _) (p := ⟨w2.heap.size, k, none⟩) ⟨Nat.le_refl _, Nat.lt_succ_self _⟩ _
          have o6 : Only w2.heap.size (w2.heap.size + 2) w5 w6 := ⟨H6.out.2.os, H6.out.2.tape, H6.out.2.output, H6.out.2.size, fun j h1 h2 => H6.out.2.block j h1 (by omega)⟩
          have o7 : Only w2.heap.size (w2.heap.size + 2) w7 (w7.setCell ⟨w2.heap.size, k, none⟩ (.slice A7 F.length c7)) := ⟨ho.os, ho.tape, ho.output, ho.size, fun j h1 h2 => ho.block j h1 (by omega)⟩
          have hfn := HFN.out
          have hp := FF7.put hfn hlt (fun i h1 h2 => ⟨HPZ.out.2 i h1 h2, firstFF_nil RS h1 (by rw [← HNR.out]; exact h2)⟩) H7.out.1 hhi6 h7s (Nat.le_refl _)
          have hkR : k < RS.length := by rw [← HNR.out]; exact hlt
          rw [HF.out, firstFF_set RS hkR, ← HF.out] at hp
          refine ⟨?_, _, _, _, _, hp, by simp, fun i hi => ?_, fun i h1 h2 => ?_, ((((HON.out.trans (Only.of_below H5.out)).trans o6).trans (Only.of_below H7.out.2)).trans o7)⟩
          · rw [HE3.out, ← HT2.out]
            exact (H6.out.1.below H7.out.2 (by omega)).only ho (.inr (Nat.le_refl _))
          · have h8 := HPZ.out.1 i hi
            show w2.heap.size + 1 < if i < k then P i else if i = k then w6.heap.size else w7.heap.size
            split
            · exact h8
            · split <;> omega
          · rw [List.getElem?_set_ne (by omega)]
            exact HPZ.out.2 i (by omega) h2)
        have HN2 := Lib.hid (HN.out _ rfl)
        clear hz7 hf7 x6
        obtain ⟨z1, hi', hv', P', Q', z2, z3, z4, z5, z6⟩ := HN2.out
        go_roundw
        case rel => exact ⟨k + 1, hi', hv', P', Q', by omega, by go_num, z1, z2, z3, z4, z5, z6⟩
        case measure => simp [intOf]; omega
      · have hkn : k = n := by omega
        have HFIN := Lib.hid (show OwnFF wr w2.heap.size wr.heap.size (.slice (some ⟨w2.heap.size, 0, none⟩) n n) RS from by
          have h1 := hff.mono (Nat.le_refl _) hhi
          rw [hkn, ← HNE.out.2, firstFF_all] at h1
          exact ⟨_, _, _, by rw [← HNE.out.2]; exact h1⟩)
        have HBF := Lib.hid (show Below w.heap.size w wr from B2.out.trans ((Only.then_ HB4.out hon (Nat.le_refl _)).mono (by have := HS2.out; omega)))
        have HN2 := Lib.hid HNE.out.2
        clear hat hff hhi hPP hzz hon
        go_wp2_with fail
        go_ret
        exact ⟨some ⟨w2.heap.size, 0, none⟩, n, rfl, HFIN.out.mono (by have := HS2.out; omega) (Nat.le_refl _), HBF.out⟩

end Go.Proofs.YtigkgheddngkeaaGreatDoor
/-
  Rows of slices of facts as results of laws: compared, marked, held.
-/
namespace Go.Proofs.YtigkgheddngkeaaGreatDoor
open Go.RowKit

section
variable {w w' : World} {lo hi j B : Nat} {v : Value} {hv : List Value} {FF : List (List LFact)} {F' : List LFact} {P Q : Nat → Nat}
theorem FFAt.set (h : FFAt w lo hi v hv FF P Q) (hj : j < FF.length) (hj' : j < hv.length) (hu : OwnFacts w' (P j) (Q j) hv[j] F') (ho : Only (P j) (Q j) w w') : FFAt w' lo hi v hv (FF.set j F') P Q := by
  obtain ⟨k1, k2, k3, k4⟩ := h.own j hj hj'
  refine ⟨by rw [List.length_set]; exact ownsRow_only h.row fun b hb => ho.block b (h.row.lt b hb).2 (by have := k4 b hb; omega), h.lt, fun i a b => ?_, fun i m hi hm => h.ord i m hi (by simpa using hm)⟩
  by_cases e : i = j
  · subst e
    rw [List.getElem_set_self]
    exact ⟨k1, k2, hu, k4⟩
  · rw [List.length_set] at a
    rw [List.getElem_set_ne (Ne.symm e)]
    obtain ⟨g1, g2, g3, g4⟩ := h.own i a b
    refine ⟨g1, g2, g3.only ho ?_, g4⟩
    rcases Nat.lt_or_gt_of_ne e with h1 | h1
    · exact .inl (h.ord i j h1 hj)
    · exact .inr (h.ord j i h1 a)
end
def totFF (FF : List (List LFact)) : Nat := (FF.map szF).sum
def szFF (FF : List (List LFact)) : Nat := FF.length + totFF FF
theorem totFF_at : ∀ (FF : List (List LFact)) (k : Nat) (h : k < FF.length), szF FF[k] ≤ totFF FF
  | F :: FF, 0, _ => by simp [totFF]
  | F :: FF, k + 1, h => by
    have := totFF_at FF k (by simpa using h)
    simp only [totFF, List.map_cons, List.sum_cons, List.getElem_cons_succ] at this ⊢
    omega
theorem totFF_few {FF : List (List LFact)} {n m : Nat} (hn : FF.length ≤ n) (hm : ∀ F ∈ FF, szF F ≤ m) : totFF FF ≤ n * m := by
  have key : ∀ (l : List (List LFact)), (∀ x ∈ l, szF x ≤ m) → totFF l ≤ l.length * m := by
    intro l
    induction l with
    | nil => intro _; simp [totFF]
    | cons x l ih =>
      intro h
      have h1 := h x List.mem_cons_self
      have h2 := ih fun y hy => h y (List.mem_cons_of_mem _ hy)
      simp only [totFF, List.map_cons, List.sum_cons, List.length_cons, Nat.add_mul] at h2 ⊢
      omega
  exact Nat.le_trans (key FF hm) (Nat.mul_le_mul_right m hn)
def endFF (k : Int) (FF : List (List LFact)) : Int := FF.foldl endF k
def markFF : Int → List (List LFact) → List (List LFact)
  | _, [] => []
  | k, F :: FF => markF k F :: markFF (endF k F) FF
theorem markFF_length : ∀ (k : Int) (FF : List (List LFact)), (markFF k FF).length = FF.length
  | _, [] => rfl
  | k, F :: FF => by simp [markFF, markFF_length _ FF]
theorem endFF_snoc (k : Int) (FF : List (List LFact)) (F : List LFact) : endFF k (FF ++ [F]) = endF (endFF k FF) F := by simp [endFF]
theorem markFF_snoc : ∀ (k : Int) (FF : List (List LFact)) (F : List LFact), markFF k (FF ++ [F]) = markFF k FF ++ [markF (endFF k FF) F]
  | k, [], F => by simp [markFF, endFF]
  | k, G :: FF, F => by
    have h := markFF_snoc (endF k G) FF F
    show markF k G :: markFF (endF k G) (FF ++ [F]) = _
    rw [h]
    rfl
theorem markFF_at {FF : List (List LFact)} {k : Int} {j : Nat} (h : j < FF.length) (h' : j < (markFF k FF).length) : (markFF k FF)[j] = markF (endFF k (FF.take j)) FF[j] := by
  have hp : ∀ (xs ys : List (List LFact)) (k : Int), ∃ zs, markFF k (xs ++ ys) = markFF k xs ++ zs := by
    intro xs
    induction xs with
    | nil => intro ys k; exact ⟨_, rfl⟩
    | cons x xs ih =>
      intro ys k
      obtain ⟨zs, hz⟩ := ih ys (endF k x)
      exact ⟨zs, by simp [markFF, hz]⟩
  have e : FF = FF.take (j + 1) ++ FF.drop (j + 1) := (List.take_append_drop _ _).symm
  have hl : (markFF k (FF.take j)).length = j := by rw [markFF_length]; simp; omega
  obtain ⟨zs, hz⟩ := hp (FF.take (j + 1)) (FF.drop (j + 1)) k
  rw [← e, take_snoc FF j h, markFF_snoc] at hz
  have : (markFF k FF)[j]? = some (markF (endFF k (FF.take j)) FF[j]) := by
    rw [hz, List.append_assoc, List.getElem?_append_right (by omega), hl]
    simp
  rw [List.getElem?_eq_getElem h'] at this
  exact Option.some.inj this
def markedFF (FF : List (List LFact)) (k : Int) (j : Nat) : List (List LFact) := markFF k (FF.take j) ++ FF.drop j
theorem markedFF_step {FF : List (List LFact)} {k : Int} {j : Nat} (h : j < FF.length) : (markedFF FF k j).set j (markF (endFF k (FF.take j)) FF[j]) = markedFF FF k (j + 1) := by
  have hl : (markFF k (FF.take j)).length = j := by rw [markFF_length]; simp; omega
  unfold markedFF
  rw [List.drop_eq_getElem_cons h, List.set_append_right _ _ (by omega), hl, Nat.sub_self, List.set_cons_zero, take_snoc FF j h, markFF_snoc]
  simp
theorem markedFF_at {FF : List (List LFact)} {k : Int} {j : Nat} (h : j < FF.length) (h' : j < (markedFF FF k j).length) : (markedFF FF k j)[j] = FF[j] := by
  have hl : (markFF k (FF.take j)).length = j := by rw [markFF_length]; simp; omega
  have e : (markedFF FF k j)[j]? = some FF[j] := by
    unfold markedFF
    rw [List.getElem?_append_right (by omega), hl]
    simp [h]
  rw [List.getElem?_eq_getElem h'] at e
  exact Option.some.inj e
theorem markedFF_length {FF : List (List LFact)} {k : Int} {j : Nat} (h : j ≤ FF.length) : (markedFF FF k j).length = FF.length := by simp [markedFF, markFF_length]; omega
theorem endFF_bounds : ∀ (FF : List (List LFact)) (k : Int), k ≤ endFF k FF ∧ endFF k FF ≤ k + totFF FF
  | [], k => by simp [endFF, totFF]
  | F :: FF, k => by
    have h := endFF_bounds FF (endF k F)
    have h1 : k ≤ endF k F ∧ endF k F ≤ k + szF F := by unfold endF szF; omega
    have e : endFF k (F :: FF) = endFF (endF k F) FF := rfl
    have e2 : totFF (F :: FF) = szF F + totFF FF := by simp [totFF]
    rw [e, e2]
    omega
theorem totFF_take : ∀ (FF : List (List LFact)) (k : Nat), totFF (FF.take k) ≤ totFF FF
  | [], k => by simp
  | x :: FF, 0 => by simp [totFF]
  | x :: FF, k + 1 => by
    have := totFF_take FF k
    simp only [totFF, List.take_succ_cons, List.map_cons, List.sum_cons] at this ⊢
    omega

/-- The marks from k on stand in a row of lists of facts, and end at z. -/
def HdFF (w : World) (lo hi : Nat) (v : Value) (FF : List (List LFact)) (k z : Int) : Prop := OwnFF w lo hi v (markFF k FF) ∧ z = endFF k FF ∧ 0 ≤ k ∧ k ≤ 2147483648 ∧ szFF FF ≤ 1073741824
theorem HdFF.below {w w' : World} {lo hi B : Nat} {v : Value} {FF : List (List LFact)} {k z : Int} (h : HdFF w lo hi v FF k z) (hb : Below B w w') (hB : hi ≤ B) : HdFF w' lo hi v FF k z := ⟨h.1.below hb hB, h.2⟩

set_option maxHeartbeats 1000000 in
set_option maxRecDepth 100000 in
theorem eqFactSS_any (va vb : Value) (lo hi lo2 hi2 : Nat) (xs ys : List (List LFact)) (w : World) (ha : OwnFF w lo hi va xs) (hb : OwnFF w lo2 hi2 vb ys) (hxy : xs = ys) (h1 : szFF xs ≤ 1073741824) (h2 : ∀ F ∈ xs, szF F ≤ 1048576) :
    Calls Tryz.prog 19 #[va, vb] w fun e w' => e = .returned (.bool (decide (xs = ys))) ∧ Below w.heap.size w w' := by
  subst hxy
  rw [decide_eq_true (rfl : xs = xs)]
  unfold szFF at h1
  have H2 := Lib.hid h2
  clear h2
  obtain ⟨A, c, rfl⟩ := ha.form
  obtain ⟨A2, c2, rfl⟩ := hb.form
  obtain ⟨av, P, Q, ha⟩ := ha
  obtain ⟨bv, P2, Q2, hb⟩ := hb
  have HA := Lib.hid ha
  have HB := Lib.hid hb
  have hl1 : ((xs.length : Int) != (xs.length : Int)) = false := by simp
  have h1a := ha.own
  clear ha hb h1a
  go_enter Tryz.func19, Tryz.ntmps19
  go_wp2_with fail
  go_loopw [5] (fun i wr => ∃ k : Nat, k ≤ xs.length ∧ i = .int .i64 k ∧ Below w.heap.size w wr) (fun i _ => xs.length - (intOf i).toNat)
  case atStart => exact ⟨0, Nat.zero_le _, rfl, Below.refl _ _⟩
  case round =>
    obtain ⟨k, hk, rfl, hbe⟩ := hrel
    by_cases hlt : k < xs.length
    · obtain ⟨g, A3, c3, rfl, hg, _, k0, r0, _⟩ := HA.out.get hlt
      obtain ⟨g2, A4, c4, rfl, hg2, _, k2, r2, _⟩ := HB.out.get hlt
      have hln := H2.out _ (List.getElem_mem hlt)
      unfold szF at hln
      have M0 := later_cell ((hbe.cell (p := ⟨g, k, none⟩) hg).trans k0)
      have M1 := later_cell ((hbe.cell (p := ⟨g2, k, none⟩) hg2).trans k2)
      have q0 : RdFacts w w.heap.size (.slice A3 xs[k].length c3) xs[k] := r0.rdS
      have q2 : RdFacts w w.heap.size (.slice A4 xs[k].length c4) xs[k] := r2.rdS
      have CE := Lib.hid (fun q : Later wr => (eqFactS_any (.slice A3 xs[k].length c3) (.slice A4 xs[k].length c4) xs[k] xs[k] q.val ((q0.on hbe).on q.2) ((q2.on hbe).on q.2) (by omega) (by omega) (by omega) (by omega)))
      simp only [decide_true] at CE
      clear k0 k2 r0 r2 q0 q2
      go_wp2_with fail
      refine wp_region_later (by kernel_rfl) (by kernel_rfl) ?_
      repeat (go_big_quiet_step ((go_at_call 21; exact later_of (CE.out _))))
      refine wpQuiet_nil ?_
      rintro _ ⟨xq, rfl⟩
      go_wp2_with fail
      go_roundw
      case rel => exact ⟨k + 1, by omega, by go_num, bthen hbe xq.2⟩
      case measure => simp [intOf]; omega
    · go_wp2_with fail
      go_ret
      exact ⟨rfl, hbe⟩

set_option maxHeartbeats 1000000 in
set_option maxRecDepth 100000 in
theorem um_ff {v : Value} {FF : List (List LFact)} {lo hi : Nat} {w : World} (k : Int) (h : OwnFF w lo hi v FF) (hk0 : 0 ≤ k) (hk : k ≤ 2147483648) (hs : szFF FF ≤ 1073741824) :
    Calls Tryz.prog 24 #[v, .int .i64 k] w fun e w' => ∃ z, e = .returned (.int .i64 z) ∧ k ≤ z ∧ z ≤ k + szFF FF ∧ HdFF w' lo hi v FF k z ∧ Only lo hi w w' := by
  have HS := Lib.hid hs
  unfold szFF at hs
  obtain ⟨A, c, rfl⟩ := h.form
  obtain ⟨hv, P, Q, h⟩ := h
  have H := Lib.hid h
  have HAL := Lib.hid h.len
  clear h
  go_enter Tryz.func24, Tryz.ntmps24
  go_wp2_with fail
  go_loopw [1, 5] (fun m i wr => ∃ (j : Nat) (z : Int), j ≤ FF.length ∧ i = .int .i64 j ∧ m = .int .i64 z ∧ z = endFF k (FF.take j) ∧ FFAt wr lo hi (.slice A FF.length c) hv (markedFF FF k j) P Q ∧ Only lo hi w wr) (fun _ i _ => FF.length - (intOf i).toNat)
  case atStart =>
    have e : markedFF FF k 0 = FF := by simp [markedFF, markFF]
    exact ⟨0, k, Nat.zero_le _, rfl, rfl, by simp [endFF], by rw [e]; exact H.out, Only.refl _ _ _⟩
  case round =>
    obtain ⟨j, z, hj, rfl, rfl, hz, ho, hon⟩ := hrel
    by_cases hlt : j < FF.length
    · have hml := markedFF_length (k := k) (Nat.le_of_lt hlt)
      have hlt' : j < (markedFF FF k j).length := by omega
      have hgo := ho
      rw [← hml] at hgo
      obtain ⟨g, A2, c2, e1, _, _, hck, hoj, hne, hhv⟩ := hgo.get hlt'
      rw [markedFF_at hlt hlt'] at hck hoj hhv
      subst e1
      have hja : j < hv.length := by rw [HAL.out]; exact hlt
      have hav : hv[j] = .slice A2 FF[j].length c2 := by rw [List.getElem?_eq_getElem hja] at hhv; exact Option.some.inj hhv
      have hln := totFF_at FF j hlt
      have hlt2 := totFF_take FF j
      have hbz := endFF_bounds (FF.take j) k
      rw [← hz] at hbz
      have hown := ho.own j hlt' hja
      have HO := Lib.hid ho
      have HN := Lib.hid hon
      have CM := Lib.hid (um_facts z hoj (by omega) (by omega) (by omega))
      have HZ := Lib.hid hz
      have HAV := Lib.hid hav
      have HOW := Lib.hid (And.intro hown.1 hown.2.1)
      have hz4 : z ≤ 3221225472 := by omega
      have hz0 : 0 ≤ z := by omega
      clear ho hon hoj hz hav hml hgo hown hhv hne hbz
      go_wp2_with (go_at_call 23; refine CM.out.mono ?_; rintro e w2 ⟨z2, rfl, _, _, o2, g2⟩; have H2 := Lib.hid (And.intro o2 g2); clear o2 g2)
      have HF := Lib.hid (show FFAt w2 lo hi (.slice (some ⟨g, 0, none⟩) FF.length c) hv (markedFF FF k (j + 1)) P Q ∧ Only lo hi w w2 ∧ z2 = endFF k (FF.take (j + 1)) from by
        obtain ⟨o2, g2⟩ := H2.out
        have hs2 := HO.out.set hlt' hja (by rw [HAV.out]; exact o2.1) g2
        rw [HZ.out, markedFF_step hlt] at hs2
        refine ⟨hs2, HN.out.trans ⟨g2.os, g2.tape, g2.output, g2.size, fun b hb hx => g2.block b hb (by have := HOW.out; omega)⟩, ?_⟩
        rw [take_snoc FF j hlt, endFF_snoc, ← HZ.out]
        exact o2.2.1)
      go_roundw
      case rel => exact ⟨j + 1, _, by omega, by go_num, rfl, HF.out.2.2, HF.out.1, HF.out.2.1⟩
      case measure => simp [intOf]; omega
    · have hjn : j = FF.length := by omega
      have HF := Lib.hid (show HdFF wr lo hi (.slice A FF.length c) FF k z ∧ Only lo hi w wr ∧ k ≤ z ∧ z ≤ k + szFF FF from by
        rw [hjn, List.take_length] at hz
        rw [hjn] at ho
        have e : markedFF FF k FF.length = markFF k FF := by simp [markedFF]
        rw [e] at ho
        have hb := endFF_bounds FF k
        refine ⟨⟨⟨hv, P, Q, ?_⟩, hz, hk0, hk, HS.out⟩, hon, by omega, by unfold szFF; omega⟩
        exact ho)
      clear hjn hz ho hon
      go_wp2_with fail
      go_ret
      exact ⟨z, rfl, HF.out.2.2.1, HF.out.2.2.2, HF.out.1, HF.out.2.1⟩

set_option maxHeartbeats 1000000 in
set_option maxRecDepth 100000 in
theorem uh_ff {v : Value} {FF : List (List LFact)} {lo hi : Nat} {w : World} {k z : Int} (h : HdFF w lo hi v FF k z) :
    Calls Tryz.prog 25 #[v, .int .i64 k] w fun e w' => e = .returned (.int .i64 z) ∧ Below w.heap.size w w' := by
  obtain ⟨ho, hz, hk0, hk, hs⟩ := h
  unfold szFF at hs
  have hml := markFF_length k FF
  obtain ⟨A, c, rfl⟩ := ho.form
  obtain ⟨hv, P, Q, ho⟩ := ho
  have H := Lib.hid ho
  have HML := Lib.hid hml
  have HZ := Lib.hid hz
  rw [hml] at H ⊢
  clear ho hml hz
  go_enter Tryz.func25, Tryz.ntmps25
  go_wp2_with fail
  go_loopw [1, 5] (fun m i wr => ∃ (j : Nat) (y : Int), j ≤ FF.length ∧ i = .int .i64 j ∧ m = .int .i64 y ∧ y = endFF k (FF.take j) ∧ Below w.heap.size w wr) (fun _ i _ => FF.length - (intOf i).toNat)
  case atStart => exact ⟨0, k, Nat.zero_le _, rfl, rfl, by simp [endFF], Below.refl _ _⟩
  case round =>
    obtain ⟨j, y, hj, rfl, rfl, hy, hbe⟩ := hrel
    by_cases hlt : j < FF.length
    · have hlt' : j < (markFF k FF).length := by rw [HML.out]; exact hlt
      have hat := H.out
      rw [← HML.out] at hat
      obtain ⟨g, A2, c2, rfl, hg, _, k0, r0, _⟩ := hat.get hlt'
      rw [markFF_at hlt hlt', ← hy, markF_length] at k0
      rw [markFF_at hlt hlt', ← hy, markF_length] at r0
      have k1 := (hbe.cell (p := ⟨g, j, none⟩) hg).trans k0
      have hln := totFF_at FF j hlt
      have hlt2 := totFF_take FF j
      have hbz := endFF_bounds (FF.take j) k
      rw [← hy] at hbz
      have q0 : RdFacts w w.heap.size (.slice A2 FF[j].length c2) (markF y FF[j]) := r0.rdS
      have CM := Lib.hid (heldFactS_any (.slice A2 FF[j].length c2) FF[j] y wr (q0.on hbe) (by omega) (by omega) (by unfold szF at hln; omega) (by unfold szF at hln; omega))
      have HY := Lib.hid hy
      have HBE := Lib.hid hbe
      have hneg : decide (endF y FF[j] < 0) = false := decide_eq_false (by unfold endF; omega)
      have HE := Lib.hid (show endFF k (FF.take (j + 1)) = endF y FF[j] by rw [take_snoc FF j hlt, endFF_snoc, ← hy])
      obtain ⟨z3, hz3⟩ : ∃ z3, z3 = endF y FF[j] := ⟨_, rfl⟩
      rw [← hz3] at hneg HE CM
      have HZ3 := Lib.hid hz3
      clear r0 hat hy k0 q0 hbe hbz hz3
      go_wp2_with (go_at_call 28; refine CM.out.mono ?_; rintro e w2 ⟨rfl, rfl⟩)
      go_roundw
      case rel => exact ⟨j + 1, _, by omega, by go_num, rfl, HE.out.symm, HBE.out⟩
      case measure => simp [intOf]; omega
    · have HF := Lib.hid (show y = z by rw [HZ.out, hy, show j = FF.length by omega, List.take_length])
      clear hy
      go_wp2_with fail
      go_ret
      exact ⟨ret_int HF.out, hbe⟩

end Go.Proofs.YtigkgheddngkeaaGreatDoor
/-
  Rounds: the specification's, and bounds.
-/
namespace Go.Proofs.YtigkgheddngkeaaGreatDoor
open Go.RowKit

theorem OwnFF.only {w w' : World} {lo hi a b : Nat} {v : Value} {FF : List (List LFact)} (h : OwnFF w lo hi v FF) (ho : Only a b w w') (hd : hi ≤ a ∨ b ≤ lo) : OwnFF w' lo hi v FF := by
  obtain ⟨hv, P, Q, h⟩ := h
  refine ⟨hv, P, Q, ownsRow_only h.row fun g hg => ho.block g (h.row.lt g hg).2 (by have := h.lt g hg; have := (h.row.lt g hg).1; omega), h.lt, fun i h1 h2 => ?_, h.ord⟩
  obtain ⟨g1, g2, g3, g4⟩ := h.own i h1 h2
  exact ⟨g1, g2, g3.only ho (by omega), g4⟩
theorem roundsL_few (p : LProg) (fs : List LFact) : szFF (roundsL p fs) ≤ 1073741824 ∧ ∀ F ∈ roundsL p fs, szF F ≤ 1048576 := by
  have hF : ∀ F ∈ roundsL p fs, szF F ≤ 4608 := fun F hF => by
    unfold roundsL at hF
    cases h : lokB p fs
    · rw [h] at hF
      simp at hF
    · obtain ⟨h1, h2, h3, _⟩ := lok_parts h
      rw [h] at hF
      simp only [if_true, roundsFrom, List.mem_map] at hF
      obtain ⟨k, _, rfl⟩ := hF
      have := iter_few h1 h2 (FitL.set h3) k
      unfold szF
      omega
  have hn : (roundsL p fs).length ≤ 2001 := by
    unfold roundsL
    split
    · have h4 : roundsM p.2 (setOf fs) ≤ 2000 := firstM_le p.2 (setOf fs) 2000 0
      simp [roundsFrom]
      omega
    · simp
  have := totFF_few hn hF
  exact ⟨by unfold szFF; omega, fun F h => by have := hF F h; omega⟩

set_option maxHeartbeats 2000000 in
set_option maxRecDepth 100000 in
theorem specRounds_any (v v2 : Value) (p : LProg) (fs : List LFact) (w : World) (h : RdProg w w.heap.size v p) (h2 : RdFacts w w.heap.size v2 fs) (hs : szP p ≤ 1048576) (hn : fs.length ≤ 1048576) (ht : tot fs ≤ 1048576) :
    Calls Tryz.prog 15 #[v, v2] w fun e w' => ∃ A' c', e = .returned (.slice A' (roundsL p fs).length c') ∧ OwnFF w' w.heap.size w'.heap.size (.slice A' (roundsL p fs).length c') (roundsL p fs) ∧ Below w.heap.size w w' := by
  have HP := Lib.hid h
  have H2 := Lib.hid h2
  have hs' := hs
  unfold szP at hs'
  obtain ⟨a, b, rfl, hA, hR⟩ := h
  have HR := Lib.hid hR
  obtain ⟨A, c, rfl, hcA, _⟩ := hA
  obtain ⟨A2, c2, rfl, hcR, _⟩ := hR
  obtain ⟨A3, c3, rfl, hcF, _⟩ := h2
  obtain ⟨po, hpo⟩ : ∃ po, po = lokB p fs := ⟨_, rfl⟩
  obtain ⟨R, hRR⟩ : ∃ R, R = roundsL p fs := ⟨_, rfl⟩
  have HRR := Lib.hid (show R = if po then roundsFrom p.2 (setOf fs) else [] by rw [hRR, hpo]; rfl)
  rw [← hRR]
  clear hRR
  go_enter Tryz.func15, Tryz.ntmps15
  go_upto_region 1 with fail
  obtain ⟨w1, hw1⟩ : ∃ w1, w1 = w.alloc (Obj.cells #[Value.slice A p.1.length c, Value.slice A2 p.2.length c2] 33) := ⟨_, rfl⟩
  have X1 : Blk w1 w.heap.size 33 #[.slice A p.1.length c, .slice A2 p.2.length c2] := by rw [hw1]; exact Blk.new _ _ _
  have B1 : Below w.heap.size w w1 := by rw [hw1]; exact below1 _ _
  rw [← hw1]
  clear hw1
  have x0 : w1.cell? ⟨w.heap.size, 0, none⟩ = some (.slice A p.1.length c) := X1.cell 0
  have x1 : w1.cell? ⟨w.heap.size, 1, none⟩ = some (.slice A2 p.2.length c2) := X1.cell 1
  have CP := Lib.hid ((l4Ok_any _ _ p fs w1 (HP.out.on B1) (H2.out.on B1) hs hn ht).mono fun e w' (hh : e = .returned (.bool (lokB p fs)) ∧ Below w1.heap.size w1 w') => (⟨by rw [hh.1, hpo], hh.2⟩ : e = .returned (.bool po) ∧ Below w1.heap.size w1 w'))
  have HPO := Lib.hid hpo
  have HX1 := Lib.hid X1
  clear hpo X1
  cases po
  · go_wp2_with (go_at_call 57; refine CP.out.mono ?_; rintro e w2 ⟨rfl, b2⟩; have B2 := Lib.hid (bthen B1 b2); clear b2)
    go_ret
    have e : R = [] := by rw [HRR.out]; rfl
    rw [e]
    exact ⟨none, 0, rfl, OwnFF.none _ _ _, B2.out⟩
  · obtain ⟨har, hfit, hff, hrl⟩ := lok_parts HPO.out.symm
    have CA := Lib.hid (fun W (hW : Below w.heap.size w W) => l4Rounds_any p.1 har p.2 hfit (by omega) (by omega) (.slice A2 p.2.length c2) (.slice A3 fs.length c3) fs W (HR.out.on hW) (H2.out.on hW) hff hn ht)
    have HRE := Lib.hid (show R = roundsFrom p.2 (setOf fs) by rw [HRR.out]; rfl)
    rw [← HRE.out] at CA
    clear har hfit hff hrl
    go_wp2_with (first
      | (go_at_call 57; refine CP.out.mono ?_; rintro e w2 ⟨rfl, b2⟩; have B2 := Lib.hid (bthen B1 b2)
         have x21 : w2.cell? ⟨w.heap.size, 1, none⟩ = some (.slice A2 p.2.length c2) := (HX1.out.below b2 HX1.out.lt).cell 1
         clear b2)
      | (go_at_call 58; refine (CA.out _ B2.out).mono ?_; rintro e w4 ⟨A4, c4, rfl, o4, b4⟩; have B4 := Lib.hid (bthen B2.out b4)
         have O4 := Lib.hid (o4.mono B2.out.size (Nat.le_refl _))
         clear o4 b4))
    go_ret
    exact ⟨A4, c4, rfl, O4.out, B4.out⟩

end Go.Proofs.YtigkgheddngkeaaGreatDoor
/-
  The walk of the law on Rounds (written by wip/genlaw.py).
-/
namespace Go.Proofs.YtigkgheddngkeaaGreatDoor
open Go.RowKit

set_option maxHeartbeats 4000000 in
set_option maxRecDepth 100000 in
theorem lawRounds_any (v0 : Value) (v1 : Value) (p : LProg) (fs : List LFact) (w : World) (h0 : RdProg w w.heap.size v0 p) (h1 : RdFacts w w.heap.size v1 fs) (n0 : progLens p) (n1 : fs.length ≤ maxLen) (m1 : ∀ k (h : k < fs.length), fs[k].2.length ≤ maxLen) (hT : Tab w) :
    Calls Tryz.prog 3 #[v0, v1] w fun e w' => e = .returned (.bool true) ∧ Below w.heap.size w w' := by
  have HT := Lib.hid hT
  clear hT
  have H0 := Lib.hid h0
  obtain ⟨_, _, rfl, ⟨A0, c0, rfl, hc0, _⟩, ⟨A0b, c0b, rfl, hc0b, _⟩⟩ := h0
  have H1 := Lib.hid h1
  obtain ⟨A1, c1, rfl, hc1, _⟩ := h1
  go_enter Tryz.func3, Tryz.ntmps3
  go_wp2_with (fail)
  obtain ⟨w1, hw_w1⟩ : ∃ W', W' = w.alloc (Obj.cells #[Value.slice A0 p.1.length c0, Value.slice A0b p.2.length c0b] 25) := ⟨_, rfl⟩
  rw [← hw_w1]
  have B_w1 : Below w.heap.size w w1 := by rw [hw_w1]; exact below1 _ _
  have bx0 : Blk w1 (w.heap.size + 0) 25 #[.slice A0 p.1.length c0, .slice A0b p.2.length c0b] := by
    rw [hw_w1]
    have := (Blk.new w 25 #[.slice A0 p.1.length c0, .slice A0b p.2.length c0b])
    simpa using this
  have bx0_l := bx0.lt
  rw [Nat.add_zero] at bx0 bx0_l
  have s_w1 := B_w1.size
  clear hw_w1
  refine (us_prog (H0.out.on B_w1) (by omega) (by omega) n0).mono ?_
  rintro e w2 ⟨z0, rfl, hz0, hbz0⟩
  have s_w2 := hbz0.size
  have bx0_1 := bx0.below hbz0 (by first | exact bx0.lt | omega)
  clear bx0
  have bx0_1_l := bx0_1.lt
  have B_w2 := bthen B_w1 hbz0
  rcases hz0 with rfl | ⟨zp0, zs0⟩
  · go_wp2_with (fail)
    go_ret
    exact ⟨rfl, B_w2⟩
  have zn0 : ¬ z0 < 0 := by omega
  have r0 : szP p ≤ 1048576 := by omega
  have zl0 : z0 ≤ 1048576 := by omega
  have ZS0 := Lib.hid zs0
  clear zs0
  have q1 : w2.cell? ⟨w.heap.size, 0, none⟩ = some (.slice A0 p.1.length c0) := bx0_1.cell 0
  have q2 : w2.cell? ⟨w.heap.size, 1, none⟩ = some (.slice A0b p.2.length c0b) := bx0_1.cell 1
  go_wp2_with (fail)
  clear q1 q2
  refine (us_facts (H1.out.on B_w2) (by omega) (by omega) n1 m1).mono ?_
  rintro e w3 ⟨z1, rfl, hz1, hbz1⟩
  have s_w3 := hbz1.size
  have bx0_2 := bx0_1.below hbz1 (by first | exact bx0_1.lt | omega)
  clear bx0_1
  have bx0_2_l := bx0_2.lt
  have B_w3 := bthen B_w2 hbz1
  rcases hz1 with rfl | ⟨zp1, zs1⟩
  · go_wp2_with (fail)
    go_ret
    exact ⟨rfl, B_w3⟩
  have zn1 : ¬ z1 < 0 := by omega
  have r1 : szF fs ≤ 1048576 := by omega
  have zl1 : z1 ≤ 1048576 := by omega
  have ZS1 := Lib.hid zs1
  clear zs1 zn1
  have zn1 : ¬ z1 < 0 := by omega
  obtain ⟨R0, hR0⟩ : ∃ R, R = roundsL p fs := ⟨_, rfl⟩
  have HR0 := Lib.hid hR0
  have HRs0 := Lib.hid (show szFF R0 ≤ 1073741824 ∧ ∀ F ∈ R0, szF F ≤ 1048576 by rw [hR0]; exact roundsL_few p fs)
  clear hR0
  have q3 : w3.cell? ⟨w.heap.size, 0, none⟩ = some (.slice A0 p.1.length c0) := bx0_2.cell 0
  have q4 : w3.cell? ⟨w.heap.size, 1, none⟩ = some (.slice A0b p.2.length c0b) := bx0_2.cell 1
  go_wp2_with (fail)
  clear q3 q4
  refine (toProgram_own _ p _ (H0.out.on B_w3) (by omega)).mono ?_
  rintro e w4 ⟨P1, d1, P1b, d1b, rfl, o1, hb1⟩
  have s_w4 := hb1.size
  have bx0_3 := bx0_2.below hb1 (by first | exact bx0_2.lt | omega)
  clear bx0_2
  have bx0_3_l := bx0_3.lt
  have B_w4 := bthen B_w3 hb1
  have q5 : w4.cell? ⟨w.heap.size, 0, none⟩ = some (.slice A0 p.1.length c0) := bx0_3.cell 0
  have q6 : w4.cell? ⟨w.heap.size, 1, none⟩ = some (.slice A0b p.2.length c0b) := bx0_3.cell 1
  go_wp2_with (fail)
  clear q5 q6
  refine (toFactS_any _ fs _ (H1.out.on B_w4) (by unfold szF at *; omega) (by unfold szF at *; omega)).mono ?_
  rintro e w5 ⟨P2, d2, rfl, o2, hb2⟩
  have s_w5 := hb2.size
  have bx0_4 := bx0_3.below hb2 (by first | exact bx0_3.lt | omega)
  clear bx0_3
  have bx0_4_l := bx0_4.lt
  have tw0_4 := o1.below hb2 (by omega)
  clear o1
  have B_w5 := bthen B_w4 hb2
  have q7 : w5.cell? ⟨w.heap.size, 0, none⟩ = some (.slice A0 p.1.length c0) := bx0_4.cell 0
  have q8 : w5.cell? ⟨w.heap.size, 1, none⟩ = some (.slice A0b p.2.length c0b) := bx0_4.cell 1
  go_wp2_with (fail)
  clear q7 q8
  refine (specRounds_any _ _ p fs _ (tw0_4.rd.more (by omega)) (o2.rd.more (by omega)) (by omega) (by unfold szF at r1; omega) (by unfold szF at r1; omega)).mono ?_
  rw [← HR0.out]
  rintro e w6 ⟨Q3_0, f3_0, rfl, o3_0, hb3⟩
  have s_w6 := hb3.size
  have bx0_5 := bx0_4.below hb3 (by first | exact bx0_4.lt | omega)
  clear bx0_4
  have bx0_5_l := bx0_5.lt
  have tw0_5 := tw0_4.below hb3 (by omega)
  clear tw0_4
  have tw1_5 := o2.below hb3 (by omega)
  clear o2
  have B_w6 := bthen B_w5 hb3
  have q9 : w6.cell? ⟨w.heap.size, 0, none⟩ = some (.slice A0 p.1.length c0) := bx0_5.cell 0
  have q10 : w6.cell? ⟨w.heap.size, 1, none⟩ = some (.slice A0b p.2.length c0b) := bx0_5.cell 1
  go_wp2_with (fail)
  clear q9 q10
  refine (toProgram_own _ p _ (H0.out.on B_w6) (by omega)).mono ?_
  rintro e w7 ⟨P4, d4, P4b, d4b, rfl, o4, hb4⟩
  have s_w7 := hb4.size
  have bx0_6 := bx0_5.below hb4 (by first | exact bx0_5.lt | omega)
  clear bx0_5
  have bx0_6_l := bx0_6.lt
  have w0_6 := o3_0.below hb4 (by omega)
  clear o3_0
  have B_w7 := bthen B_w6 hb4
  have q11 : w7.cell? ⟨w.heap.size, 0, none⟩ = some (.slice A0 p.1.length c0) := bx0_6.cell 0
  have q12 : w7.cell? ⟨w.heap.size, 1, none⟩ = some (.slice A0b p.2.length c0b) := bx0_6.cell 1
  go_wp2_with (fail)
  clear q11 q12
  obtain ⟨w8, hw_w8⟩ : ∃ W', W' = w7.alloc (Obj.cells #[Value.slice P4 p.1.length d4, Value.slice P4b p.2.length d4b] 33) := ⟨_, rfl⟩
  rw [← hw_w8]
  have hb_w8 : Below w7.heap.size w7 w8 := by rw [hw_w8]; exact below1 _ _
  have bxx0_n : Blk w8 w7.heap.size 33 #[.slice P4 p.1.length d4, .slice P4b p.2.length d4b] := by rw [hw_w8]; exact Blk.new _ _ _
  have bxx0_nl := bxx0_n.lt
  clear hw_w8
  have s_w8 := hb_w8.size
  have bx0_7 := bx0_6.below hb_w8 (by first | exact bx0_6.lt | omega)
  clear bx0_6
  have bx0_7_l := bx0_7.lt
  have w0_7 := w0_6.below hb_w8 (by omega)
  clear w0_6
  have x0_7 := o4.below hb_w8 (by omega)
  clear o4
  have B_w8 := bthen B_w7 hb_w8
  refine (toFactS_any _ fs _ (H1.out.on B_w8) (by unfold szF at *; omega) (by unfold szF at *; omega)).mono ?_
  rintro e w9 ⟨P5, d5, rfl, o5, hb5⟩
  have s_w9 := hb5.size
  have bx0_8 := bx0_7.below hb5 (by first | exact bx0_7.lt | omega)
  clear bx0_7
  have bx0_8_l := bx0_8.lt
  have w0_8 := w0_7.below hb5 (by omega)
  clear w0_7
  have x0_8 := x0_7.below hb5 (by omega)
  clear x0_7
  have bxx0_8 := bxx0_n.below hb5 (by first | exact bxx0_n.lt | omega)
  clear bxx0_n
  have bxx0_8_l := bxx0_8.lt
  have B_w9 := bthen B_w8 hb5
  have q13 : w9.cell? ⟨w.heap.size, 0, none⟩ = some (.slice A0 p.1.length c0) := bx0_8.cell 0
  have q14 : w9.cell? ⟨w.heap.size, 1, none⟩ = some (.slice A0b p.2.length c0b) := bx0_8.cell 1
  have q15 : w9.cell? ⟨w7.heap.size, 0, none⟩ = some (.slice P4 p.1.length d4) := bxx0_8.cell 0
  have q16 : w9.cell? ⟨w7.heap.size, 1, none⟩ = some (.slice P4b p.2.length d4b) := bxx0_8.cell 1
  go_wp2_with (fail)
  clear q13 q14 q15 q16
  refine (implRounds_any _ _ p fs _ (x0_8.rd.more (by omega)) (o5.rd.more (by omega)) (by omega) (by unfold szF at r1; omega) (by unfold szF at r1; omega) (HT.out.below B_w9)).mono ?_
  rw [← HR0.out]
  rintro e w10 ⟨Q6_0, f6_0, rfl, o6_0, hb6⟩
  have s_w10 := hb6.size
  have bx0_9 := bx0_8.below hb6 (by first | exact bx0_8.lt | omega)
  clear bx0_8
  have bx0_9_l := bx0_9.lt
  have w0_9 := w0_8.below hb6 (by omega)
  clear w0_8
  have x0_9 := x0_8.below hb6 (by omega)
  clear x0_8
  have bxx0_9 := bxx0_8.below hb6 (by first | exact bxx0_8.lt | omega)
  clear bxx0_8
  have bxx0_9_l := bxx0_9.lt
  have x1_9 := o5.below hb6 (by omega)
  clear o5
  have B_w10 := bthen B_w9 hb6
  have q17 : w10.cell? ⟨w.heap.size, 0, none⟩ = some (.slice A0 p.1.length c0) := bx0_9.cell 0
  have q18 : w10.cell? ⟨w.heap.size, 1, none⟩ = some (.slice A0b p.2.length c0b) := bx0_9.cell 1
  have q19 : w10.cell? ⟨w7.heap.size, 0, none⟩ = some (.slice P4 p.1.length d4) := bxx0_9.cell 0
  have q20 : w10.cell? ⟨w7.heap.size, 1, none⟩ = some (.slice P4b p.2.length d4b) := bxx0_9.cell 1
  go_wp2_with (fail)
  clear q17 q18 q19 q20
  refine (eqFactSS_any _ _ _ _ _ _ R0 R0 _ o6_0 w0_9 rfl HRs0.out.1 HRs0.out.2).mono ?_
  rintro e w11 ⟨rfl, hb7⟩
  rw [show decide (R0 = R0) = true by simp]
  have s_w11 := hb7.size
  have bx0_10 := bx0_9.below hb7 (by first | exact bx0_9.lt | omega)
  clear bx0_9
  have bx0_10_l := bx0_10.lt
  have w0_10 := w0_9.below hb7 (by omega)
  clear w0_9
  have x0_10 := x0_9.below hb7 (by omega)
  clear x0_9
  have bxx0_10 := bxx0_9.below hb7 (by first | exact bxx0_9.lt | omega)
  clear bxx0_9
  have bxx0_10_l := bxx0_10.lt
  have x1_10 := x1_9.below hb7 (by omega)
  clear x1_9
  have g0_10 := o6_0.below hb7 (by omega)
  clear o6_0
  have B_w11 := bthen B_w10 hb7
  have q21 : w11.cell? ⟨w.heap.size, 0, none⟩ = some (.slice A0 p.1.length c0) := bx0_10.cell 0
  have q22 : w11.cell? ⟨w.heap.size, 1, none⟩ = some (.slice A0b p.2.length c0b) := bx0_10.cell 1
  have q23 : w11.cell? ⟨w7.heap.size, 0, none⟩ = some (.slice P4 p.1.length d4) := bxx0_10.cell 0
  have q24 : w11.cell? ⟨w7.heap.size, 1, none⟩ = some (.slice P4b p.2.length d4b) := bxx0_10.cell 1
  go_upto_region 14 with fail
  clear q21 q22 q23 q24
  have HS_w11 := Lib.hid (show ∀ W, Below w11.heap.size w11 W → (Below w11.heap.size w11 W ∧ W.cell? ⟨w.heap.size, 0, none⟩ = some (.slice A0 p.1.length c0) ∧ W.cell? ⟨w.heap.size, 1, none⟩ = some (.slice A0b p.2.length c0b) ∧ W.cell? ⟨w7.heap.size, 0, none⟩ = some (.slice P4 p.1.length d4) ∧ W.cell? ⟨w7.heap.size, 1, none⟩ = some (.slice P4b p.2.length d4b)) from fun W hW => ⟨hW, (bx0_10.below hW bx0_10_l).cell 0, (bx0_10.below hW bx0_10_l).cell 1, (bxx0_10.below hW bxx0_10_l).cell 0, (bxx0_10.below hW bxx0_10_l).cell 1⟩)
  have RX_w11 := Lib.hid (show RdProg w11 w11.heap.size (.agg #[.slice P4 p.1.length d4, .slice P4b p.2.length d4b]) p from x0_10.rd.more (by omega))
  go_cut [44] (fun s wx => s = .bool false ∧ Below w11.heap.size w11 wx)
  case first =>
    go_region_held3 (fun W => Below w11.heap.size w11 W ∧ W.cell? ⟨w.heap.size, 0, none⟩ = some (.slice A0 p.1.length c0) ∧ W.cell? ⟨w.heap.size, 1, none⟩ = some (.slice A0b p.2.length c0b) ∧ W.cell? ⟨w7.heap.size, 0, none⟩ = some (.slice P4 p.1.length d4) ∧ W.cell? ⟨w7.heap.size, 1, none⟩ = some (.slice P4b p.2.length d4b))
      (first | exact HS_w11.out _ (Below.refl _ _) | exact HS_w11.out _ (Below.refl _ _).drew | exact HS_w11.out _ (bthen (And.left (by assumption)) (by assumption)))
      (first
        | (go_at_call 16; refine (toProgram_own _ p _ ?_ (by omega)).mono ?_; exact H0.out.on (bthen B_w11 (And.left (by assumption))); rintro e wf ⟨Af, cf, Ag, cg, rfl, hof, hbf⟩)
        | (go_at_call 20; refine (eqProgram_any _ _ p p _ ?_ ?_ (by omega) (by omega)).mono ?_; exact (RX_w11.out.on (And.left (by assumption))); exact hof.rd; rw [show decide (p = p) = true by simp]; rintro e wg ⟨rfl, hbg⟩))
    all_goals (go_wp2_with fail; go_meet; exact ⟨rfl, And.left (by assumption)⟩)
  case rest =>
    obtain ⟨rfl, hb8⟩ := hcut
    clear HS_w11 RX_w11
    generalize wc = w12 at *
    have s_w12 := hb8.size
    have bx0_11 := bx0_10.below hb8 (by first | exact bx0_10.lt | omega)
    clear bx0_10
    have bx0_11_l := bx0_11.lt
    have w0_11 := w0_10.below hb8 (by omega)
    clear w0_10
    have x0_11 := x0_10.below hb8 (by omega)
    clear x0_10
    have bxx0_11 := bxx0_10.below hb8 (by first | exact bxx0_10.lt | omega)
    clear bxx0_10
    have bxx0_11_l := bxx0_11.lt
    have x1_11 := x1_10.below hb8 (by omega)
    clear x1_10
    have g0_11 := g0_10.below hb8 (by omega)
    clear g0_10
    have B_w12 := bthen B_w11 hb8
    have q25 : w12.cell? ⟨w.heap.size, 0, none⟩ = some (.slice A0 p.1.length c0) := bx0_11.cell 0
    have q26 : w12.cell? ⟨w.heap.size, 1, none⟩ = some (.slice A0b p.2.length c0b) := bx0_11.cell 1
    have q27 : w12.cell? ⟨w7.heap.size, 0, none⟩ = some (.slice P4 p.1.length d4) := bxx0_11.cell 0
    have q28 : w12.cell? ⟨w7.heap.size, 1, none⟩ = some (.slice P4b p.2.length d4b) := bxx0_11.cell 1
    go_wp2_with (fail)
    clear q25 q26 q27 q28
    refine (toFactS_any _ fs _ (H1.out.on B_w12) (by unfold szF at *; omega) (by unfold szF at *; omega)).mono ?_
    rintro e w13 ⟨P9, d9, rfl, o9, hb9⟩
    have s_w13 := hb9.size
    have bx0_12 := bx0_11.below hb9 (by first | exact bx0_11.lt | omega)
    clear bx0_11
    have bx0_12_l := bx0_12.lt
    have w0_12 := w0_11.below hb9 (by omega)
    clear w0_11
    have x0_12 := x0_11.below hb9 (by omega)
    clear x0_11
    have bxx0_12 := bxx0_11.below hb9 (by first | exact bxx0_11.lt | omega)
    clear bxx0_11
    have bxx0_12_l := bxx0_12.lt
    have x1_12 := x1_11.below hb9 (by omega)
    clear x1_11
    have g0_12 := g0_11.below hb9 (by omega)
    clear g0_11
    have B_w13 := bthen B_w12 hb9
    have q29 : w13.cell? ⟨w.heap.size, 0, none⟩ = some (.slice A0 p.1.length c0) := bx0_12.cell 0
    have q30 : w13.cell? ⟨w.heap.size, 1, none⟩ = some (.slice A0b p.2.length c0b) := bx0_12.cell 1
    have q31 : w13.cell? ⟨w7.heap.size, 0, none⟩ = some (.slice P4 p.1.length d4) := bxx0_12.cell 0
    have q32 : w13.cell? ⟨w7.heap.size, 1, none⟩ = some (.slice P4b p.2.length d4b) := bxx0_12.cell 1
    go_wp2_with (fail)
    clear q29 q30 q31 q32
    refine (eqFactS_any _ _ fs fs _ (x1_12.rd.more (by omega)) (o9.rd.more (by omega)) (by unfold szF at *; omega) (by unfold szF at *; omega) (by unfold szF at *; omega) (by unfold szF at *; omega)).mono ?_
    rintro e w14 ⟨rfl, hb10⟩
    rw [show decide (fs = fs) = true by simp]
    have s_w14 := hb10.size
    have bx0_13 := bx0_12.below hb10 (by first | exact bx0_12.lt | omega)
    clear bx0_12
    have bx0_13_l := bx0_13.lt
    have w0_13 := w0_12.below hb10 (by omega)
    clear w0_12
    have x0_13 := x0_12.below hb10 (by omega)
    clear x0_12
    have bxx0_13 := bxx0_12.below hb10 (by first | exact bxx0_12.lt | omega)
    clear bxx0_12
    have bxx0_13_l := bxx0_13.lt
    have x1_13 := x1_12.below hb10 (by omega)
    clear x1_12
    have g0_13 := g0_12.below hb10 (by omega)
    clear g0_12
    have B_w14 := bthen B_w13 hb10
    have q33 : w14.cell? ⟨w.heap.size, 0, none⟩ = some (.slice A0 p.1.length c0) := bx0_13.cell 0
    have q34 : w14.cell? ⟨w.heap.size, 1, none⟩ = some (.slice A0b p.2.length c0b) := bx0_13.cell 1
    have q35 : w14.cell? ⟨w7.heap.size, 0, none⟩ = some (.slice P4 p.1.length d4) := bxx0_13.cell 0
    have q36 : w14.cell? ⟨w7.heap.size, 1, none⟩ = some (.slice P4b p.2.length d4b) := bxx0_13.cell 1
    go_wp2_with (fail)
    clear q33 q34 q35 q36
    refine (um_prog 1 x0_13 (by omega) (by omega) (by omega)).mono ?_
    rintro e w15 ⟨k11, rfl, ka11, kb11, _, on11⟩
    have s_w15 := on11.size
    have bx0_14 := bx0_13.only on11 (by first | exact .inl (by omega) | exact .inr (by omega))
    clear bx0_13
    have bx0_14_l := bx0_14.lt
    have w0_14 := w0_13.only on11 (by first | exact .inl (by omega) | exact .inr (by omega))
    clear w0_13
    have bxx0_14 := bxx0_13.only on11 (by first | exact .inl (by omega) | exact .inr (by omega))
    clear bxx0_13
    have bxx0_14_l := bxx0_14.lt
    have x1_14 := x1_13.only on11 (by first | exact .inl (by omega) | exact .inr (by omega))
    clear x1_13
    have g0_14 := g0_13.only on11 (by first | exact .inl (by omega) | exact .inr (by omega))
    clear g0_13
    have B_w15 := Only.then_ B_w14 on11 (by omega)
    have q37 : w15.cell? ⟨w.heap.size, 0, none⟩ = some (.slice A0 p.1.length c0) := bx0_14.cell 0
    have q38 : w15.cell? ⟨w.heap.size, 1, none⟩ = some (.slice A0b p.2.length c0b) := bx0_14.cell 1
    have q39 : w15.cell? ⟨w7.heap.size, 0, none⟩ = some (.slice P4 p.1.length d4) := bxx0_14.cell 0
    have q40 : w15.cell? ⟨w7.heap.size, 1, none⟩ = some (.slice P4b p.2.length d4b) := bxx0_14.cell 1
    go_wp2_with (fail)
    clear q37 q38 q39 q40
    refine (um_facts k11 x1_14 (by omega) (by omega) (by omega)).mono ?_
    rintro e w16 ⟨k12, rfl, ka12, kb12, _, on12⟩
    have s_w16 := on12.size
    have bx0_15 := bx0_14.only on12 (by first | exact .inl (by omega) | exact .inr (by omega))
    clear bx0_14
    have bx0_15_l := bx0_15.lt
    have w0_15 := w0_14.only on12 (by first | exact .inl (by omega) | exact .inr (by omega))
    clear w0_14
    have bxx0_15 := bxx0_14.only on12 (by first | exact .inl (by omega) | exact .inr (by omega))
    clear bxx0_14
    have bxx0_15_l := bxx0_15.lt
    have g0_15 := g0_14.only on12 (by first | exact .inl (by omega) | exact .inr (by omega))
    clear g0_14
    have B_w16 := Only.then_ B_w15 on12 (by omega)
    have kn : ¬ k12 < 0 := by omega
    have kd : decide (k12 < 0) = false := by simp; omega
    have q41 : w16.cell? ⟨w.heap.size, 0, none⟩ = some (.slice A0 p.1.length c0) := bx0_15.cell 0
    have q42 : w16.cell? ⟨w.heap.size, 1, none⟩ = some (.slice A0b p.2.length c0b) := bx0_15.cell 1
    have q43 : w16.cell? ⟨w7.heap.size, 0, none⟩ = some (.slice P4 p.1.length d4) := bxx0_15.cell 0
    have q44 : w16.cell? ⟨w7.heap.size, 1, none⟩ = some (.slice P4b p.2.length d4b) := bxx0_15.cell 1
    go_wp2_with (fail)
    clear q41 q42 q43 q44
    refine (eqFactSS_any _ _ _ _ _ _ R0 R0 _ g0_15 w0_15 rfl HRs0.out.1 HRs0.out.2).mono ?_
    rintro e w17 ⟨rfl, hb13⟩
    rw [show decide (R0 = R0) = true by simp]
    have s_w17 := hb13.size
    have bx0_16 := bx0_15.below hb13 (by first | exact bx0_15.lt | omega)
    clear bx0_15
    have bx0_16_l := bx0_16.lt
    have w0_16 := w0_15.below hb13 (by omega)
    clear w0_15
    have bxx0_16 := bxx0_15.below hb13 (by first | exact bxx0_15.lt | omega)
    clear bxx0_15
    have bxx0_16_l := bxx0_16.lt
    have g0_16 := g0_15.below hb13 (by omega)
    clear g0_15
    have B_w17 := bthen B_w16 hb13
    have q45 : w17.cell? ⟨w.heap.size, 0, none⟩ = some (.slice A0 p.1.length c0) := bx0_16.cell 0
    have q46 : w17.cell? ⟨w.heap.size, 1, none⟩ = some (.slice A0b p.2.length c0b) := bx0_16.cell 1
    have q47 : w17.cell? ⟨w7.heap.size, 0, none⟩ = some (.slice P4 p.1.length d4) := bxx0_16.cell 0
    have q48 : w17.cell? ⟨w7.heap.size, 1, none⟩ = some (.slice P4b p.2.length d4b) := bxx0_16.cell 1
    go_wp2_with (fail)
    clear q45 q46 q47 q48
    refine (um_ff 1 g0_16 (by omega) (by omega) HRs0.out.1).mono ?_
    rintro e w18 ⟨m14, rfl, ma14, mb14, hd14, on14⟩
    have mb14' := HRs0.out
    have s_w18 := on14.size
    have bx0_17 := bx0_16.only on14 (by first | exact .inl (by omega) | exact .inr (by omega))
    clear bx0_16
    have bx0_17_l := bx0_17.lt
    have w0_17 := w0_16.only on14 (by first | exact .inl (by omega) | exact .inr (by omega))
    clear w0_16
    have bxx0_17 := bxx0_16.only on14 (by first | exact .inl (by omega) | exact .inr (by omega))
    clear bxx0_16
    have bxx0_17_l := bxx0_17.lt
    have B_w18 := Only.then_ B_w17 on14 (by omega)
    have mn : ¬ m14 < 0 := by omega
    have me : (m14 != m14) = false := by simp
    have q49 : w18.cell? ⟨w.heap.size, 0, none⟩ = some (.slice A0 p.1.length c0) := bx0_17.cell 0
    have q50 : w18.cell? ⟨w.heap.size, 1, none⟩ = some (.slice A0b p.2.length c0b) := bx0_17.cell 1
    have q51 : w18.cell? ⟨w7.heap.size, 0, none⟩ = some (.slice P4 p.1.length d4) := bxx0_17.cell 0
    have q52 : w18.cell? ⟨w7.heap.size, 1, none⟩ = some (.slice P4b p.2.length d4b) := bxx0_17.cell 1
    go_wp2_with (fail)
    clear q49 q50 q51 q52
    refine (uh_ff hd14).mono ?_
    rintro e w19 ⟨rfl, hb15⟩
    have s_w19 := hb15.size
    have bx0_18 := bx0_17.below hb15 (by first | exact bx0_17.lt | omega)
    clear bx0_17
    have bx0_18_l := bx0_18.lt
    have w0_18 := w0_17.below hb15 (by omega)
    clear w0_17
    have bxx0_18 := bxx0_17.below hb15 (by first | exact bxx0_17.lt | omega)
    clear bxx0_17
    have bxx0_18_l := bxx0_18.lt
    have d0_18 := hd14.below hb15 (by omega)
    clear hd14
    have B_w19 := bthen B_w18 hb15
    have q53 : w19.cell? ⟨w.heap.size, 0, none⟩ = some (.slice A0 p.1.length c0) := bx0_18.cell 0
    have q54 : w19.cell? ⟨w.heap.size, 1, none⟩ = some (.slice A0b p.2.length c0b) := bx0_18.cell 1
    have q55 : w19.cell? ⟨w7.heap.size, 0, none⟩ = some (.slice P4 p.1.length d4) := bxx0_18.cell 0
    have q56 : w19.cell? ⟨w7.heap.size, 1, none⟩ = some (.slice P4b p.2.length d4b) := bxx0_18.cell 1
    go_wp2_with (fail)
    clear q53 q54 q55 q56
    refine (toProgram_own _ p _ (H0.out.on B_w19) (by omega)).mono ?_
    rintro e w20 ⟨P16, d16, P16b, d16b, rfl, o16, hb16⟩
    have s_w20 := hb16.size
    have bx0_19 := bx0_18.below hb16 (by first | exact bx0_18.lt | omega)
    clear bx0_18
    have bx0_19_l := bx0_19.lt
    have w0_19 := w0_18.below hb16 (by omega)
    clear w0_18
    have bxx0_19 := bxx0_18.below hb16 (by first | exact bxx0_18.lt | omega)
    clear bxx0_18
    have bxx0_19_l := bxx0_19.lt
    have d0_19 := d0_18.below hb16 (by omega)
    clear d0_18
    have B_w20 := bthen B_w19 hb16
    have q57 : w20.cell? ⟨w.heap.size, 0, none⟩ = some (.slice A0 p.1.length c0) := bx0_19.cell 0
    have q58 : w20.cell? ⟨w.heap.size, 1, none⟩ = some (.slice A0b p.2.length c0b) := bx0_19.cell 1
    have q59 : w20.cell? ⟨w7.heap.size, 0, none⟩ = some (.slice P4 p.1.length d4) := bxx0_19.cell 0
    have q60 : w20.cell? ⟨w7.heap.size, 1, none⟩ = some (.slice P4b p.2.length d4b) := bxx0_19.cell 1
    go_wp2_with (fail)
    clear q57 q58 q59 q60
    refine (toFactS_any _ fs _ (H1.out.on B_w20) (by unfold szF at *; omega) (by unfold szF at *; omega)).mono ?_
    rintro e w21 ⟨P17, d17, rfl, o17, hb17⟩
    have s_w21 := hb17.size
    have bx0_20 := bx0_19.below hb17 (by first | exact bx0_19.lt | omega)
    clear bx0_19
    have bx0_20_l := bx0_20.lt
    have w0_20 := w0_19.below hb17 (by omega)
    clear w0_19
    have bxx0_20 := bxx0_19.below hb17 (by first | exact bxx0_19.lt | omega)
    clear bxx0_19
    have bxx0_20_l := bxx0_20.lt
    have d0_20 := d0_19.below hb17 (by omega)
    clear d0_19
    have th0_20 := o16.below hb17 (by omega)
    clear o16
    have B_w21 := bthen B_w20 hb17
    have q61 : w21.cell? ⟨w.heap.size, 0, none⟩ = some (.slice A0 p.1.length c0) := bx0_20.cell 0
    have q62 : w21.cell? ⟨w.heap.size, 1, none⟩ = some (.slice A0b p.2.length c0b) := bx0_20.cell 1
    have q63 : w21.cell? ⟨w7.heap.size, 0, none⟩ = some (.slice P4 p.1.length d4) := bxx0_20.cell 0
    have q64 : w21.cell? ⟨w7.heap.size, 1, none⟩ = some (.slice P4b p.2.length d4b) := bxx0_20.cell 1
    go_wp2_with (fail)
    clear q61 q62 q63 q64
    refine (implRounds_any _ _ p fs _ (th0_20.rd.more (by omega)) (o17.rd.more (by omega)) (by omega) (by unfold szF at r1; omega) (by unfold szF at r1; omega) (HT.out.below B_w21)).mono ?_
    rw [← HR0.out]
    rintro e w22 ⟨Q18_0, f18_0, rfl, o18_0, hb18⟩
    have s_w22 := hb18.size
    have bx0_21 := bx0_20.below hb18 (by first | exact bx0_20.lt | omega)
    clear bx0_20
    have bx0_21_l := bx0_21.lt
    have w0_21 := w0_20.below hb18 (by omega)
    clear w0_20
    have bxx0_21 := bxx0_20.below hb18 (by first | exact bxx0_20.lt | omega)
    clear bxx0_20
    have bxx0_21_l := bxx0_21.lt
    have d0_21 := d0_20.below hb18 (by omega)
    clear d0_20
    have th0_21 := th0_20.below hb18 (by omega)
    clear th0_20
    have th1_21 := o17.below hb18 (by omega)
    clear o17
    have B_w22 := bthen B_w21 hb18
    have q65 : w22.cell? ⟨w.heap.size, 0, none⟩ = some (.slice A0 p.1.length c0) := bx0_21.cell 0
    have q66 : w22.cell? ⟨w.heap.size, 1, none⟩ = some (.slice A0b p.2.length c0b) := bx0_21.cell 1
    have q67 : w22.cell? ⟨w7.heap.size, 0, none⟩ = some (.slice P4 p.1.length d4) := bxx0_21.cell 0
    have q68 : w22.cell? ⟨w7.heap.size, 1, none⟩ = some (.slice P4b p.2.length d4b) := bxx0_21.cell 1
    go_wp2_with (fail)
    clear q65 q66 q67 q68
    refine (eqFactSS_any _ _ _ _ _ _ R0 R0 _ o18_0 w0_21 rfl HRs0.out.1 HRs0.out.2).mono ?_
    rintro e w23 ⟨rfl, hb19⟩
    rw [show decide (R0 = R0) = true by simp]
    have s_w23 := hb19.size
    have bx0_22 := bx0_21.below hb19 (by first | exact bx0_21.lt | omega)
    clear bx0_21
    have bx0_22_l := bx0_22.lt
    have w0_22 := w0_21.below hb19 (by omega)
    clear w0_21
    have bxx0_22 := bxx0_21.below hb19 (by first | exact bxx0_21.lt | omega)
    clear bxx0_21
    have bxx0_22_l := bxx0_22.lt
    have d0_22 := d0_21.below hb19 (by omega)
    clear d0_21
    have h0_22 := o18_0.below hb19 (by omega)
    clear o18_0
    have B_w23 := bthen B_w22 hb19
    have q69 : w23.cell? ⟨w.heap.size, 0, none⟩ = some (.slice A0 p.1.length c0) := bx0_22.cell 0
    have q70 : w23.cell? ⟨w.heap.size, 1, none⟩ = some (.slice A0b p.2.length c0b) := bx0_22.cell 1
    have q71 : w23.cell? ⟨w7.heap.size, 0, none⟩ = some (.slice P4 p.1.length d4) := bxx0_22.cell 0
    have q72 : w23.cell? ⟨w7.heap.size, 1, none⟩ = some (.slice P4b p.2.length d4b) := bxx0_22.cell 1
    go_wp2_with (fail)
    clear q69 q70 q71 q72
    refine (uh_ff d0_22).mono ?_
    rintro e w24 ⟨rfl, hb20⟩
    have s_w24 := hb20.size
    have bx0_23 := bx0_22.below hb20 (by first | exact bx0_22.lt | omega)
    clear bx0_22
    have bx0_23_l := bx0_23.lt
    have w0_23 := w0_22.below hb20 (by omega)
    clear w0_22
    have bxx0_23 := bxx0_22.below hb20 (by first | exact bxx0_22.lt | omega)
    clear bxx0_22
    have bxx0_23_l := bxx0_23.lt
    have d0_23 := d0_22.below hb20 (by omega)
    clear d0_22
    have h0_23 := h0_22.below hb20 (by omega)
    clear h0_22
    have B_w24 := bthen B_w23 hb20
    have q73 : w24.cell? ⟨w.heap.size, 0, none⟩ = some (.slice A0 p.1.length c0) := bx0_23.cell 0
    have q74 : w24.cell? ⟨w.heap.size, 1, none⟩ = some (.slice A0b p.2.length c0b) := bx0_23.cell 1
    have q75 : w24.cell? ⟨w7.heap.size, 0, none⟩ = some (.slice P4 p.1.length d4) := bxx0_23.cell 0
    have q76 : w24.cell? ⟨w7.heap.size, 1, none⟩ = some (.slice P4b p.2.length d4b) := bxx0_23.cell 1
    go_wp2_with (fail)
    clear q73 q74 q75 q76
    go_ret
    exact ⟨rfl, B_w24⟩

theorem lawRounds_in (v0 : Value) (v1 : Value) (p : LProg) (fs : List LFact) (w : World) (h0 : InProg w v0 p) (h1 : InFacts w v1 fs) (hT : Tab w) : Calls Tryz.prog 3 #[v0, v1] w fun e w' => e = .returned (.bool true) ∧ Below w.heap.size w w' :=
  lawRounds_any v0 v1 p fs w h0.1 h1.1 (progLens_in h0.2) h1.2.1 h1.2.2 hT

end Go.Proofs.YtigkgheddngkeaaGreatDoor
/-
  The law FnExactRounds: for every input the call returns true, and each argument reads behind it as it read before. Conditions: none but the row's own.
-/
namespace Go.Proofs.YtigkgheddngkeaaGreatDoor
open Go.ChangeShapes Go.WideShapes Go.ChangeAt Go.RowKit

set_option maxRecDepth 100000 in
theorem fnExactRounds_lifted (os : Os) (started : os.Started) (H : Type) (enc : TypeId × Value → H) :
    ReturnsInHanded {} Tryz.checked os 3 .any (fun w args => (Rows.fnExactRoundsSpec.pre enc Tryz.prog Tryz.f3 [] false w args ∧ laidMetH Tryz.prog laidTabs1 w) ∧ sizedMet enc Tryz.prog Tryz.f3 (OpenSpec.ofChange Rows.fnExactRoundsSpec) false w args) (Rows.fnExactRoundsSpec.post enc Tryz.prog Tryz.f3 false true false false) := by
  refine returnsInHanded_of_change_and (C := Tryz.checked) (X := fun w _ => laidMetH Tryz.prog laidTabs1 w) (fun _ _ _ hh h => h.of_heap hh) Tryz.own started (by kernel_rfl) Tryz.func3
    (ChangeSpec.witness_shaped (enc := enc) (C := Tryz.checked) (os := os) (X := fun w _ => laidMetH Tryz.prog laidTabs1 w) false (World.laidAll Tryz.prog os laidTabs1) #[.agg #[.slice none 0 0, .slice none 0 0], .slice none 0 0] 8 (World.laidAll_os _ _ _)
      (World.shaped_of_ZipB (by kernel_rfl) (by kernel_rfl)) (by kernel_rfl) (by kernel_rfl) (by kernel_rfl)
      (by rw [MakeChecks.laidMetH_plain _ _ _ (by kernel_rfl)]; exact laidMet_laidAll _ (by kernel_rfl) (by kernel_rfl))) ?_
  intro W base args ds gs before hval0 hW _ _ hL _
  have hval : ∀ (j : Nat) t v, Tryz.f3.params[j]? = some t → args[j]? = some v → Value.okWide Tryz.prog W .any base t v := hval0
  have hW' := hW
  obtain ⟨p, q, hA0, hV, rfl, hfz, hnd⟩ := hW
  have hA : DataW.TrodAll enc Tryz.prog W 0 (fun _ => true) true Tryz.f3.params.toList args.toList ds p := hA0
  rw [Tryz.params3] at hA hval
  obtain ⟨v0, vs0, d0, ds0, p0, q0, hargs, rfl, rfl, h0, r0⟩ := trodAll_cons hA
  obtain ⟨v1, vs1, d1, ds1, p1, q1, rfl, rfl, rfl, h1, r1⟩ := trodAll_cons r0
  obtain ⟨rfl, rfl, rfl⟩ := trodAll_nil r1
  obtain rfl : args = #[v0, v1] := by cases args; simp_all
  obtain ⟨rfl, rfl⟩ := trodVars_none hV
  have lt0 : ∀ x ∈ p0, x.block < W.heap.size := by obtain ⟨m, hm⟩ := h0; exact DataW.trod_lt m _ _ _ hm
  obtain ⟨x0, w0⟩ := open_inProg (hval 0 25 v0 rfl rfl) h0
  have lt1 : ∀ x ∈ p1, x.block < W.heap.size := by obtain ⟨m, hm⟩ := h1; exact DataW.trod_lt m _ _ _ hm
  obtain ⟨x1, w1⟩ := open_inFacts (hval 1 26 v1 rfl rfl) h1
  clear hA0 hval0
  refine (lawRounds_in v0 v1 x0 x1 W w0 w1 (tab_of_laid1 hL)).mono fun e W' ⟨he, bel⟩ => ?_
  subst he
  exact ⟨_, rfl, _, _, _, [], _, [], hW', trodAll_mk1 (shut_bool Tryz.underlying4 _), (trodAll_cons_mk (Below.trod Tryz.laidOut (by kernel_rfl) (of_decide_eq_true (by kernel_rfl)) h0 bel lt0) (trodAll_cons_mk (Below.trod Tryz.laidOut (by kernel_rfl) (of_decide_eq_true (by kernel_rfl)) h1 bel lt1) trodAll_mk0)), rfl, bel.frame _, fun h => by cases h⟩

end Go.Proofs.YtigkgheddngkeaaGreatDoor
/-
  The law FnExactRounds: for every input the call returns true, and each argument reads behind it as it read before. Conditions: none but the row's own.
-/
namespace Go.Proofs.YtigkgheddngkeaaGreatDoor
open Go.ChangeShapes Go.WideShapes Go.ChangeAt Go.RowKit

theorem fnExactRounds_holds : Rows.FnExactRoundsSaid :=
  OpenClaim.holds_of_wide 3 Tryz.f3 rfl rfl rfl rfl rfl rfl rfl ⟨rfl, rfl, rfl, rfl, rfl⟩ rfl rfl rfl rfl rfl (by kernel_rfl) Tryz.func3 fnExactRounds_joined
    (of_decide_eq_true (by kernel_rfl)) (by unfold Func.isWrapper; rw [if_neg (of_decide_eq_false (by kernel_rfl))]; exact ⟨rfl, rfl⟩)
    (fun os started H enc _ => fnExactRounds_lifted os started H enc)

end Go.Proofs.YtigkgheddngkeaaGreatDoor
namespace Go.Proofs.YtigkgheddngkeaaGreatDoor
open Go.ChangeShapes Go.WideShapes Go.ChangeAt Go.RowKit

theorem fnExactRoundsCard_holds : Rows.FnExactRoundsCardSaid :=
  Claim7.holds_tied_plain_at .later [] [.data] true (true, "26d588f6e5e7a8d4dd45fe0a2b21d48168ac96876178b7f3b2e10b1419b1564b") false fnExactRounds_holds (fun _ h => by cases h) (by kernel_rfl) (fun _ h => by cases h) fnExactRounds_row_tie rfl ⟨rfl, rfl⟩ jf_main rfl
    (fun f fn hf hfn => by
      obtain rfl : f = 3 := Option.some.inj ((show Tryz.prog.funcNamed "loop.example/wholerules/laws.FnExactRounds" = some 3 by kernel_rfl).symm.trans hf) |>.symm
      obtain rfl : fn = Tryz.f3 := (Option.some.inj (Tryz.func3.symm.trans hfn)).symm
      exact ⟨jf_looks, fun j t ht => by
        rw [Tryz.params3] at ht
        have hm : t ∈ [25, 26] := by simpa using Array.mem_of_getElem? ht
        have hall : ([25, 26].all fun u => !Tryz.prog.wantsStandIn u) = true := by kernel_rfl
        exact (show Tryz.prog.wantsStandIn t = false by simpa using List.all_eq_true.1 hall t hm)⟩)
    fnExactRounds_goes

end Go.Proofs.YtigkgheddngkeaaGreatDoor
