/-
  The law FnExactGroupsOf: for every input the call returns true, and each argument reads behind it as it read before. Conditions: none but the row's own.
-/
import Derived.Test.YtcoelmhlkfignaaDoorMRe4
import Derived.Test.YtcoelmhlkfignaaDoorMRe1
import Derived.Test.YtcoelmhlkfignaaDoorMRe2
import Derived.Deep.RegionHeld3
import Derived.Deep.DeepCutAuto
import Derived.Deep.RegionWith
import Derived.Test.YtcoelmhlkfignaaDoorRows
import Derived.Test.YtcoelmhlkfignaaDoorCards
import Derived.Test.YtcoelmhlkfignaaDoorTie
import Derived.Lay
import Derived.SevenTiedAt
import Derived.Test.YtcoelmhlkfignaaDoorMGo1
/-
  Rows of slices of integers as results of laws: compared, marked, held.
-/
namespace Go.Proofs.YtcoelmhlkfignaaDoor
open Go.RowKit

def totSS (xss : List (List Int)) : Nat := (xss.map List.length).sum
def szRows (xss : List (List Int)) : Nat := xss.length + totSS xss
theorem totSS_at : ∀ (xss : List (List Int)) (k : Nat) (h : k < xss.length), xss[k].length ≤ totSS xss
  | x :: xss, 0, _ => by simp [totSS]
  | x :: xss, k + 1, h => by
    have := totSS_at xss k (by simpa using h)
    simp only [totSS, List.map_cons, List.sum_cons, List.getElem_cons_succ] at this ⊢
    omega
theorem totSS_take (xss : List (List Int)) (k : Nat) (h : k < xss.length) : totSS (xss.take (k + 1)) = totSS (xss.take k) + xss[k].length := by
  unfold totSS
  rw [take_snoc xss k h, List.map_append, List.sum_append]
  simp
theorem totSS_take_le : ∀ (xss : List (List Int)) (k : Nat), totSS (xss.take k) ≤ totSS xss
  | [], k => by simp
  | x :: xss, 0 => by simp [totSS]
  | x :: xss, k + 1 => by
    have := totSS_take_le xss k
    simp only [totSS, List.take_succ_cons, List.map_cons, List.sum_cons] at this ⊢
    omega
theorem totSS_few {xss : List (List Int)} {n m : Nat} (hn : xss.length ≤ n) (hm : ∀ x ∈ xss, x.length ≤ m) : totSS xss ≤ n * m := by
  have key : ∀ (l : List (List Int)), (∀ x ∈ l, x.length ≤ m) → totSS l ≤ l.length * m := by
    intro l
    induction l with
    | nil => intro _; simp [totSS]
    | cons x l ih =>
      intro h
      have h1 := h x List.mem_cons_self
      have h2 := ih fun y hy => h y (List.mem_cons_of_mem _ hy)
      simp only [totSS, List.map_cons, List.sum_cons, List.length_cons, Nat.add_mul] at h2 ⊢
      omega
  exact Nat.le_trans (key xss hm) (Nat.mul_le_mul_right m hn)

set_option maxHeartbeats 1000000 in
set_option maxRecDepth 100000 in
theorem eqIntSS_any (va vb : Value) (xs ys : List (List Int)) (w : World) (ha : RdRows w w.heap.size va xs) (hb : RdRows w w.heap.size vb ys) (hxy : xs = ys) (h1 : szRows xs ≤ 1048576) :
    Calls Tryd.prog 17 #[va, vb] w fun e w' => e = .returned (.bool (decide (xs = ys))) ∧ Below w.heap.size w w' := by
  subst hxy
  rw [decide_eq_true (rfl : xs = xs)]
  unfold szRows at h1
  have HA := Lib.hid ha
  have HB := Lib.hid hb
  obtain ⟨A, c, rfl, hc, _⟩ := ha
  obtain ⟨A2, c2, rfl, hc2, _⟩ := hb
  have hl1 : ((xs.length : Int) != (xs.length : Int)) = false := by simp
  go_enter Tryd.func17, Tryd.ntmps17
  go_wp2_with fail
  go_loopw [5] (fun i wr => ∃ k : Nat, k ≤ xs.length ∧ i = .int .i64 k ∧ Below w.heap.size w wr) (fun i _ => xs.length - (intOf i).toNat)
  case atStart => exact ⟨0, Nat.zero_le _, rfl, Below.refl _ _⟩
  case round =>
    obtain ⟨k, hk, rfl, hbe⟩ := hrel
    by_cases hlt : k < xs.length
    · obtain ⟨b, o, A3, c3, rfl, hbB, k0, r0⟩ := (HA.out.on hbe).get hlt
      obtain ⟨b2, o2, A4, c4, rfl, hbB2, k2, r2⟩ := (HB.out.on hbe).get hlt
      have hln := totSS_at xs k hlt
      have M0 := later_cell k0
      have M1 := later_cell k2
      have CE := Lib.hid (fun q : Later wr => (eqIntS_any (.slice A3 xs[k].length c3) (.slice A4 xs[k].length c4) xs[k] xs[k] q.val (r0.on q.2) (r2.on q.2) (by omega) (by omega)))
      simp only [decide_true] at CE
      clear k0 k2 r0 r2
      go_wp2_with fail
      refine wp_region_later (by kernel_rfl) (by kernel_rfl) ?_
      repeat (go_big_quiet_step ((go_at_call 22; exact later_of (CE.out _))))
      refine wpQuiet_nil ?_
      rintro _ ⟨xq, rfl⟩
      go_wp2_with fail
      go_roundw
      case rel => exact ⟨k + 1, by omega, by go_num, bthen hbe xq.2⟩
      case measure => simp [intOf]; omega
    · go_wp2_with fail
      go_ret
      exact ⟨rfl, hbe⟩

/-- The rows that marks from k on leave. -/
def markR : Int → List (List Int) → List (List Int)
  | _, [] => []
  | k, x :: xs => seqI k x.length :: markR (k + (x.length : Int)) xs
theorem markR_length : ∀ (k : Int) (xs : List (List Int)), (markR k xs).length = xs.length
  | _, [] => rfl
  | k, x :: xs => by simp [markR, markR_length _ xs]
theorem markR_snoc : ∀ (k : Int) (xs : List (List Int)) (x : List Int), markR k (xs ++ [x]) = markR k xs ++ [seqI (k + (totSS xs : Int)) x.length]
  | k, [], x => by simp [markR, totSS]
  | k, y :: xs, x => by
    have h := markR_snoc (k + (y.length : Int)) xs x
    have e : k + (y.length : Int) + (totSS xs : Int) = k + (totSS (y :: xs) : Int) := by simp [totSS]; omega
    rw [e] at h
    simp [markR, h]
theorem markR_at {xss : List (List Int)} {k : Int} {j : Nat} (h : j < xss.length) (h' : j < (markR k xss).length) : (markR k xss)[j] = seqI (k + (totSS (xss.take j) : Int)) xss[j].length := by
  have hp : ∀ (xs ys : List (List Int)) (k : Int), ∃ zs, markR k (xs ++ ys) = markR k xs ++ zs := by
    intro xs
    induction xs with
    | nil => intro ys k; exact ⟨_, rfl⟩
    | cons x xs ih =>
      intro ys k
      obtain ⟨zs, hz⟩ := ih ys (k + (x.length : Int))
      exact ⟨zs, by simp [markR, hz]⟩
  have e : xss = xss.take (j + 1) ++ xss.drop (j + 1) := (List.take_append_drop _ _).symm
  have hl : (markR k (xss.take j)).length = j := by rw [markR_length]; simp; omega
  obtain ⟨zs, hz⟩ := hp (xss.take (j + 1)) (xss.drop (j + 1)) k
  rw [← e, take_snoc xss j h, markR_snoc] at hz
  have : (markR k xss)[j]? = some (seqI (k + (totSS (xss.take j) : Int)) xss[j].length) := by
    rw [hz, List.append_assoc, List.getElem?_append_right (by omega), hl]
    simp
  rw [List.getElem?_eq_getElem h'] at this
  exact Option.some.inj this
/-- The first j are marked. -/
def markedR (xss : List (List Int)) (k : Int) (j : Nat) : List (List Int) := markR k (xss.take j) ++ xss.drop j
theorem markedR_step {xss : List (List Int)} {k : Int} {j : Nat} (h : j < xss.length) : (markedR xss k j).set j (seqI (k + (totSS (xss.take j) : Int)) xss[j].length) = markedR xss k (j + 1) := by
  have hl : (markR k (xss.take j)).length = j := by rw [markR_length]; simp; omega
  unfold markedR
  rw [List.drop_eq_getElem_cons h, List.set_append_right _ _ (by omega), hl, Nat.sub_self, List.set_cons_zero, take_snoc xss j h, markR_snoc]
  simp
theorem markedR_at {xss : List (List Int)} {k : Int} {j : Nat} (h : j < xss.length) (h' : j < (markedR xss k j).length) : (markedR xss k j)[j] = xss[j] := by
  have hl : (markR k (xss.take j)).length = j := by rw [markR_length]; simp; omega
  have e : (markedR xss k j)[j]? = some xss[j] := by
    unfold markedR
    rw [List.getElem?_append_right (by omega), hl]
    simp [h]
  rw [List.getElem?_eq_getElem h'] at e
  exact Option.some.inj e
theorem markedR_length {xss : List (List Int)} {k : Int} {j : Nat} (h : j ≤ xss.length) : (markedR xss k j).length = xss.length := by simp [markedR, markR_length]; omega

/-- A row of slices of the call's own, the slices named. -/
structure OwnRA (w : World) (lo hi : Nat) (v : Value) (xss : List (List Int)) (av : List Value) : Prop where
  args : OwnArgs w lo hi av xss
  row : w.ownsRow lo 22 1 v xss.length av
  lt : ∀ g, v.ownBlock = some g → g < hi
theorem OwnRA.step {w w3 : World} {lo hi j : Nat} {v : Value} {xss : List (List Int)} {av : List Value} {ys : List Int} (h : OwnRA w lo hi v xss av) (hj : j < xss.length) (hja : j < av.length)
    (hI : OwnInts w3 lo hi av[j] ys) (hg : w.grownBy w3 av[j].ownBlock) : OwnRA w3 lo hi v (xss.set j ys) av := by
  obtain ⟨ha, hr, hlt⟩ := h
  have hlen := ha.len
  have hapart : ∀ i i' (hi' : i < av.length) (hi'' : i' < av.length), i ≠ i' → ∀ b, av[i].ownBlock = some b → av[i'].ownBlock ≠ some b := by
    intro i i' h1 h2 hne b hb hb'
    have hp := List.pairwise_iff_getElem.1 ha.apart
    rcases Nat.lt_or_gt_of_ne hne with hl | hl
    · exact hp i i' h1 h2 hl b hb hb'
    · exact hp i' i h2 h1 hl b hb' hb
  refine ⟨⟨by simp [hlen], fun i h1 h2 => ?_, ha.apart⟩, ?_, hlt⟩
  · by_cases e : i = j
    · subst e
      simpa using hI
    · have h0 := ha.own i (by simpa using h1) h2
      rw [List.getElem_set_ne (Ne.symm e)]
      exact h0.kept fun b hb => hg.block b (h0.lt hb).2.2 fun e2 => hapart i j h2 hja e b hb e2.symm
  · rw [List.length_set]
    exact ownsRow_only hr fun b hb => hg.block b (hr.lt b hb).2 fun e2 => rowsI_ne hr hb (ha.own j hj hja) e2.symm

/-- The marks from k on stand in a row of slices, and end at z. -/
def HdRows (w : World) (lo hi : Nat) (v : Value) (xss : List (List Int)) (k z : Int) : Prop := OwnRows w lo hi v (markR k xss) ∧ z = k + (totSS xss : Int) ∧ 0 ≤ k ∧ k ≤ 4294967296 ∧ szRows xss ≤ 1073741824
theorem HdRows.below {w w' : World} {lo hi B : Nat} {v : Value} {xss : List (List Int)} {k z : Int} (h : HdRows w lo hi v xss k z) (hb : Below B w w') (hB : hi ≤ B) : HdRows w' lo hi v xss k z := ⟨h.1.below hb hB, h.2⟩
theorem HdRows.only {w w' : World} {lo hi lo' hi' : Nat} {v : Value} {xss : List (List Int)} {k z : Int} (h : HdRows w lo hi v xss k z) (ho : Only lo' hi' w w') (hd : hi ≤ lo' ∨ hi' ≤ lo) : HdRows w' lo hi v xss k z := ⟨h.1.only ho hd, h.2⟩

set_option maxHeartbeats 1000000 in
set_option maxRecDepth 100000 in
theorem um_rows {v : Value} {xss : List (List Int)} {lo hi : Nat} {w : World} (k : Int) (h : OwnRows w lo hi v xss) (hk0 : 0 ≤ k) (hk : k ≤ 4294967296) (hs : szRows xss ≤ 1073741824) :
    Calls Tryd.prog 18 #[v, .int .i64 k] w fun e w' => ∃ z, e = .returned (.int .i64 z) ∧ k ≤ z ∧ z ≤ k + szRows xss ∧ HdRows w' lo hi v xss k z ∧ Only lo hi w w' := by
  have HS := Lib.hid hs
  unfold szRows at hs
  obtain ⟨A, c, rfl⟩ := h.form
  obtain ⟨av, h1, h2, h3⟩ := h
  have H := Lib.hid (show OwnRA w lo hi (.slice A xss.length c) xss av from ⟨h1, h2, h3⟩)
  have hal := h1.len
  have HAL := Lib.hid hal
  clear h1 h2 h3 hal
  go_enter Tryd.func18, Tryd.ntmps18
  go_wp2_with fail
  go_loopw [1, 5] (fun m i wr => ∃ (j : Nat) (z : Int), j ≤ xss.length ∧ i = .int .i64 j ∧ m = .int .i64 z ∧ z = k + (totSS (xss.take j) : Int) ∧ OwnRA wr lo hi (.slice A xss.length c) (markedR xss k j) av ∧ Only lo hi w wr) (fun _ i _ => xss.length - (intOf i).toNat)
  case atStart =>
    have e : markedR xss k 0 = xss := by simp [markedR, markR]
    exact ⟨0, k, Nat.zero_le _, rfl, rfl, by simp [totSS], by rw [e]; exact H.out, Only.refl _ _ _⟩
  case round =>
    obtain ⟨j, z, hj, rfl, rfl, hz, ho, hon⟩ := hrel
    by_cases hlt : j < xss.length
    · have hml := markedR_length (k := k) (Nat.le_of_lt hlt)
      have hja : j < av.length := by rw [HAL.out]; exact hlt
      have hoj := ho.args.own j (by omega) hja
      rw [markedR_at hlt (by omega)] at hoj
      obtain ⟨A2, c2, hav⟩ := hoj.form
      have hcell : ∃ g, A = some ⟨g, 0, none⟩ ∧ wr.cell? ⟨g, j, none⟩ = some (.slice A2 xss[j].length c2) := by
        have hcells := @World.ownsRow.cells wr lo 22 1 _ _ av ho.row
        rcases ho.row.2 with ⟨e, e0⟩ | ⟨g, cap, cur, e, _⟩
        · omega
        · injection e with e1 _ _
          refine ⟨g, e1, ?_⟩
          have := hcells (g := g) (by rw [e1]; rfl) j (av[j]'hja) (by simp [hja])
          rw [Go.WideShapes.add_plain, Nat.zero_add, hav] at this
          exact this
      obtain ⟨g, rfl, hck⟩ := hcell
      have hln := totSS_at xss j hlt
      have hlt2 := totSS_take_le xss j
      have hst := totSS_take xss j hlt
      have HO := Lib.hid ho
      have HN := Lib.hid hon
      have CM := Lib.hid (markIntS_any (.slice A2 xss[j].length c2) xss[j] z lo hi wr (hav ▸ hoj) (by omega) (by omega))
      have HZ := Lib.hid hz
      have HAV := Lib.hid hav
      have HJ := Lib.hid hoj
      have HST := Lib.hid hst
      clear ho hon hoj hz hav hml hst
      go_wp2_with (go_at_call 23; refine CM.out.mono ?_; rintro e w2 ⟨rfl, o2, g2⟩; have H2 := Lib.hid (And.intro o2 g2); clear o2 g2)
      have HF := Lib.hid (show OwnRA w2 lo hi (.slice (some ⟨g, 0, none⟩) xss.length c) (markedR xss k (j + 1)) av ∧ Only lo hi w w2 from by
        obtain ⟨o2, g2⟩ := H2.out
        have hml := markedR_length (k := k) (Nat.le_of_lt hlt)
        have hs2 := HO.out.step (by omega) hja (by rw [HAV.out]; exact o2) (by rw [HAV.out]; exact g2)
        rw [HZ.out, markedR_step hlt] at hs2
        exact ⟨hs2, HN.out.trans (Only.of_grown g2 fun b hb => by have := HJ.out.lt (g := b) (by rw [HAV.out]; exact hb); omega)⟩)
      go_roundw
      case rel => exact ⟨j + 1, _, by omega, by go_num, rfl, by rw [HST.out, HZ.out]; omega, HF.out.1, HF.out.2⟩
      case measure => simp [intOf]; omega
    · have hjn : j = xss.length := by omega
      have HF := Lib.hid (show HdRows wr lo hi (.slice A xss.length c) xss k z ∧ Only lo hi w wr ∧ k ≤ z ∧ z ≤ k + szRows xss from by
        rw [hjn, List.take_length] at hz
        rw [hjn] at ho
        have e : markedR xss k xss.length = markR k xss := by simp [markedR]
        rw [e] at ho
        exact ⟨⟨⟨av, ho.args, ho.row, ho.lt⟩, hz, hk0, hk, HS.out⟩, hon, by omega, by unfold szRows; omega⟩)
      clear hjn hz ho hon
      go_wp2_with fail
      go_ret
      exact ⟨z, rfl, HF.out.2.2.1, HF.out.2.2.2, HF.out.1, HF.out.2.1⟩

set_option maxHeartbeats 1000000 in
set_option maxRecDepth 100000 in
theorem uh_rows {v : Value} {xss : List (List Int)} {lo hi : Nat} {w : World} {k z : Int} (h : HdRows w lo hi v xss k z) (hh : hi ≤ w.heap.size) :
    Calls Tryd.prog 19 #[v, .int .i64 k] w fun e w' => e = .returned (.int .i64 z) ∧ Below w.heap.size w w' := by
  obtain ⟨ho, hz, hk0, hk, hs⟩ := h
  unfold szRows at hs
  have hml := markR_length k xss
  have H := Lib.hid (ho.rd.more hh)
  obtain ⟨A, c, rfl⟩ := ho.form
  have HML := Lib.hid hml
  have HZ := Lib.hid hz
  rw [hml] at H ⊢
  clear ho hml hz
  go_enter Tryd.func19, Tryd.ntmps19
  go_wp2_with fail
  go_loopw [1, 5] (fun m i wr => ∃ (j : Nat) (y : Int), j ≤ xss.length ∧ i = .int .i64 j ∧ m = .int .i64 y ∧ y = k + (totSS (xss.take j) : Int) ∧ wr = w) (fun _ i _ => xss.length - (intOf i).toNat)
  case atStart => exact ⟨0, k, by simp [totSS]⟩
  case round =>
    obtain ⟨j, y, hj, rfl, rfl, hy, rfl⟩ := hrel
    by_cases hlt : j < xss.length
    · have hlt' : j < (markR k xss).length := by rw [HML.out]; exact hlt
      have hat := H.out
      rw [← HML.out] at hat
      obtain ⟨b, o, A2, c2, rfl, hbB, k0, r0⟩ := hat.get hlt'
      rw [markR_at hlt hlt', seqI_length] at k0
      rw [markR_at hlt hlt', ← hy, seqI_length] at r0
      have hln := totSS_at xss j hlt
      have hlt2 := totSS_take_le xss j
      have CM := Lib.hid (heldIntS_any (.slice A2 xss[j].length c2) xss[j].length y wr r0 (by omega) (by omega))
      have HST := Lib.hid (totSS_take xss j hlt)
      have HY := Lib.hid hy
      have hneg : decide (y + (xss[j].length : Int) < 0) = false := decide_eq_false (by omega)
      clear r0 hat hy
      go_wp2_with (go_at_call 24; refine CM.out.mono ?_; rintro e w2 ⟨rfl, rfl⟩)
      go_roundw
      case rel => exact ⟨j + 1, _, by omega, by go_num, rfl, by rw [HST.out, HY.out]; omega, by first | trivial | rfl⟩
      case measure => simp [intOf]; omega
    · have HF := Lib.hid (show y = z by rw [HZ.out, hy, show j = xss.length by omega, List.take_length])
      clear hy
      go_wp2_with fail
      go_ret
      exact ⟨ret_int HF.out, Below.refl _ _⟩

end Go.Proofs.YtcoelmhlkfignaaDoor
/-
  The program's nextGroup; its words of groups.
-/
namespace Go.Proofs.YtcoelmhlkfignaaDoor
open Go.RowKit

theorem rch_lt8 {ask : Nat → Nat} {n : Nat} (hask : ∀ u x, has (ask u) x → x < n) {u v : Nat} (h : Rch ask u v) : v < n := by
  induction h with
  | one h => exact hask _ _ h
  | step _ _ ih => exact ih
/-- The program's words. -/
def gW (p : LProg) (i : Nat) : Nat := (walkF (askP p) p.1.length p.1.length).group.getD i 0
theorem wordsG_of {p : LProg} (hpo : progOk p = true) : WordsG (fwM (askT p) p.1.length) p.1.length (gW p) (reachP p) (grpP p) := by
  obtain ⟨hn, hf⟩ := asksOf_fits hpo
  obtain ⟨hi, hd, _⟩ := walk_all hn (askP_lt hf)
  have hgo := layers_groups hpo
  have hR : ∀ i, i < p.1.length → ∀ k, Rch (askP p) i k ↔ fwM (askT p) p.1.length i k = true := fun i hi2 k => by
    rw [← reach_fw hpo hi2 k]
    exact (hi.rch i k (hd i hi2)).symm
  have hlt : ∀ {u v : Nat}, Rch (askP p) u v → v < p.1.length := fun h => rch_lt8 (askP_lt hf) h
  have hgrp : ∀ i, i < p.1.length → ∀ q, has (gW p i) q ↔ q < p.1.length ∧ inG (fwM (askT p) p.1.length) i q = true := fun i hi2 q => by
    unfold gW
    rw [hi.grp i q (hd i hi2), inG_iff]
    constructor
    · rintro (rfl | ⟨h1, h2⟩)
      · exact ⟨hi2, .inl rfl⟩
      · exact ⟨hlt h1, .inr ⟨(hR q (hlt h1) i).1 h2, (hR i hi2 q).1 h1⟩⟩
    · rintro ⟨h0, h1 | ⟨h1, h2⟩⟩
      · exact .inl h1
      · exact .inr ⟨(hR i hi2 q).2 h2, (hR q h0 i).2 h1⟩
  refine ⟨trT_fw p _, hgrp, fun i hi2 q => ?_, fun i hi2 => ?_, fun g hg => ?_, ?_⟩
  · have h1 := hi.rch i q (hd i hi2)
    constructor
    · intro h
      have h2 := h1.1 h
      exact ⟨hlt h2, (hR i hi2 q).1 h2⟩
    · intro h
      exact h1.2 ((hR i hi2 q).2 h.2)
  · obtain ⟨g, hg, hgi⟩ := (hi.told i).1 (hd i hi2)
    have := (hi.own g hg).2 i hgi
    unfold gW
    rw [this]
    exact hg
  · obtain ⟨q, hq⟩ := hgo.some g hg
    exact ⟨q, hgo.mem g hg q hq, by unfold gW; exact ((hi.own g hg).2 q hq).symm⟩
  · refine List.Pairwise.imp_of_mem (fun {x y} hx _ h => ?_) hgo.apart
    obtain ⟨q, hq⟩ := hgo.some x hx
    intro e
    subst e
    exact h q hq hq
theorem gW_lt {p : LProg} (hpo : progOk p = true) {i : Nat} (hi : i < p.1.length) : gW p i < 16777216 := by
  obtain ⟨hn, _⟩ := asksOf_fits hpo
  refine Nat.lt_of_lt_of_le (Nat.lt_pow_two_of_testBit (n := 24) _ fun j hj => ?_) (by decide)
  cases e : (gW p i).testBit j
  · rfl
  · have := (((wordsG_of hpo).grp i hi j).1 e).1
    omega
theorem rW_lt {p : LProg} (hpo : progOk p = true) {i : Nat} (hi : i < p.1.length) : reachP p i < 16777216 := by
  obtain ⟨hn, _⟩ := asksOf_fits hpo
  refine Nat.lt_of_lt_of_le (Nat.lt_pow_two_of_testBit (n := 24) _ fun j hj => ?_) (by decide)
  cases e : (reachP p i).testBit j
  · rfl
  · have := (((wordsG_of hpo).rch i hi j).1 e).1
    omega

set_option maxHeartbeats 2000000 in
set_option maxRecDepth 100000 in
theorem nextGroup_any (g n told q : Nat) (Y N : List Nat) (s : GW) (Ap Ag : Option Addr) (cp cg : Nat) (w : World) (hg : GWAt w g Y N n s Ap cp Ag cg) (hn : n ≤ 24) (ht : told < 16777216) (hG : ∀ i, i < n → s.group.getD i 0 < 16777216) (hRl : ∀ i, i < n → s.reach.getD i 0 < 16777216)
    (hq : q < n) (h1 : askW (fun i => s.group.getD i 0) (fun i => s.reach.getD i 0) told q = true) (hl : ∀ i, i < q → askW (fun i => s.group.getD i 0) (fun i => s.reach.getD i 0) told i = false) :
    Calls Tryd.prog 39 #[.pointer (some ⟨g, 0, none⟩), .int .u64 (told : Int)] w fun e w' => e = .returned (.int .u64 ((s.group.getD q 0 : Nat) : Int)) ∧ w = w' := by
  have HG := Lib.hid hg
  have HGL := Lib.hid hG
  have HRL := Lib.hid hRl
  have H1 := Lib.hid h1
  have HL := Lib.hid hl
  have k48 := hg.cellN
  obtain ⟨R, hR⟩ : ∃ R, R = s.group.getD q 0 := ⟨_, rfl⟩
  have HR := Lib.hid hR
  rw [← hR]
  clear hR
  clear hg hG hRl h1 hl
  go_enter Tryd.func39, Tryd.ntmps39
  go_wp2_with (fail)
  go_loop [11] (fun i => ∃ k : Nat, k ≤ q ∧ i = .int .i64 k) (fun i => n - (intOf i).toNat)
  case atStart => exact ⟨0, Nat.zero_le _, rfl⟩
  case round =>
    obtain ⟨k, hk, rfl⟩ := hrel
    have hkn : k < n := by omega
    have hkni : (k : Int) < (n : Int) := by omega
    have hk24 : k < 24 := by omega
    have hk24i : (k : Int) < 24 := by omega
    obtain ⟨x, hx⟩ : ∃ x, x = s.group.getD k 0 := ⟨_, rfl⟩
    obtain ⟨y, hy⟩ : ∃ y, y = s.reach.getD k 0 := ⟨_, rfl⟩
    have c1 : w.cell? ⟨g, 53 + k, none⟩ = some (.int .u64 (x : Int)) := by rw [hx]; exact HG.out.cellGroup hk24
    have c2 : w.cell? ⟨g, 77 + k, none⟩ = some (.int .u64 (y : Int)) := by rw [hy]; exact HG.out.cellReach hk24
    have hxl : x < 16777216 := by rw [hx]; exact HGL.out k hkn
    have hyl : y < 16777216 := by rw [hy]; exact HRL.out k hkn
    have hb1 := and24 hxl ht
    have hb2 := andNot_less (a := y) (b := x) (by omega) (by omega)
    have hb3 := andNot_less (a := lessN y x) (b := told) (by have := less24 (b := x) hyl; omega) (by omega)
    have HA := Lib.hid (show askW (fun i => s.group.getD i 0) (fun i => s.reach.getD i 0) told k = ((x &&& told == 0) && (lessN (lessN y x) told == 0)) by unfold askW; rw [hx, hy])
    have HX := Lib.hid hx
    clear hx hy
    obtain ⟨u1, hu1⟩ : ∃ u1, u1 = (x &&& told == 0) := ⟨_, rfl⟩
    obtain ⟨u2, hu2⟩ : ∃ u2, u2 = (lessN (lessN y x) told == 0) := ⟨_, rfl⟩
    have e1 : (((x &&& told : Nat) : Int) == 0) = u1 := by rw [hu1]; rw [Bool.eq_iff_iff]; simp
    have e2 : (((lessN (lessN y x) told : Nat) : Int) == 0) = u2 := by rw [hu2]; rw [Bool.eq_iff_iff]; simp
    rw [← hu1, ← hu2] at HA
    clear hu1 hu2
    by_cases he : k = q
    · have h3 := H1.out
      rw [← he, HA.out, Bool.and_eq_true] at h3
      obtain ⟨rfl, rfl⟩ := h3
      have HE := Lib.hid (show R = x by rw [HR.out, ← he, HX.out])
      clear he
      go_wp2_with (fail)
      go_ret
      exact ⟨by rw [HE.out]; rfl, rfl⟩
    · have h3 := HL.out k (by omega)
      rw [HA.out] at h3
      have hkq : k + 1 ≤ q := by omega
      clear he
      cases u1
      · clear h3
        go_wp2_with (fail)
        go_round
        case rel => exact ⟨k + 1, hkq, by go_num⟩
        case measure => simp [intOf]; omega
      · cases u2
        · clear h3
          go_wp2_with (fail)
          go_round
          case rel => exact ⟨k + 1, hkq, by go_num⟩
          case measure => simp [intOf]; omega
        · cases h3

theorem range_filter {n : Nat} {f : Nat → Bool} (hn : n ≤ 64) (h : ∀ j, n ≤ j → f j = false) : (List.range 64).filter f = (List.range n).filter f := by
  obtain ⟨m, hm⟩ : ∃ m, 64 = n + m := ⟨64 - n, by omega⟩
  have hz : ((List.range m).map (n + ·)).filter f = [] := List.filter_eq_nil_iff.2 fun x hx => by
    obtain ⟨y, _, rfl⟩ := List.mem_map.1 hx
    rw [h _ (Nat.le_add_right _ _)]
    decide
  rw [hm, List.range_add, List.filter_append, hz, List.append_nil]
theorem bitsOf_grp {T : Nat → Nat → Bool} {n p : Nat} {G Rw : Nat → Nat} {gs : List Nat} (h : WordsG T n G Rw gs) (hn : n ≤ 24) (hp : p < n) : bitsOf (G p) = grpI T p n := by
  unfold bitsOf grpI grpN
  rw [range_filter (n := n) (by omega) fun j hj => by
    cases e : (G p).testBit j
    · rfl
    · have := ((h.grp p hp j).1 e).1
      omega]
  congr 1
  refine List.filter_congr fun j hj => ?_
  have h1 := h.grp p hp j
  have h2 := List.mem_range.1 hj
  unfold has at h1
  cases e1 : (G p).testBit j <;> cases e2 : inG T p j <;> simp_all
theorem runG_lenE {T : Nat → Nat → Bool} {n : Nat} {G Rw : Nat → Nat} {gs : List Nat} (h : WordsG T n G Rw gs) : ∀ r, r ≤ gs.length → (runG T n r).2.length = r
  | 0, _ => rfl
  | r + 1, hr => by
    obtain ⟨p, hp⟩ := pick_run h (r := r) (by omega)
    rw [runG_next hp]
    simp [runG_lenE h r (by omega)]
/-- What is told, in a word. -/
def ToldW (T : Nat → Nat → Bool) (n r told : Nat) : Prop := told < 16777216 ∧ ∀ j, has told j ↔ j < n ∧ (runG T n r).1 j = true
theorem ToldW.zero (T : Nat → Nat → Bool) (n : Nat) : ToldW T n 0 0 := ⟨by decide, fun j => ⟨fun h => by simp [has] at h, fun h => by cases h.2⟩⟩
theorem ToldW.next {T : Nat → Nat → Bool} {n r told p : Nat} {G Rw : Nat → Nat} {gs : List Nat} (h : WordsG T n G Rw gs) (ht : ToldW T n r told) (hp : pickG T n (runG T n r).1 = some p) (hg : G p < 16777216) : ToldW T n (r + 1) (told ||| G p) := by
  refine ⟨or24 ht.1 hg, fun j => ?_⟩
  rw [has_or, ht.2 j, h.grp p (pickG_some hp).1 j, runG_next hp]
  show _ ↔ j < n ∧ addG T (runG T n r).1 p j = true
  unfold addG
  rw [Bool.or_eq_true]
  constructor
  · rintro (⟨a, b⟩ | ⟨a, b⟩)
    · exact ⟨a, .inl b⟩
    · exact ⟨a, .inr b⟩
  · rintro ⟨a, b | b⟩
    · exact .inl ⟨a, b⟩
    · exact .inr ⟨a, b⟩

set_option maxHeartbeats 4000000 in
set_option maxRecDepth 100000 in
theorem implGroupsYes_any (v : Value) (p : LProg) (w : World) (hpo : progOk p = true) (h : RdProg w w.heap.size v p) (hs : szP p ≤ 1048576) (hT : Tab w) :
    Calls Tryd.prog 16 #[v] w fun e w' => ∃ A' c', e = .returned (.slice A' (groupsOfL p).length c') ∧ OwnRows w' w.heap.size w'.heap.size (.slice A' (groupsOfL p).length c') (groupsOfL p) ∧ Below w.heap.size w w' := by
  obtain ⟨i0, hi0, hz0, hz1, hzb⟩ := info_parts Tryd.infoIntS
  have HP := Lib.hid h
  have HT := Lib.hid hT
  have HPO := Lib.hid hpo
  obtain ⟨a, b, rfl, hA, hR⟩ := h
  obtain ⟨A, c, rfl, hcA, _⟩ := hA
  obtain ⟨A2, c2, rfl, hcR, _⟩ := hR
  obtain ⟨hn24, hfit⟩ := asksOf_fits hpo
  have CW0 := Lib.hid (fun W (hW : Below w.heap.size w W) => walkOf_yes _ p W hpo (HP.out.on hW) hs (HT.out.below hW))
  have HWG := Lib.hid (wordsG_of hpo)
  have HGN := Lib.hid (grp_few hpo)
  have HGW := Lib.hid (fun i hi => gW_lt hpo (i := i) hi)
  have HRW := Lib.hid (fun i hi => rW_lt hpo (i := i) hi)
  obtain ⟨F, hF⟩ : ∃ F, F = walkF (askP p) p.1.length p.1.length := ⟨_, rfl⟩
  have HGS := Lib.hid (show F.groups = grpP p by rw [hF]; rfl)
  have HFG := Lib.hid (show ∀ i, F.group.getD i 0 = gW p i from fun i => by rw [hF]; rfl)
  have HFR := Lib.hid (show ∀ i, F.reach.getD i 0 = reachP p i from fun i => by rw [hF]; rfl)
  rw [← hF] at CW0
  obtain ⟨R, hR⟩ : ∃ R, R = groupsOfL p := ⟨_, rfl⟩
  rw [← hR]
  have HR := Lib.hid (show R = groupsG (fwM (askT p) p.1.length) p.1.length by rw [hR]; unfold groupsOfL; rw [if_pos hpo])
  obtain ⟨T, hTe⟩ : ∃ T, T = fwM (askT p) p.1.length := ⟨_, rfl⟩
  rw [← hTe] at HWG HR
  obtain ⟨n, hn⟩ : ∃ n, n = p.1.length := ⟨_, rfl⟩
  have HNE := Lib.hid hn
  rw [← hn] at hcA hn24 CW0 HWG HGN HGW HRW HR ⊢
  have hfl : F.groups.length ≤ 24 := by have h2 := HGN.out; rw [← HGS.out] at h2; omega
  have hmk := fun W => run_make_rowN (P := Tryd.prog) 38 22 i0 (.slice none 0 0) Tryd.underlying38 hi0 hz0 .i64 .i64 F.groups.length F.groups.length (Nat.le_refl _) (by rw [hzb]; omega) (by omega) W
  rw [hz1] at hmk
  simp only [Value.cells, Nat.mul_one] at hmk
  obtain ⟨cs, hcs⟩ : ∃ cs, cs = madeCells #[Value.slice none 0 0] F.groups.length := ⟨_, rfl⟩
  have hcsz : cs.size = F.groups.length := by rw [hcs]; simp [madeCells]
  rw [← hcs] at hmk
  clear hn hT hpo hF hfit hR hTe hcs
  go_enter Tryd.func16, Tryd.ntmps16
  go_upto_region 1 with fail
  obtain ⟨w1, hw1⟩ : ∃ w1, w1 = w.alloc (Obj.cells #[Value.slice A n c, Value.slice A2 p.2.length c2] 31) := ⟨_, rfl⟩
  have X1 : Blk w1 w.heap.size 31 #[.slice A n c, .slice A2 p.2.length c2] := by rw [hw1]; exact Blk.new _ _ _
  have B1 : Below w.heap.size w w1 := by rw [hw1]; exact below1 _ _
  rw [← hw1]
  clear hw1
  have x0 : w1.cell? ⟨w.heap.size, 0, none⟩ = some (.slice A n c) := X1.cell 0
  have x1 : w1.cell? ⟨w.heap.size, 1, none⟩ = some (.slice A2 p.2.length c2) := X1.cell 1
  have CW := Lib.hid (CW0.out w1 B1)
  clear X1 CW0
  go_upto_region 4 with (go_at_call 31; refine CW.out.mono ?_; rintro e w2 ⟨g, Ap, cp, Ag, cg, rfl, hgg, hgw, b2⟩; have B2 := Lib.hid (bthen B1 b2); have HG2 := Lib.hid hgw; clear b2 hgw)
  clear x0 x1
  have hg2 : g < w2.heap.size := HG2.out.lt
  have k52 : w2.cell? ⟨g, 52, none⟩ = some (.slice Ag F.groups.length cg) := HG2.out.cellGroups
  go_upto_region 5 with fail
  obtain ⟨w3, hw3⟩ : ∃ w3, w3 = w2.alloc (Obj.cells cs 22) := ⟨_, rfl⟩
  have HB3 := Lib.hid (show Below w2.heap.size w2 w3 by rw [hw3]; exact below1 _ _)
  have HF0 := Lib.hid (show FillG w2.heap.size F.groups.length w3 [] [] by rw [hw3]; exact FillG.start w2 cs _ hcsz)
  rw [← hw3]
  clear hw3 hmk hg2 k52
  go_wp2_with fail
  go_loopw [6, 24] (fun t i wr => ∃ (k told : Nat) (av : List Value), k ≤ F.groups.length ∧ i = .int .i64 k ∧ t = .int .u64 (told : Int) ∧ ToldW T n k told ∧ FillG w2.heap.size F.groups.length wr ((runG T n k).2.map fun q => grpI T q n) av ∧ Below w2.heap.size w2 wr) (fun _ i _ => F.groups.length - (intOf i).toNat)
  case atStart => exact ⟨0, 0, [], Nat.zero_le _, rfl, rfl, ToldW.zero T n, HF0.out, HB3.out⟩
  case round =>
    obtain ⟨k, told, av, hk, rfl, rfl, htw, hfi, hbe⟩ := hrel
    by_cases hlt : k < F.groups.length
    · have hkg : k < (grpP p).length := by rw [← HGS.out]; exact hlt
      obtain ⟨q, hq⟩ := pick_run HWG.out hkg
      obtain ⟨hq1, hq2, hq3⟩ := pickG_some hq
      have e1 : (fun i => F.group.getD i 0) = gW p := funext HFG.out
      have e2 : (fun i => F.reach.getD i 0) = reachP p := funext HFR.out
      have haw : ∀ i, i < n → askW (fun i => F.group.getD i 0) (fun i => F.reach.getD i 0) told i = goodB T n (runG T n k).1 i := fun i hi => by
        rw [e1, e2]
        exact askW_is HWG.out (runG_cl HWG.out.tr k) htw.2 hi
      have CN := nextGroup_any g n told q _ _ F Ap Ag cp cg wr (HG2.out.on hbe) hn24 htw.1 (fun i hi => by rw [HFG.out]; exact HGW.out i hi) (fun i hi => by rw [HFR.out]; exact HRW.out i hi) hq1 (by rw [haw q hq1]; exact hq2) (fun i hi => by rw [haw i (by omega)]; exact hq3 i hi)
      rw [HFG.out] at CN
      obtain ⟨x, hx⟩ : ∃ x, x = gW p q := ⟨_, rfl⟩
      have hxl : x < 16777216 := by rw [hx]; exact HGW.out q hq1
      have htl : told < 16777216 := htw.1
      rw [← hx] at CN
      have HCN := Lib.hid CN
      have CB := Lib.hid (bitNumbers_any x (by omega) wr (HT.out.below (bthen B2.out hbe)))
      obtain ⟨X, hX⟩ : ∃ X, X = bitsOf x := ⟨_, rfl⟩
      have HXE := Lib.hid (show X = grpI T q n by rw [hX, hx]; exact bitsOf_grp HWG.out hn24 hq1)
      rw [← hX] at CB
      have HTW := Lib.hid (show ToldW T n (k + 1) (told ||| x) by rw [hx]; exact htw.next HWG.out hq (by rw [← hx]; exact hxl))
      have HRN := Lib.hid (show ((runG T n (k + 1)).2.map fun q => grpI T q n) = ((runG T n k).2.map fun q => grpI T q n) ++ [X] by rw [runG_next hq, HXE.out]; simp)
      have HLE := Lib.hid (show ((runG T n k).2.map fun q => grpI T q n).length = k by rw [List.length_map]; exact runG_lenE HWG.out k (by omega))
      have hor : bits .or .u64 (told : Int) (x : Int) = ((told ||| x : Nat) : Int) := u64_or_nat told x (by omega) (by omega)
      have HFI := Lib.hid hfi
      have HBE := Lib.hid hbe
      clear hx hX CN haw e1 e2 hq hq1 hq2 hq3 htw hfi hbe
      go_upto_region 10 with (go_at_call 39; refine HCN.out.mono ?_; rintro e w6 ⟨rfl, rfl⟩)
      go_wp2_with (go_at_call 32; refine CB.out.mono ?_; rintro e w7 ⟨A8, c8, rfl, o8, b8⟩
                   obtain ⟨⟨x7, hx7⟩, hf7⟩ := (HFI.out.on b8).free hlt
                   have HST := Lib.hid (HFI.out.step HLE.out hlt b8 o8)
                   have HB7 := Lib.hid (bthen HBE.out b8)
                   clear o8 b8)
      go_roundw
      case rel => exact ⟨k + 1, _, _, by omega, by go_num, rfl, HTW.out, by rw [HRN.out]; exact HST.out, HB7.out.setCell (Nat.le_refl _) _⟩
      case measure => simp [intOf]; omega
    · have hkn : k = F.groups.length := by omega
      have HRE := Lib.hid (show ((runG T n k).2.map fun q => grpI T q n) = R by
        rw [HR.out]
        unfold groupsG
        rw [hkn, HGS.out, run_all HWG.out HGN.out])
      have HLE := Lib.hid (show R.length = F.groups.length by rw [← HRE.out, List.length_map, hkn]; rw [HGS.out]; exact runG_lenE HWG.out _ (Nat.le_refl _))
      rw [HRE.out] at hfi
      have HD := Lib.hid (hfi.done HLE.out (by unfold maxLen; omega))
      have HBE := Lib.hid hbe
      clear hkn hfi hbe
      rw [HLE.out] at HD
      go_wp2_with fail
      go_ret
      rw [HLE.out]
      exact ⟨_, _, rfl, HD.out.mono (by have := B2.out.size; omega) (Nat.le_refl _), bthen B2.out HBE.out⟩

set_option maxHeartbeats 1000000 in
set_option maxRecDepth 100000 in
theorem implGroupsOf_any (v : Value) (p : LProg) (w : World) (h : RdProg w w.heap.size v p) (hs : szP p ≤ 1048576) (hT : Tab w) :
    Calls Tryd.prog 16 #[v] w fun e w' => ∃ A' c', e = .returned (.slice A' (groupsOfL p).length c') ∧ OwnRows w' w.heap.size w'.heap.size (.slice A' (groupsOfL p).length c') (groupsOfL p) ∧ Below w.heap.size w w' := by
  cases hpo : progOk p
  · have HP := Lib.hid h
    obtain ⟨a, b, rfl, hA, hR⟩ := h
    obtain ⟨A, c, rfl, hcA, _⟩ := hA
    obtain ⟨A2, c2, rfl, hcR, _⟩ := hR
    have HE := Lib.hid (show groupsOfL p = [] by unfold groupsOfL; rw [if_neg (by rw [hpo]; decide)])
    rw [HE.out]
    obtain ⟨n, hn⟩ : ∃ n, n = p.1.length := ⟨_, rfl⟩
    have HNE := Lib.hid hn
    rw [← hn] at hcA ⊢
    clear hn
    go_enter Tryd.func16, Tryd.ntmps16
    go_upto_region 1 with fail
    obtain ⟨w1, hw1⟩ : ∃ w1, w1 = w.alloc (Obj.cells #[Value.slice A n c, Value.slice A2 p.2.length c2] 31) := ⟨_, rfl⟩
    have X1 : Blk w1 w.heap.size 31 #[.slice A n c, .slice A2 p.2.length c2] := by rw [hw1]; exact Blk.new _ _ _
    have B1 : Below w.heap.size w w1 := by rw [hw1]; exact below1 _ _
    rw [← hw1]
    clear hw1
    have x0 : w1.cell? ⟨w.heap.size, 0, none⟩ = some (.slice A n c) := X1.cell 0
    have x1 : w1.cell? ⟨w.heap.size, 1, none⟩ = some (.slice A2 p.2.length c2) := X1.cell 1
    have CW := Lib.hid (walkOf_no _ p w1 hpo (HP.out.on B1) hs)
    rw [← HNE.out] at CW
    clear X1
    go_wp2_with (go_at_call 31; refine CW.out.mono ?_; rintro e w2 ⟨rfl, b2⟩; have B2 := Lib.hid (bthen B1 b2); clear b2)
    go_ret
    exact ⟨none, 0, rfl, ⟨[], OwnArgs.nil, World.ownsRow_nil _ _ _ _, fun g hg => by cases hg⟩, B2.out⟩
  · exact implGroupsYes_any v p w hpo h hs hT
theorem groupsOfL_sz (p : LProg) : szRows (groupsOfL p) ≤ 1048576 := by
  unfold groupsOfL
  split
  · rename_i h
    obtain ⟨hn, _⟩ := asksOf_fits h
    have h1 := runG_len (fwM (askT p) p.1.length) p.1.length p.1.length
    have h2 : (groupsG (fwM (askT p) p.1.length) p.1.length).length ≤ 24 := by unfold groupsG; rw [List.length_map]; omega
    have h3 := totSS_few h2 (m := 24) fun x hx => by
      unfold groupsG at hx
      obtain ⟨q, _, rfl⟩ := List.mem_map.1 hx
      exact Nat.le_trans (grpI_len _ q _) hn
    unfold szRows
    omega
  · simp [szRows, totSS]

end Go.Proofs.YtcoelmhlkfignaaDoor
/-
  The walk of the law on GroupsOf (written by wip/genlaw.py).
-/
namespace Go.Proofs.YtcoelmhlkfignaaDoor
open Go.RowKit

set_option maxHeartbeats 4000000 in
set_option maxRecDepth 100000 in
theorem lawGroupsOf_any (v0 : Value) (p : LProg) (w : World) (h0 : RdProg w w.heap.size v0 p) (n0 : progLens p) (hT : Tab w) :
    Calls Tryd.prog 4 #[v0] w fun e w' => e = .returned (.bool true) ∧ Below w.heap.size w w' := by
  have HT := Lib.hid hT
  clear hT
  have H0 := Lib.hid h0
  obtain ⟨_, _, rfl, ⟨A0, c0, rfl, hc0, _⟩, ⟨A0b, c0b, rfl, hc0b, _⟩⟩ := h0
  go_enter Tryd.func4, Tryd.ntmps4
  go_wp2_with (fail)
  obtain ⟨w1, hw_w1⟩ : ∃ W', W' = w.alloc (Obj.cells #[Value.slice A0 p.1.length c0, Value.slice A0b p.2.length c0b] 25) := ⟨_, rfl⟩
  rw [← hw_w1]
  have B_w1 : Below w.heap.size w w1 := by rw [hw_w1]; exact below1 _ _
  have bx0 : Blk w1 (w.heap.size + 0) 25 #[.slice A0 p.1.length c0, .slice A0b p.2.length c0b] := by
    rw [hw_w1]
    have := (Blk.new w 25 #[.slice A0 p.1.length c0, .slice A0b p.2.length c0b])
    simpa using this
  have bx0_l := bx0.lt
  rw [Nat.add_zero] at bx0 bx0_l
  have s_w1 := B_w1.size
  clear hw_w1
  refine (us_prog (H0.out.on B_w1) (by omega) (by omega) n0).mono ?_
  rintro e w2 ⟨z0, rfl, hz0, hbz0⟩
  have s_w2 := hbz0.size
  have bx0_1 := bx0.below hbz0 (by first | exact bx0.lt | omega)
  clear bx0
  have bx0_1_l := bx0_1.lt
  have B_w2 := bthen B_w1 hbz0
  rcases hz0 with rfl | ⟨zp0, zs0⟩
  · go_wp2_with (fail)
    go_ret
    exact ⟨rfl, B_w2⟩
  have zn0 : ¬ z0 < 0 := by omega
  have r0 : szP p ≤ 1048576 := by omega
  have zl0 : z0 ≤ 1048576 := by omega
  have ZS0 := Lib.hid zs0
  clear zs0 zn0
  have zn0 : ¬ z0 < 0 := by omega
  obtain ⟨R0, hR0⟩ : ∃ R, R = groupsOfL p := ⟨_, rfl⟩
  have HR0 := Lib.hid hR0
  have HRs0 := Lib.hid (show szRows R0 ≤ 1048576 by rw [hR0]; exact groupsOfL_sz p)
  have R0s := HRs0.out
  clear hR0
  have q1 : w2.cell? ⟨w.heap.size, 0, none⟩ = some (.slice A0 p.1.length c0) := bx0_1.cell 0
  have q2 : w2.cell? ⟨w.heap.size, 1, none⟩ = some (.slice A0b p.2.length c0b) := bx0_1.cell 1
  go_wp2_with (fail)
  clear q1 q2
  refine (toProgram_own _ p _ (H0.out.on B_w2) (by omega)).mono ?_
  rintro e w3 ⟨P1, d1, P1b, d1b, rfl, o1, hb1⟩
  have s_w3 := hb1.size
  have bx0_2 := bx0_1.below hb1 (by first | exact bx0_1.lt | omega)
  clear bx0_1
  have bx0_2_l := bx0_2.lt
  have B_w3 := bthen B_w2 hb1
  have q3 : w3.cell? ⟨w.heap.size, 0, none⟩ = some (.slice A0 p.1.length c0) := bx0_2.cell 0
  have q4 : w3.cell? ⟨w.heap.size, 1, none⟩ = some (.slice A0b p.2.length c0b) := bx0_2.cell 1
  go_wp2_with (fail)
  clear q3 q4
  refine (specGroupsOf_any _ p _ (o1.rd.more (by omega)) (by omega)).mono ?_
  rw [← HR0.out]
  rintro e w4 ⟨Q2_0, f2_0, rfl, o2_0, hb2⟩
  have s_w4 := hb2.size
  have bx0_3 := bx0_2.below hb2 (by first | exact bx0_2.lt | omega)
  clear bx0_2
  have bx0_3_l := bx0_3.lt
  have tw0_3 := o1.below hb2 (by omega)
  clear o1
  have B_w4 := bthen B_w3 hb2
  have q5 : w4.cell? ⟨w.heap.size, 0, none⟩ = some (.slice A0 p.1.length c0) := bx0_3.cell 0
  have q6 : w4.cell? ⟨w.heap.size, 1, none⟩ = some (.slice A0b p.2.length c0b) := bx0_3.cell 1
  go_wp2_with (fail)
  clear q5 q6
  refine (toProgram_own _ p _ (H0.out.on B_w4) (by omega)).mono ?_
  rintro e w5 ⟨P3, d3, P3b, d3b, rfl, o3, hb3⟩
  have s_w5 := hb3.size
  have bx0_4 := bx0_3.below hb3 (by first | exact bx0_3.lt | omega)
  clear bx0_3
  have bx0_4_l := bx0_4.lt
  have w0_4 := o2_0.below hb3 (by omega)
  clear o2_0
  have B_w5 := bthen B_w4 hb3
  have q7 : w5.cell? ⟨w.heap.size, 0, none⟩ = some (.slice A0 p.1.length c0) := bx0_4.cell 0
  have q8 : w5.cell? ⟨w.heap.size, 1, none⟩ = some (.slice A0b p.2.length c0b) := bx0_4.cell 1
  go_wp2_with (fail)
  clear q7 q8
  obtain ⟨w6, hw_w6⟩ : ∃ W', W' = w5.alloc (Obj.cells #[Value.slice P3 p.1.length d3, Value.slice P3b p.2.length d3b] 31) := ⟨_, rfl⟩
  rw [← hw_w6]
  have hb_w6 : Below w5.heap.size w5 w6 := by rw [hw_w6]; exact below1 _ _
  have bxx0_n : Blk w6 w5.heap.size 31 #[.slice P3 p.1.length d3, .slice P3b p.2.length d3b] := by rw [hw_w6]; exact Blk.new _ _ _
  have bxx0_nl := bxx0_n.lt
  clear hw_w6
  have s_w6 := hb_w6.size
  have bx0_5 := bx0_4.below hb_w6 (by first | exact bx0_4.lt | omega)
  clear bx0_4
  have bx0_5_l := bx0_5.lt
  have w0_5 := w0_4.below hb_w6 (by omega)
  clear w0_4
  have x0_5 := o3.below hb_w6 (by omega)
  clear o3
  have B_w6 := bthen B_w5 hb_w6
  refine (implGroupsOf_any _ p _ (x0_5.rd.more (by omega)) (by omega) (HT.out.below B_w6)).mono ?_
  rw [← HR0.out]
  rintro e w7 ⟨Q4_0, f4_0, rfl, o4_0, hb4⟩
  have s_w7 := hb4.size
  have bx0_6 := bx0_5.below hb4 (by first | exact bx0_5.lt | omega)
  clear bx0_5
  have bx0_6_l := bx0_6.lt
  have w0_6 := w0_5.below hb4 (by omega)
  clear w0_5
  have x0_6 := x0_5.below hb4 (by omega)
  clear x0_5
  have bxx0_6 := bxx0_n.below hb4 (by first | exact bxx0_n.lt | omega)
  clear bxx0_n
  have bxx0_6_l := bxx0_6.lt
  have B_w7 := bthen B_w6 hb4
  have q9 : w7.cell? ⟨w.heap.size, 0, none⟩ = some (.slice A0 p.1.length c0) := bx0_6.cell 0
  have q10 : w7.cell? ⟨w.heap.size, 1, none⟩ = some (.slice A0b p.2.length c0b) := bx0_6.cell 1
  have q11 : w7.cell? ⟨w5.heap.size, 0, none⟩ = some (.slice P3 p.1.length d3) := bxx0_6.cell 0
  have q12 : w7.cell? ⟨w5.heap.size, 1, none⟩ = some (.slice P3b p.2.length d3b) := bxx0_6.cell 1
  go_wp2_with (fail)
  clear q9 q10 q11 q12
  refine (eqIntSS_any _ _ R0 R0 _ (o4_0.rd.more (by omega)) (w0_6.rd.more (by omega)) rfl (by omega)).mono ?_
  rintro e w8 ⟨rfl, hb5⟩
  rw [show decide (R0 = R0) = true by simp]
  have s_w8 := hb5.size
  have bx0_7 := bx0_6.below hb5 (by first | exact bx0_6.lt | omega)
  clear bx0_6
  have bx0_7_l := bx0_7.lt
  have w0_7 := w0_6.below hb5 (by omega)
  clear w0_6
  have x0_7 := x0_6.below hb5 (by omega)
  clear x0_6
  have bxx0_7 := bxx0_6.below hb5 (by first | exact bxx0_6.lt | omega)
  clear bxx0_6
  have bxx0_7_l := bxx0_7.lt
  have g0_7 := o4_0.below hb5 (by omega)
  clear o4_0
  have B_w8 := bthen B_w7 hb5
  have q13 : w8.cell? ⟨w.heap.size, 0, none⟩ = some (.slice A0 p.1.length c0) := bx0_7.cell 0
  have q14 : w8.cell? ⟨w.heap.size, 1, none⟩ = some (.slice A0b p.2.length c0b) := bx0_7.cell 1
  have q15 : w8.cell? ⟨w5.heap.size, 0, none⟩ = some (.slice P3 p.1.length d3) := bxx0_7.cell 0
  have q16 : w8.cell? ⟨w5.heap.size, 1, none⟩ = some (.slice P3b p.2.length d3b) := bxx0_7.cell 1
  go_upto_region 10 with fail
  clear q13 q14 q15 q16
  have HS_w8 := Lib.hid (show ∀ W, Below w8.heap.size w8 W → (Below w8.heap.size w8 W ∧ W.cell? ⟨w.heap.size, 0, none⟩ = some (.slice A0 p.1.length c0) ∧ W.cell? ⟨w.heap.size, 1, none⟩ = some (.slice A0b p.2.length c0b) ∧ W.cell? ⟨w5.heap.size, 0, none⟩ = some (.slice P3 p.1.length d3) ∧ W.cell? ⟨w5.heap.size, 1, none⟩ = some (.slice P3b p.2.length d3b)) from fun W hW => ⟨hW, (bx0_7.below hW bx0_7_l).cell 0, (bx0_7.below hW bx0_7_l).cell 1, (bxx0_7.below hW bxx0_7_l).cell 0, (bxx0_7.below hW bxx0_7_l).cell 1⟩)
  have RX_w8 := Lib.hid (show RdProg w8 w8.heap.size (.agg #[.slice P3 p.1.length d3, .slice P3b p.2.length d3b]) p from x0_7.rd.more (by omega))
  go_cut [31] (fun s wx => s = .bool false ∧ Below w8.heap.size w8 wx)
  case first =>
    go_region_held3 (fun W => Below w8.heap.size w8 W ∧ W.cell? ⟨w.heap.size, 0, none⟩ = some (.slice A0 p.1.length c0) ∧ W.cell? ⟨w.heap.size, 1, none⟩ = some (.slice A0b p.2.length c0b) ∧ W.cell? ⟨w5.heap.size, 0, none⟩ = some (.slice P3 p.1.length d3) ∧ W.cell? ⟨w5.heap.size, 1, none⟩ = some (.slice P3b p.2.length d3b))
      (first | exact HS_w8.out _ (Below.refl _ _) | exact HS_w8.out _ (Below.refl _ _).drew | exact HS_w8.out _ (bthen (And.left (by assumption)) (by assumption)))
      (first
        | (go_at_call 8; refine (toProgram_own _ p _ ?_ (by omega)).mono ?_; exact H0.out.on (bthen B_w8 (And.left (by assumption))); rintro e wf ⟨Af, cf, Ag, cg, rfl, hof, hbf⟩)
        | (go_at_call 11; refine (eqProgram_any _ _ p p _ ?_ ?_ (by omega) (by omega)).mono ?_; exact (RX_w8.out.on (And.left (by assumption))); exact hof.rd; rw [show decide (p = p) = true by simp]; rintro e wg ⟨rfl, hbg⟩))
    all_goals (go_wp2_with fail; go_meet; exact ⟨rfl, And.left (by assumption)⟩)
  case rest =>
    obtain ⟨rfl, hb6⟩ := hcut
    clear HS_w8 RX_w8
    generalize wc = w9 at *
    have s_w9 := hb6.size
    have bx0_8 := bx0_7.below hb6 (by first | exact bx0_7.lt | omega)
    clear bx0_7
    have bx0_8_l := bx0_8.lt
    have w0_8 := w0_7.below hb6 (by omega)
    clear w0_7
    have x0_8 := x0_7.below hb6 (by omega)
    clear x0_7
    have bxx0_8 := bxx0_7.below hb6 (by first | exact bxx0_7.lt | omega)
    clear bxx0_7
    have bxx0_8_l := bxx0_8.lt
    have g0_8 := g0_7.below hb6 (by omega)
    clear g0_7
    have B_w9 := bthen B_w8 hb6
    have q17 : w9.cell? ⟨w.heap.size, 0, none⟩ = some (.slice A0 p.1.length c0) := bx0_8.cell 0
    have q18 : w9.cell? ⟨w.heap.size, 1, none⟩ = some (.slice A0b p.2.length c0b) := bx0_8.cell 1
    have q19 : w9.cell? ⟨w5.heap.size, 0, none⟩ = some (.slice P3 p.1.length d3) := bxx0_8.cell 0
    have q20 : w9.cell? ⟨w5.heap.size, 1, none⟩ = some (.slice P3b p.2.length d3b) := bxx0_8.cell 1
    go_wp2_with (fail)
    clear q17 q18 q19 q20
    refine (um_prog 1 x0_8 (by omega) (by omega) (by omega)).mono ?_
    rintro e w10 ⟨k7, rfl, ka7, kb7, _, on7⟩
    have s_w10 := on7.size
    have bx0_9 := bx0_8.only on7 (by first | exact .inl (by omega) | exact .inr (by omega))
    clear bx0_8
    have bx0_9_l := bx0_9.lt
    have w0_9 := w0_8.only on7 (by first | exact .inl (by omega) | exact .inr (by omega))
    clear w0_8
    have bxx0_9 := bxx0_8.only on7 (by first | exact .inl (by omega) | exact .inr (by omega))
    clear bxx0_8
    have bxx0_9_l := bxx0_9.lt
    have g0_9 := g0_8.only on7 (by first | exact .inl (by omega) | exact .inr (by omega))
    clear g0_8
    have B_w10 := Only.then_ B_w9 on7 (by omega)
    have kn : ¬ k7 < 0 := by omega
    have kd : decide (k7 < 0) = false := by simp; omega
    have q21 : w10.cell? ⟨w.heap.size, 0, none⟩ = some (.slice A0 p.1.length c0) := bx0_9.cell 0
    have q22 : w10.cell? ⟨w.heap.size, 1, none⟩ = some (.slice A0b p.2.length c0b) := bx0_9.cell 1
    have q23 : w10.cell? ⟨w5.heap.size, 0, none⟩ = some (.slice P3 p.1.length d3) := bxx0_9.cell 0
    have q24 : w10.cell? ⟨w5.heap.size, 1, none⟩ = some (.slice P3b p.2.length d3b) := bxx0_9.cell 1
    go_wp2_with (fail)
    clear q21 q22 q23 q24
    refine (eqIntSS_any _ _ R0 R0 _ (g0_9.rd.more (by omega)) (w0_9.rd.more (by omega)) rfl (by omega)).mono ?_
    rintro e w11 ⟨rfl, hb8⟩
    rw [show decide (R0 = R0) = true by simp]
    have s_w11 := hb8.size
    have bx0_10 := bx0_9.below hb8 (by first | exact bx0_9.lt | omega)
    clear bx0_9
    have bx0_10_l := bx0_10.lt
    have w0_10 := w0_9.below hb8 (by omega)
    clear w0_9
    have bxx0_10 := bxx0_9.below hb8 (by first | exact bxx0_9.lt | omega)
    clear bxx0_9
    have bxx0_10_l := bxx0_10.lt
    have g0_10 := g0_9.below hb8 (by omega)
    clear g0_9
    have B_w11 := bthen B_w10 hb8
    have q25 : w11.cell? ⟨w.heap.size, 0, none⟩ = some (.slice A0 p.1.length c0) := bx0_10.cell 0
    have q26 : w11.cell? ⟨w.heap.size, 1, none⟩ = some (.slice A0b p.2.length c0b) := bx0_10.cell 1
    have q27 : w11.cell? ⟨w5.heap.size, 0, none⟩ = some (.slice P3 p.1.length d3) := bxx0_10.cell 0
    have q28 : w11.cell? ⟨w5.heap.size, 1, none⟩ = some (.slice P3b p.2.length d3b) := bxx0_10.cell 1
    go_wp2_with (fail)
    clear q25 q26 q27 q28
    refine (um_rows 1 g0_10 (by omega) (by omega) (by have := HRs0.out; omega)).mono ?_
    rintro e w12 ⟨m9, rfl, ma9, mb9, hd9, on9⟩
    have mb9' := HRs0.out
    have s_w12 := on9.size
    have bx0_11 := bx0_10.only on9 (by first | exact .inl (by omega) | exact .inr (by omega))
    clear bx0_10
    have bx0_11_l := bx0_11.lt
    have w0_11 := w0_10.only on9 (by first | exact .inl (by omega) | exact .inr (by omega))
    clear w0_10
    have bxx0_11 := bxx0_10.only on9 (by first | exact .inl (by omega) | exact .inr (by omega))
    clear bxx0_10
    have bxx0_11_l := bxx0_11.lt
    have B_w12 := Only.then_ B_w11 on9 (by omega)
    have mn : ¬ m9 < 0 := by omega
    have me : (m9 != m9) = false := by simp
    have q29 : w12.cell? ⟨w.heap.size, 0, none⟩ = some (.slice A0 p.1.length c0) := bx0_11.cell 0
    have q30 : w12.cell? ⟨w.heap.size, 1, none⟩ = some (.slice A0b p.2.length c0b) := bx0_11.cell 1
    have q31 : w12.cell? ⟨w5.heap.size, 0, none⟩ = some (.slice P3 p.1.length d3) := bxx0_11.cell 0
    have q32 : w12.cell? ⟨w5.heap.size, 1, none⟩ = some (.slice P3b p.2.length d3b) := bxx0_11.cell 1
    go_wp2_with (fail)
    clear q29 q30 q31 q32
    refine (uh_rows hd9 (by omega)).mono ?_
    rintro e w13 ⟨rfl, hb10⟩
    have s_w13 := hb10.size
    have bx0_12 := bx0_11.below hb10 (by first | exact bx0_11.lt | omega)
    clear bx0_11
    have bx0_12_l := bx0_12.lt
    have w0_12 := w0_11.below hb10 (by omega)
    clear w0_11
    have bxx0_12 := bxx0_11.below hb10 (by first | exact bxx0_11.lt | omega)
    clear bxx0_11
    have bxx0_12_l := bxx0_12.lt
    have d0_12 := hd9.below hb10 (by omega)
    clear hd9
    have B_w13 := bthen B_w12 hb10
    have q33 : w13.cell? ⟨w.heap.size, 0, none⟩ = some (.slice A0 p.1.length c0) := bx0_12.cell 0
    have q34 : w13.cell? ⟨w.heap.size, 1, none⟩ = some (.slice A0b p.2.length c0b) := bx0_12.cell 1
    have q35 : w13.cell? ⟨w5.heap.size, 0, none⟩ = some (.slice P3 p.1.length d3) := bxx0_12.cell 0
    have q36 : w13.cell? ⟨w5.heap.size, 1, none⟩ = some (.slice P3b p.2.length d3b) := bxx0_12.cell 1
    go_wp2_with (fail)
    clear q33 q34 q35 q36
    refine (toProgram_own _ p _ (H0.out.on B_w13) (by omega)).mono ?_
    rintro e w14 ⟨P11, d11, P11b, d11b, rfl, o11, hb11⟩
    have s_w14 := hb11.size
    have bx0_13 := bx0_12.below hb11 (by first | exact bx0_12.lt | omega)
    clear bx0_12
    have bx0_13_l := bx0_13.lt
    have w0_13 := w0_12.below hb11 (by omega)
    clear w0_12
    have bxx0_13 := bxx0_12.below hb11 (by first | exact bxx0_12.lt | omega)
    clear bxx0_12
    have bxx0_13_l := bxx0_13.lt
    have d0_13 := d0_12.below hb11 (by omega)
    clear d0_12
    have B_w14 := bthen B_w13 hb11
    have q37 : w14.cell? ⟨w.heap.size, 0, none⟩ = some (.slice A0 p.1.length c0) := bx0_13.cell 0
    have q38 : w14.cell? ⟨w.heap.size, 1, none⟩ = some (.slice A0b p.2.length c0b) := bx0_13.cell 1
    have q39 : w14.cell? ⟨w5.heap.size, 0, none⟩ = some (.slice P3 p.1.length d3) := bxx0_13.cell 0
    have q40 : w14.cell? ⟨w5.heap.size, 1, none⟩ = some (.slice P3b p.2.length d3b) := bxx0_13.cell 1
    go_wp2_with (fail)
    clear q37 q38 q39 q40
    refine (implGroupsOf_any _ p _ (o11.rd.more (by omega)) (by omega) (HT.out.below B_w14)).mono ?_
    rw [← HR0.out]
    rintro e w15 ⟨Q12_0, f12_0, rfl, o12_0, hb12⟩
    have s_w15 := hb12.size
    have bx0_14 := bx0_13.below hb12 (by first | exact bx0_13.lt | omega)
    clear bx0_13
    have bx0_14_l := bx0_14.lt
    have w0_14 := w0_13.below hb12 (by omega)
    clear w0_13
    have bxx0_14 := bxx0_13.below hb12 (by first | exact bxx0_13.lt | omega)
    clear bxx0_13
    have bxx0_14_l := bxx0_14.lt
    have d0_14 := d0_13.below hb12 (by omega)
    clear d0_13
    have th0_14 := o11.below hb12 (by omega)
    clear o11
    have B_w15 := bthen B_w14 hb12
    have q41 : w15.cell? ⟨w.heap.size, 0, none⟩ = some (.slice A0 p.1.length c0) := bx0_14.cell 0
    have q42 : w15.cell? ⟨w.heap.size, 1, none⟩ = some (.slice A0b p.2.length c0b) := bx0_14.cell 1
    have q43 : w15.cell? ⟨w5.heap.size, 0, none⟩ = some (.slice P3 p.1.length d3) := bxx0_14.cell 0
    have q44 : w15.cell? ⟨w5.heap.size, 1, none⟩ = some (.slice P3b p.2.length d3b) := bxx0_14.cell 1
    go_wp2_with (fail)
    clear q41 q42 q43 q44
    refine (eqIntSS_any _ _ R0 R0 _ (o12_0.rd.more (by omega)) (w0_14.rd.more (by omega)) rfl (by omega)).mono ?_
    rintro e w16 ⟨rfl, hb13⟩
    rw [show decide (R0 = R0) = true by simp]
    have s_w16 := hb13.size
    have bx0_15 := bx0_14.below hb13 (by first | exact bx0_14.lt | omega)
    clear bx0_14
    have bx0_15_l := bx0_15.lt
    have w0_15 := w0_14.below hb13 (by omega)
    clear w0_14
    have bxx0_15 := bxx0_14.below hb13 (by first | exact bxx0_14.lt | omega)
    clear bxx0_14
    have bxx0_15_l := bxx0_15.lt
    have d0_15 := d0_14.below hb13 (by omega)
    clear d0_14
    have h0_15 := o12_0.below hb13 (by omega)
    clear o12_0
    have B_w16 := bthen B_w15 hb13
    have q45 : w16.cell? ⟨w.heap.size, 0, none⟩ = some (.slice A0 p.1.length c0) := bx0_15.cell 0
    have q46 : w16.cell? ⟨w.heap.size, 1, none⟩ = some (.slice A0b p.2.length c0b) := bx0_15.cell 1
    have q47 : w16.cell? ⟨w5.heap.size, 0, none⟩ = some (.slice P3 p.1.length d3) := bxx0_15.cell 0
    have q48 : w16.cell? ⟨w5.heap.size, 1, none⟩ = some (.slice P3b p.2.length d3b) := bxx0_15.cell 1
    go_wp2_with (fail)
    clear q45 q46 q47 q48
    refine (uh_rows d0_15 (by omega)).mono ?_
    rintro e w17 ⟨rfl, hb14⟩
    have s_w17 := hb14.size
    have bx0_16 := bx0_15.below hb14 (by first | exact bx0_15.lt | omega)
    clear bx0_15
    have bx0_16_l := bx0_16.lt
    have w0_16 := w0_15.below hb14 (by omega)
    clear w0_15
    have bxx0_16 := bxx0_15.below hb14 (by first | exact bxx0_15.lt | omega)
    clear bxx0_15
    have bxx0_16_l := bxx0_16.lt
    have d0_16 := d0_15.below hb14 (by omega)
    clear d0_15
    have h0_16 := h0_15.below hb14 (by omega)
    clear h0_15
    have B_w17 := bthen B_w16 hb14
    have q49 : w17.cell? ⟨w.heap.size, 0, none⟩ = some (.slice A0 p.1.length c0) := bx0_16.cell 0
    have q50 : w17.cell? ⟨w.heap.size, 1, none⟩ = some (.slice A0b p.2.length c0b) := bx0_16.cell 1
    have q51 : w17.cell? ⟨w5.heap.size, 0, none⟩ = some (.slice P3 p.1.length d3) := bxx0_16.cell 0
    have q52 : w17.cell? ⟨w5.heap.size, 1, none⟩ = some (.slice P3b p.2.length d3b) := bxx0_16.cell 1
    go_wp2_with (fail)
    clear q49 q50 q51 q52
    go_ret
    exact ⟨rfl, B_w17⟩

theorem lawGroupsOf_in (v0 : Value) (p : LProg) (w : World) (h0 : InProg w v0 p) (hT : Tab w) : Calls Tryd.prog 4 #[v0] w fun e w' => e = .returned (.bool true) ∧ Below w.heap.size w w' :=
  lawGroupsOf_any v0 p w h0.1 (progLens_in h0.2) hT

end Go.Proofs.YtcoelmhlkfignaaDoor
namespace Go.Proofs.YtcoelmhlkfignaaDoor
open Go.ChangeShapes Go.WideShapes Go.ChangeAt Go.RowKit

set_option maxRecDepth 100000 in
theorem fnExactGroupsOf_lifted (os : Os) (started : os.Started) (H : Type) (enc : TypeId × Value → H) :
    ReturnsInHanded {} Tryd.checked os 4 .any (fun w args => (Rows.fnExactGroupsOfSpec.pre enc Tryd.prog Tryd.f4 [] false w args ∧ laidMetH Tryd.prog laidTabs w) ∧ sizedMet enc Tryd.prog Tryd.f4 (OpenSpec.ofChange Rows.fnExactGroupsOfSpec) false w args) (Rows.fnExactGroupsOfSpec.post enc Tryd.prog Tryd.f4 false true false false) := by
  refine returnsInHanded_of_change_and (C := Tryd.checked) (X := fun w _ => laidMetH Tryd.prog laidTabs w) (fun _ _ _ hh h => h.of_heap hh) Tryd.own started (by kernel_rfl) Tryd.func4
    (ChangeSpec.witness_shaped (enc := enc) (C := Tryd.checked) (os := os) (X := fun w _ => laidMetH Tryd.prog laidTabs w) false (World.laidAll Tryd.prog os laidTabs) #[.agg #[.slice none 0 0, .slice none 0 0]] 8 (World.laidAll_os _ _ _)
      (World.shaped_of_ZipB (by kernel_rfl) (by kernel_rfl)) (by kernel_rfl) (by kernel_rfl) (by kernel_rfl)
      (by rw [MakeChecks.laidMetH_plain _ _ _ (by kernel_rfl)]; exact laidMet_laidAll _ (by kernel_rfl) (by kernel_rfl))) ?_
  intro W base args ds gs before hval0 hW _ _ hL _
  have hval : ∀ (j : Nat) t v, Tryd.f4.params[j]? = some t → args[j]? = some v → Value.okWide Tryd.prog W .any base t v := hval0
  have hW' := hW
  obtain ⟨p, q, hA0, hV, rfl, hfz, hnd⟩ := hW
  have hA : DataW.TrodAll enc Tryd.prog W 0 (fun _ => true) true Tryd.f4.params.toList args.toList ds p := hA0
  rw [Tryd.params4] at hA hval
  obtain ⟨v0, vs0, d0, ds0, p0, q0, hargs, rfl, rfl, h0, r0⟩ := trodAll_cons hA
  obtain ⟨rfl, rfl, rfl⟩ := trodAll_nil r0
  obtain rfl : args = #[v0] := by cases args; simp_all
  obtain ⟨rfl, rfl⟩ := trodVars_none hV
  have lt0 : ∀ x ∈ p0, x.block < W.heap.size := by obtain ⟨m, hm⟩ := h0; exact DataW.trod_lt m _ _ _ hm
  obtain ⟨x0, w0⟩ := open_inProg (hval 0 25 v0 rfl rfl) h0
  clear hA0 hval0
  refine (lawGroupsOf_in v0 x0 W w0 (tab_of_laid hL)).mono fun e W' ⟨he, bel⟩ => ?_
  subst he
  exact ⟨_, rfl, _, _, _, [], _, [], hW', trodAll_mk1 (shut_bool Tryd.underlying4 _), (trodAll_cons_mk (Below.trod Tryd.laidOut (by kernel_rfl) (of_decide_eq_true (by kernel_rfl)) h0 bel lt0) trodAll_mk0), rfl, bel.frame _, fun h => by cases h⟩

theorem fnExactGroupsOf_holds : Rows.FnExactGroupsOfSaid :=
  OpenClaim.holds_of_wide 4 Tryd.f4 rfl rfl rfl rfl rfl rfl rfl ⟨rfl, rfl, rfl, rfl, rfl⟩ rfl rfl rfl rfl rfl (by kernel_rfl) Tryd.func4 (by kernel_rfl)
    (of_decide_eq_true (by kernel_rfl)) (by unfold Func.isWrapper; rw [if_neg (of_decide_eq_false (by kernel_rfl))]; exact ⟨rfl, rfl⟩)
    (fun os started H enc _ => fnExactGroupsOf_lifted os started H enc)

theorem fnExactGroupsOfCard_holds : Rows.FnExactGroupsOfCardSaid :=
  Claim7.holds_tied_plain_at .later [] [.data, .data] true (true, "89069972cc508f8cf5f997ce4745a7925f42ae071dd32f0e4fe41eb750c03e8f") false fnExactGroupsOf_holds (fun _ h => by cases h) (by kernel_rfl) (fun _ h => by cases h) fnExactGroupsOf_row_tie rfl ⟨rfl, rfl⟩ (by kernel_rfl) rfl
    (fun f fn hf hfn => by
      obtain rfl : f = 4 := Option.some.inj ((show Tryd.prog.funcNamed "loop.example/wholerules/laws.FnExactGroupsOf" = some 4 by kernel_rfl).symm.trans hf) |>.symm
      obtain rfl : fn = Tryd.f4 := (Option.some.inj (Tryd.func4.symm.trans hfn)).symm
      exact ⟨by kernel_rfl, fun j t ht => by
        rw [Tryd.params4] at ht
        have hm : t ∈ [25] := by simpa using Array.mem_of_getElem? ht
        have hall : ([25].all fun u => !Tryd.prog.wantsStandIn u) = true := by kernel_rfl
        exact (show Tryd.prog.wantsStandIn t = false by simpa using List.all_eq_true.1 hall t hm)⟩)
    (by kernel_rfl)

end Go.Proofs.YtcoelmhlkfignaaDoor
