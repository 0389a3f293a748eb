/-
  The law FnSolutions: for every input the call returns true, and each argument reads behind it as it read before. Conditions: none but the row's own.
-/
import Derived.BigRegion
import Derived.Deep.RegionHeld3
import Derived.Deep.RegionWith
import Derived.Deep.RegionLaw
import Derived.Deep.DeepCutAuto
import Derived.Test.YtokmmloakahkhaaGreatRows
import Derived.Test.YtokmmloakahkhaaGreatPlainSolutionsJoin
import Derived.Test.YtokmmloakahkhaaGreatMSs1
import Derived.Test.YtokmmloakahkhaaGreatMSs2
import Derived.Test.YtokmmloakahkhaaGreatMSs3
import Derived.Test.YtokmmloakahkhaaGreatMSs7
import Derived.Test.YtokmmloakahkhaaGreatMSs10
import Derived.Test.YtokmmloakahkhaaGreatMSs11
/-
  Rows of slices of integers as results of laws: compared, marked, held.
-/
namespace Go.Proofs.YtokmmloakahkhaaGreat
open Go.RowKit

def totSS (xss : List (List Int)) : Nat := (xss.map List.length).sum
def szRows (xss : List (List Int)) : Nat := xss.length + totSS xss
theorem totSS_at : ∀ (xss : List (List Int)) (k : Nat) (h : k < xss.length), xss[k].length ≤ totSS xss
  | x :: xss, 0, _ => by simp [totSS]
  | x :: xss, k + 1, h => by
    have := totSS_at xss k (by simpa using h)
    simp only [totSS, List.map_cons, List.sum_cons, List.getElem_cons_succ] at this ⊢
    omega
theorem totSS_take (xss : List (List Int)) (k : Nat) (h : k < xss.length) : totSS (xss.take (k + 1)) = totSS (xss.take k) + xss[k].length := by
  unfold totSS
  rw [take_snoc xss k h, List.map_append, List.sum_append]
  simp
theorem totSS_take_le : ∀ (xss : List (List Int)) (k : Nat), totSS (xss.take k) ≤ totSS xss
  | [], k => by simp
  | x :: xss, 0 => by simp [totSS]
  | x :: xss, k + 1 => by
    have := totSS_take_le xss k
    simp only [totSS, List.take_succ_cons, List.map_cons, List.sum_cons] at this ⊢
    omega
theorem totSS_few {xss : List (List Int)} {n m : Nat} (hn : xss.length ≤ n) (hm : ∀ x ∈ xss, x.length ≤ m) : totSS xss ≤ n * m := by
  have key : ∀ (l : List (List Int)), (∀ x ∈ l, x.length ≤ m) → totSS l ≤ l.length * m := by
    intro l
    induction l with
    | nil => intro _; simp [totSS]
    | cons x l ih =>
      intro h
      have h1 := h x List.mem_cons_self
      have h2 := ih fun y hy => h y (List.mem_cons_of_mem _ hy)
      simp only [totSS, List.map_cons, List.sum_cons, List.length_cons, Nat.add_mul] at h2 ⊢
      omega
  exact Nat.le_trans (key xss hm) (Nat.mul_le_mul_right m hn)

set_option maxHeartbeats 1000000 in
set_option maxRecDepth 100000 in
theorem eqIntSS_any (va vb : Value) (xs ys : List (List Int)) (w : World) (ha : RdRows w w.heap.size va xs) (hb : RdRows w w.heap.size vb ys) (hxy : xs = ys) (h1 : szRows xs ≤ 1048576) :
    Calls Tryz.prog 27 #[va, vb] w fun e w' => e = .returned (.bool (decide (xs = ys))) ∧ Below w.heap.size w w' := by
  subst hxy
  rw [decide_eq_true (rfl : xs = xs)]
  unfold szRows at h1
  have HA := Lib.hid ha
  have HB := Lib.hid hb
  obtain ⟨A, c, rfl, hc, _⟩ := ha
  obtain ⟨A2, c2, rfl, hc2, _⟩ := hb
  have hl1 : ((xs.length : Int) != (xs.length : Int)) = false := by simp
  go_enter Tryz.func27, Tryz.ntmps27
  go_wp2_with fail
  go_loopw [5] (fun i wr => ∃ k : Nat, k ≤ xs.length ∧ i = .int .i64 k ∧ Below w.heap.size w wr) (fun i _ => xs.length - (intOf i).toNat)
  case atStart => exact ⟨0, Nat.zero_le _, rfl, Below.refl _ _⟩
  case round =>
    obtain ⟨k, hk, rfl, hbe⟩ := hrel
    by_cases hlt : k < xs.length
    · obtain ⟨b, o, A3, c3, rfl, hbB, k0, r0⟩ := (HA.out.on hbe).get hlt
      obtain ⟨b2, o2, A4, c4, rfl, hbB2, k2, r2⟩ := (HB.out.on hbe).get hlt
      have hln := totSS_at xs k hlt
      have M0 := later_cell k0
      have M1 := later_cell k2
      have CE := Lib.hid (fun q : Later wr => (eqIntS_any (.slice A3 xs[k].length c3) (.slice A4 xs[k].length c4) xs[k] xs[k] q.val (r0.on q.2) (r2.on q.2) (by omega) (by omega)))
      simp only [decide_true] at CE
      clear k0 k2 r0 r2
      go_wp2_with fail
      refine wp_region_later (by kernel_rfl) (by kernel_rfl) ?_
      repeat (go_big_quiet_step ((go_at_call 30; exact later_of (CE.out _))))
      refine wpQuiet_nil ?_
      rintro _ ⟨xq, rfl⟩
      go_wp2_with fail
      go_roundw
      case rel => exact ⟨k + 1, by omega, by go_num, bthen hbe xq.2⟩
      case measure => simp [intOf]; omega
    · go_wp2_with fail
      go_ret
      exact ⟨rfl, hbe⟩

/-- The rows that marks from k on leave. -/
def markR : Int → List (List Int) → List (List Int)
  | _, [] => []
  | k, x :: xs => seqI k x.length :: markR (k + (x.length : Int)) xs
theorem markR_length : ∀ (k : Int) (xs : List (List Int)), (markR k xs).length = xs.length
  | _, [] => rfl
  | k, x :: xs => by simp [markR, markR_length _ xs]
theorem markR_snoc : ∀ (k : Int) (xs : List (List Int)) (x : List Int), markR k (xs ++ [x]) = markR k xs ++ [seqI (k + (totSS xs : Int)) x.length]
  | k, [], x => by simp [markR, totSS]
  | k, y :: xs, x => by
    have h := markR_snoc (k + (y.length : Int)) xs x
    have e : k + (y.length : Int) + (totSS xs : Int) = k + (totSS (y :: xs) : Int) := by simp [totSS]; omega
    rw [e] at h
    simp [markR, h]
theorem markR_at {xss : List (List Int)} {k : Int} {j : Nat} (h : j < xss.length) (h' : j < (markR k xss).length) : (markR k xss)[j] = seqI (k + (totSS (xss.take j) : Int)) xss[j].length := by
  have hp : ∀ (xs ys : List (List Int)) (k : Int), ∃ zs, markR k (xs ++ ys) = markR k xs ++ zs := by
    intro xs
    induction xs with
    | nil => intro ys k; exact ⟨_, rfl⟩
    | cons x xs ih =>
      intro ys k
      obtain ⟨zs, hz⟩ := ih ys (k + (x.length : Int))
      exact ⟨zs, by simp [markR, hz]⟩
  have e : xss = xss.take (j + 1) ++ xss.drop (j + 1) := (List.take_append_drop _ _).symm
  have hl : (markR k (xss.take j)).length = j := by rw [markR_length]; simp; omega
  obtain ⟨zs, hz⟩ := hp (xss.take (j + 1)) (xss.drop (j + 1)) k
  rw [← e, take_snoc xss j h, markR_snoc] at hz
  have : (markR k xss)[j]? = some (seqI (k + (totSS (xss.take j) : Int)) xss[j].length) := by
    rw [hz, List.append_assoc, List.getElem?_append_right (by omega), hl]
    simp
  rw [List.getElem?_eq_getElem h'] at this
  exact Option.some.inj this
/-- The first j are marked. -/
def markedR (xss : List (List Int)) (k : Int) (j : Nat) : List (List Int) := markR k (xss.take j) ++ xss.drop j
theorem markedR_step {xss : List (List Int)} {k : Int} {j : Nat} (h : j < xss.length) : (markedR xss k j).set j (seqI (k + (totSS (xss.take j) : Int)) xss[j].length) = markedR xss k (j + 1) := by
  have hl : (markR k (xss.take j)).length = j := by rw [markR_length]; simp; omega
  unfold markedR
  rw [List.drop_eq_getElem_cons h, List.set_append_right _ _ (by omega), hl, Nat.sub_self, List.set_cons_zero, take_snoc xss j h, markR_snoc]
  simp
theorem markedR_at {xss : List (List Int)} {k : Int} {j : Nat} (h : j < xss.length) (h' : j < (markedR xss k j).length) : (markedR xss k j)[j] = xss[j] := by
  have hl : (markR k (xss.take j)).length = j := by rw [markR_length]; simp; omega
  have e : (markedR xss k j)[j]? = some xss[j] := by
    unfold markedR
    rw [List.getElem?_append_right (by omega), hl]
    simp [h]
  rw [List.getElem?_eq_getElem h'] at e
  exact Option.some.inj e
theorem markedR_length {xss : List (List Int)} {k : Int} {j : Nat} (h : j ≤ xss.length) : (markedR xss k j).length = xss.length := by simp [markedR, markR_length]; omega

/-- A row of slices of the call's own, the slices named. -/
structure OwnRA (w : World) (lo hi : Nat) (v : Value) (xss : List (List Int)) (av : List Value) : Prop where
  args : OwnArgs w lo hi av xss
  row : w.ownsRow lo 31 1 v xss.length av
  lt : ∀ g, v.ownBlock = some g → g < hi
theorem OwnRA.step {w w3 : World} {lo hi j : Nat} {v : Value} {xss : List (List Int)} {av : List Value} {ys : List Int} (h : OwnRA w lo hi v xss av) (hj : j < xss.length) (hja : j < av.length)
    (hI : OwnInts w3 lo hi av[j] ys) (hg : w.grownBy w3 av[j].ownBlock) : OwnRA w3 lo hi v (xss.set j ys) av := by
  obtain ⟨ha, hr, hlt⟩ := h
  have hlen := ha.len
  have hapart : ∀ i i' (hi' : i < av.length) (hi'' : i' < av.length), i ≠ i' → ∀ b, av[i].ownBlock = some b → av[i'].ownBlock ≠ some b := by
    intro i i' h1 h2 hne b hb hb'
    have hp := List.pairwise_iff_getElem.1 ha.apart
    rcases Nat.lt_or_gt_of_ne hne with hl | hl
    · exact hp i i' h1 h2 hl b hb hb'
    · exact hp i' i h2 h1 hl b hb' hb
  refine ⟨⟨by simp [hlen], fun i h1 h2 => ?_, ha.apart⟩, ?_, hlt⟩
  · by_cases e : i = j
    · subst e
      simpa using hI
    · have h0 := ha.own i (by simpa using h1) h2
      rw [List.getElem_set_ne (Ne.symm e)]
      exact h0.kept fun b hb => hg.block b (h0.lt hb).2.2 fun e2 => hapart i j h2 hja e b hb e2.symm
  · rw [List.length_set]
    exact ownsRow_only hr fun b hb => hg.block b (hr.lt b hb).2 fun e2 => rowsI_ne hr hb (ha.own j hj hja) e2.symm

/-- The marks from k on stand in a row of slices, and end at z. -/
def HdRows (w : World) (lo hi : Nat) (v : Value) (xss : List (List Int)) (k z : Int) : Prop := OwnRows w lo hi v (markR k xss) ∧ z = k + (totSS xss : Int) ∧ 0 ≤ k ∧ k ≤ 4294967296 ∧ szRows xss ≤ 1073741824
theorem HdRows.below {w w' : World} {lo hi B : Nat} {v : Value} {xss : List (List Int)} {k z : Int} (h : HdRows w lo hi v xss k z) (hb : Below B w w') (hB : hi ≤ B) : HdRows w' lo hi v xss k z := ⟨h.1.below hb hB, h.2⟩
theorem HdRows.only {w w' : World} {lo hi lo' hi' : Nat} {v : Value} {xss : List (List Int)} {k z : Int} (h : HdRows w lo hi v xss k z) (ho : Only lo' hi' w w') (hd : hi ≤ lo' ∨ hi' ≤ lo) : HdRows w' lo hi v xss k z := ⟨h.1.only ho hd, h.2⟩

set_option maxHeartbeats 1000000 in
set_option maxRecDepth 100000 in
theorem um_rows {v : Value} {xss : List (List Int)} {lo hi : Nat} {w : World} (k : Int) (h : OwnRows w lo hi v xss) (hk0 : 0 ≤ k) (hk : k ≤ 4294967296) (hs : szRows xss ≤ 1073741824) :
    Calls Tryz.prog 34 #[v, .int .i64 k] w fun e w' => ∃ z, e = .returned (.int .i64 z) ∧ k ≤ z ∧ z ≤ k + szRows xss ∧ HdRows w' lo hi v xss k z ∧ Only lo hi w w' := by
  have HS := Lib.hid hs
  unfold szRows at hs
  obtain ⟨A, c, rfl⟩ := h.form
  obtain ⟨av, h1, h2, h3⟩ := h
  have H := Lib.hid (show OwnRA w lo hi (.slice A xss.length c) xss av from ⟨h1, h2, h3⟩)
  have hal := h1.len
  have HAL := Lib.hid hal
  clear h1 h2 h3 hal
  go_enter Tryz.func34, Tryz.ntmps34
  go_wp2_with fail
  go_loopw [1, 5] (fun m i wr => ∃ (j : Nat) (z : Int), j ≤ xss.length ∧ i = .int .i64 j ∧ m = .int .i64 z ∧ z = k + (totSS (xss.take j) : Int) ∧ OwnRA wr lo hi (.slice A xss.length c) (markedR xss k j) av ∧ Only lo hi w wr) (fun _ i _ => xss.length - (intOf i).toNat)
  case atStart =>
    have e : markedR xss k 0 = xss := by simp [markedR, markR]
    exact ⟨0, k, Nat.zero_le _, rfl, rfl, by simp [totSS], by rw [e]; exact H.out, Only.refl _ _ _⟩
  case round =>
    obtain ⟨j, z, hj, rfl, rfl, hz, ho, hon⟩ := hrel
    by_cases hlt : j < xss.length
    · have hml := markedR_length (k := k) (Nat.le_of_lt hlt)
      have hja : j < av.length := by rw [HAL.out]; exact hlt
      have hoj := ho.args.own j (by omega) hja
      rw [markedR_at hlt (by omega)] at hoj
      obtain ⟨A2, c2, hav⟩ := hoj.form
      have hcell : ∃ g, A = some ⟨g, 0, none⟩ ∧ wr.cell? ⟨g, j, none⟩ = some (.slice A2 xss[j].length c2) := by
        have hcells := @World.ownsRow.cells wr lo 31 1 _ _ av ho.row
        rcases ho.row.2 with ⟨e, e0⟩ | ⟨g, cap, cur, e, _⟩
        · omega
        · injection e with e1 _ _
          refine ⟨g, e1, ?_⟩
          have := hcells (g := g) (by rw [e1]; rfl) j (av[j]'hja) (by simp [hja])
          rw [Go.WideShapes.add_plain, Nat.zero_add, hav] at this
          exact this
      obtain ⟨g, rfl, hck⟩ := hcell
      have hln := totSS_at xss j hlt
      have hlt2 := totSS_take_le xss j
      have hst := totSS_take xss j hlt
      have HO := Lib.hid ho
      have HN := Lib.hid hon
      have CM := Lib.hid (markIntS_any (.slice A2 xss[j].length c2) xss[j] z lo hi wr (hav ▸ hoj) (by omega) (by omega))
      have HZ := Lib.hid hz
      have HAV := Lib.hid hav
      have HJ := Lib.hid hoj
      have HST := Lib.hid hst
      clear ho hon hoj hz hav hml hst
      go_wp2_with (go_at_call 33; refine CM.out.mono ?_; rintro e w2 ⟨rfl, o2, g2⟩; have H2 := Lib.hid (And.intro o2 g2); clear o2 g2)
      have HF := Lib.hid (show OwnRA w2 lo hi (.slice (some ⟨g, 0, none⟩) xss.length c) (markedR xss k (j + 1)) av ∧ Only lo hi w w2 from by
        obtain ⟨o2, g2⟩ := H2.out
        have hml := markedR_length (k := k) (Nat.le_of_lt hlt)
        have hs2 := HO.out.step (by omega) hja (by rw [HAV.out]; exact o2) (by rw [HAV.out]; exact g2)
        rw [HZ.out, markedR_step hlt] at hs2
        exact ⟨hs2, HN.out.trans (Only.of_grown g2 fun b hb => by have := HJ.out.lt (g := b) (by rw [HAV.out]; exact hb); omega)⟩)
      go_roundw
      case rel => exact ⟨j + 1, _, by omega, by go_num, rfl, by rw [HST.out, HZ.out]; omega, HF.out.1, HF.out.2⟩
      case measure => simp [intOf]; omega
    · have hjn : j = xss.length := by omega
      have HF := Lib.hid (show HdRows wr lo hi (.slice A xss.length c) xss k z ∧ Only lo hi w wr ∧ k ≤ z ∧ z ≤ k + szRows xss from by
        rw [hjn, List.take_length] at hz
        rw [hjn] at ho
        have e : markedR xss k xss.length = markR k xss := by simp [markedR]
        rw [e] at ho
        exact ⟨⟨⟨av, ho.args, ho.row, ho.lt⟩, hz, hk0, hk, HS.out⟩, hon, by omega, by unfold szRows; omega⟩)
      clear hjn hz ho hon
      go_wp2_with fail
      go_ret
      exact ⟨z, rfl, HF.out.2.2.1, HF.out.2.2.2, HF.out.1, HF.out.2.1⟩

set_option maxHeartbeats 1000000 in
set_option maxRecDepth 100000 in
theorem uh_rows {v : Value} {xss : List (List Int)} {lo hi : Nat} {w : World} {k z : Int} (h : HdRows w lo hi v xss k z) (hh : hi ≤ w.heap.size) :
    Calls Tryz.prog 35 #[v, .int .i64 k] w fun e w' => e = .returned (.int .i64 z) ∧ Below w.heap.size w w' := by
  obtain ⟨ho, hz, hk0, hk, hs⟩ := h
  unfold szRows at hs
  have hml := markR_length k xss
  have H := Lib.hid (ho.rd.more hh)
  obtain ⟨A, c, rfl⟩ := ho.form
  have HML := Lib.hid hml
  have HZ := Lib.hid hz
  rw [hml] at H ⊢
  clear ho hml hz
  go_enter Tryz.func35, Tryz.ntmps35
  go_wp2_with fail
  go_loopw [1, 5] (fun m i wr => ∃ (j : Nat) (y : Int), j ≤ xss.length ∧ i = .int .i64 j ∧ m = .int .i64 y ∧ y = k + (totSS (xss.take j) : Int) ∧ wr = w) (fun _ i _ => xss.length - (intOf i).toNat)
  case atStart => exact ⟨0, k, by simp [totSS]⟩
  case round =>
    obtain ⟨j, y, hj, rfl, rfl, hy, rfl⟩ := hrel
    by_cases hlt : j < xss.length
    · have hlt' : j < (markR k xss).length := by rw [HML.out]; exact hlt
      have hat := H.out
      rw [← HML.out] at hat
      obtain ⟨b, o, A2, c2, rfl, hbB, k0, r0⟩ := hat.get hlt'
      rw [markR_at hlt hlt', seqI_length] at k0
      rw [markR_at hlt hlt', ← hy, seqI_length] at r0
      have hln := totSS_at xss j hlt
      have hlt2 := totSS_take_le xss j
      have CM := Lib.hid (heldIntS_any (.slice A2 xss[j].length c2) xss[j].length y wr r0 (by omega) (by omega))
      have HST := Lib.hid (totSS_take xss j hlt)
      have HY := Lib.hid hy
      have hneg : decide (y + (xss[j].length : Int) < 0) = false := decide_eq_false (by omega)
      clear r0 hat hy
      go_wp2_with (go_at_call 77; refine CM.out.mono ?_; rintro e w2 ⟨rfl, rfl⟩)
      go_roundw
      case rel => exact ⟨j + 1, _, by omega, by go_num, rfl, by rw [HST.out, HY.out]; omega, by first | trivial | rfl⟩
      case measure => simp [intOf]; omega
    · have HF := Lib.hid (show y = z by rw [HZ.out, hy, show j = xss.length by omega, List.take_length])
      clear hy
      go_wp2_with fail
      go_ret
      exact ⟨ret_int HF.out, Below.refl _ _⟩

end Go.Proofs.YtokmmloakahkhaaGreat
/-
  The specification's Solutions.
-/
namespace Go.Proofs.YtokmmloakahkhaaGreat
open Go.RowKit

theorem solsL_sz (fs : List LFact) (ls : List LLit) : szRows (solsL fs ls) ≤ 1048576 := by
  unfold solsL
  split
  · rename_i h
    rw [Bool.and_eq_true] at h
    have hc' := consts_of h.2
    obtain ⟨_, h2⟩ := solsOf_is (fs := fs) (gs := setOf fs) (SafeB.of h.1) (fun f hf => hc' f ((setOf_mem fs f).1 hf)) (asc_nodup (setOf_asc fs)) (setOf_mem fs)
    have hl := binds_len h2.1 h2.ok
    have ht := totSS_few hl (m := 4) fun b hb => by rw [bindOk_len (h2.ok b hb)]; exact Nat.le_refl _
    unfold szRows
    omega
  · simp [szRows, totSS]
theorem WkRows.none (w : World) (lo hi : Nat) : WkRows w lo hi (.slice none 0 0) [] := ⟨[], ⟨rfl, fun i h => absurd h (by simp)⟩, World.ownsRow_nil _ _ _ _, fun g hg => by cases hg⟩

set_option maxHeartbeats 2000000 in
set_option maxRecDepth 100000 in
theorem specSolutions_any (v v2 : Value) (fs : List LFact) (ls : List LLit) (R : List (List Int)) (hR : R = solsL fs ls) (w : World) (h : RdFacts w w.heap.size v fs) (h2 : RdLits w w.heap.size v2 ls) (hn : fs.length ≤ 1048576) (ht : tot fs ≤ 1048576) (hl : ls.length + totL ls ≤ 1048576) :
    Calls Tryz.prog 10 #[v, v2] w fun e w' => ∃ A c, e = .returned (.slice A R.length c) ∧ WkRows w' w.heap.size w'.heap.size (.slice A R.length c) R ∧ Below w.heap.size w w' := by
  have H := Lib.hid h
  have H2 := Lib.hid h2
  have HR := Lib.hid hR
  obtain ⟨A, c, rfl, hc, _⟩ := h
  obtain ⟨A2, c2, rfl, hc2, _⟩ := h2
  clear hR
  obtain ⟨sf, hsf⟩ : ∃ sf, sf = bodySafe ls := ⟨_, rfl⟩
  obtain ⟨cf, hcf⟩ : ∃ cf, cf = constsL fs := ⟨_, rfl⟩
  have CB := Lib.hid (specBodySafe_any (.slice A2 ls.length c2) ls w H2.out hl)
  rw [← hsf] at CB
  have CH := Lib.hid (fun W (hW : Below w.heap.size w W) => l3Consts_is hcf.symm (.slice A fs.length c) w.heap.size W (H.out.below hW (Nat.le_refl _)) hn ht)
  have HSF := Lib.hid hsf
  have HCF := Lib.hid hcf
  clear hsf hcf
  cases sf
  · have HE := Lib.hid (show R = [] by rw [HR.out]; unfold solsL; rw [← HSF.out]; rfl)
    go_enter Tryz.func10, Tryz.ntmps10
    go_wp2_with (go_at_call 12; refine CB.out.mono ?_; rintro e w1 ⟨rfl, hb1⟩; have HB1 := Lib.hid hb1; clear hb1)
    go_ret
    rw [HE.out]
    exact ⟨none, 0, rfl, WkRows.none _ _ _, HB1.out⟩
  · cases cf
    · have HE := Lib.hid (show R = [] by rw [HR.out]; unfold solsL; rw [← HSF.out, ← HCF.out]; rfl)
      go_enter Tryz.func10, Tryz.ntmps10
      go_wp2_with (first
        | (go_at_call 12; refine CB.out.mono ?_; rintro e w1 ⟨rfl, hb1⟩; have HB1 := Lib.hid hb1; clear hb1)
        | (go_at_call 44; refine (CH.out _ HB1.out).mono ?_; rintro e w2 ⟨rfl, rfl⟩))
      go_ret
      rw [HE.out]
      exact ⟨none, 0, rfl, WkRows.none _ _ _, HB1.out⟩
    · obtain ⟨gs, hgs⟩ : ∃ gs, gs = setOf (fs ++ []) := ⟨_, rfl⟩
      have hgs2 : gs = setOf fs := by rw [hgs, List.append_nil]
      have hbd := setOf_bound fs
      rw [← hgs2] at hbd
      have HP := Lib.hid (show R = solsOf gs ls ∧ (∀ f ∈ gs, f.2.all constOk = true) ∧ gs.Nodup ∧ ∀ l ∈ ls, l.2.2.all termOk = true from by
        have hC := consts_of HCF.out.symm
        refine ⟨?_, fun f hf => hC f ?_, ?_, (SafeB.of HSF.out.symm).terms⟩
        · rw [HR.out]
          unfold solsL
          rw [← HSF.out, ← HCF.out, hgs2]
          rfl
        · rw [hgs2] at hf
          exact (setOf_mem fs f).1 hf
        · rw [hgs2]
          exact asc_nodup (setOf_asc fs))
      have CE := Lib.hid (fun W (hW : Below w.heap.size w W) => specFactsEither_any (.slice A fs.length c) (.slice none 0 0) fs [] W (H.out.on hW) ⟨none, 0, rfl, by simp, fun h => absurd h (by simp)⟩ (by rw [List.length_nil]; omega) (by rw [show tot [] = 0 from rfl]; omega))
      rw [← hgs] at CE
      clear hgs hgs2
      go_enter Tryz.func10, Tryz.ntmps10
      go_wp2_with (first
        | (go_at_call 12; refine CB.out.mono ?_; rintro e w1 ⟨rfl, hb1⟩; have HB1 := Lib.hid hb1; clear hb1)
        | (go_at_call 44; refine (CH.out _ HB1.out).mono ?_; rintro e w2 ⟨rfl, rfl⟩)
        | (go_at_call 46; refine (CE.out _ HB1.out).mono ?_; rintro e w3 ⟨A4, c4, rfl, o4, b4⟩
           have HS := Lib.hid (l3Solutions_any (.slice A4 gs.length c4) (.slice A2 ls.length c2) gs ls R HP.out.1 w3 o4.rd (H2.out.on (bthen HB1.out b4)) (by omega) (by omega) hl HP.out.2.1 HP.out.2.2.1 HP.out.2.2.2)
           have HB3 := Lib.hid (bthen HB1.out b4)
           clear o4 b4)
        | (go_at_call 45; refine HS.out.mono ?_; rintro e w5 ⟨A5, c5, rfl, o5, b5⟩; have H5 := Lib.hid (And.intro o5 b5); clear o5 b5))
      go_ret
      exact ⟨_, _, rfl, H5.out.1.mono HB3.out.size (Nat.le_refl _), bthen HB3.out H5.out.2⟩

end Go.Proofs.YtokmmloakahkhaaGreat
/-
  The walk of the plain laws' wrInts.
-/
namespace Go.Proofs.YtokmmloakahkhaaGreat
open Go.RowKit

theorem RdInts.at_ {w : World} {B c : Nat} {A : Option Addr} {xs : List Int} (h : RdInts w B (.slice A xs.length c) xs) {k : Nat} (hk : k < xs.length) : ∃ b o, A = some ⟨b, o, none⟩ ∧ b < B ∧ w.cell? ⟨b, o + k, none⟩ = some (.int .i64 xs[k]) := by
  obtain ⟨A', c', e, _, hx⟩ := h
  injection e with e1 _ _
  subst e1
  obtain ⟨b, o, rfl, hb, hx⟩ := hx (by omega)
  exact ⟨b, o, rfl, hb, hx k hk⟩

set_option maxHeartbeats 1000000 in
set_option maxRecDepth 100000 in
theorem wrInts_any (va vb : Value) (xs ys : List Int) (w : World) (ha : RdInts w w.heap.size va xs) (hb : RdInts w w.heap.size vb ys) (hx : xs.length ≤ 1048576) (hy : ys.length ≤ 1048576) :
    Calls Tryz.prog 19 #[va, vb] w fun e w' => e = .returned (.bool (decide (xs = ys))) ∧ Below w.heap.size w w' := by
  have HX := Lib.hid ha
  have HY := Lib.hid hb
  obtain ⟨A, c, rfl, hc, _⟩ := ha
  obtain ⟨A2, c2, rfl, hc2, _⟩ := hb
  by_cases hl : xs.length = ys.length
  · have hl1 : ((xs.length : Int) != (ys.length : Int)) = false := by simp [hl]
    have HL := Lib.hid hl
    clear hl
    go_enter Tryz.func19, Tryz.ntmps19
    go_wp2_with (fail)
    go_loopw [13] (fun i wr => ∃ k : Nat, k ≤ xs.length ∧ i = .int .i64 k ∧ (∀ j, j < k → xs[j]? = ys[j]?) ∧ Below w.heap.size w wr) (fun i _ => xs.length - (intOf i).toNat)
    case atStart => exact ⟨0, Nat.zero_le _, rfl, fun j h => absurd h (Nat.not_lt_zero _), Below.refl _ _⟩
    case round =>
      obtain ⟨k, hk, rfl, hs, hbe⟩ := hrel
      by_cases hlt : k < xs.length
      · have hlt2 : k < ys.length := by have := HL.out; omega
        obtain ⟨b, o, rfl, hbB, k0⟩ := (HX.out.on hbe).at_ hlt
        obtain ⟨b2, o2, rfl, hbB2, m0⟩ := (HY.out.on hbe).at_ hlt2
        have d0 : wr.drew.cell? ⟨b, o + k, none⟩ = some (.int .i64 xs[k]) := k0
        have d1 : wr.drew.cell? ⟨b2, o2 + k, none⟩ = some (.int .i64 ys[k]) := m0
        have HBE := Lib.hid hbe
        by_cases he : xs[k] = ys[k]
        · have hdb : (xs[k] != ys[k]) = false := by simp [he]
          have HS2 := Lib.hid (show ∀ j, j < k + 1 → xs[j]? = ys[j]? from fun j hj => by
            by_cases e : j = k
            · subst e; rw [List.getElem?_eq_getElem hlt, List.getElem?_eq_getElem hlt2, he]
            · exact hs j (by omega))
          clear he hs hbe
          go_upto_region 6 with fail
          go_big_region
          go_wp2_with (fail)
          go_roundw
          case rel => exact ⟨k + 1, by omega, by go_num, HS2.out, HBE.out.drew⟩
          case measure => simp [intOf]; omega
        · have hdb : (xs[k] != ys[k]) = true := by simpa using he
          have HE := Lib.hid (show decide (xs = ys) = false from decide_eq_false fun e => he (by subst e; rfl))
          clear he hs hbe
          go_upto_region 6 with fail
          go_big_region
          go_wp2_with (fail)
          go_ret
          exact ⟨ret_bool HE.out.symm, HBE.out.drew⟩
      · have HE := Lib.hid (show decide (xs = ys) = true from decide_eq_true (List.ext_getElem? fun j => by
          by_cases e : j < k
          · exact hs j e
          · have := HL.out
            rw [List.getElem?_eq_none (by omega), List.getElem?_eq_none (by omega)]))
        clear hs
        go_wp2_with (fail)
        go_ret
        exact ⟨ret_bool HE.out.symm, hbe⟩
  · have hl1 : ((xs.length : Int) != (ys.length : Int)) = true := by simp; omega
    have HE := Lib.hid (show decide (xs = ys) = false from decide_eq_false fun e => hl (by rw [e]))
    clear hl
    go_enter Tryz.func19, Tryz.ntmps19
    go_wp2_with (fail)
    go_ret
    exact ⟨ret_bool HE.out.symm, Below.refl _ _⟩

end Go.Proofs.YtokmmloakahkhaaGreat
/-
  The walks of l3Next, l3All and Tried of the specification.
-/
namespace Go.Proofs.YtokmmloakahkhaaGreat
open Go.RowKit

theorem WkRows.getO {w : World} {lo hi c : Nat} {A : Option Addr} {xss : List (List Int)} (h : WkRows w lo hi (.slice A xss.length c) xss) {k : Nat} (hk : k < xss.length) :
    ∃ g A2 c2, A = some ⟨g, 0, Option.none⟩ ∧ g < w.heap.size ∧ w.cell? ⟨g, k, Option.none⟩ = some (.slice A2 xss[k].length c2) ∧ OwnInts w lo hi (.slice A2 xss[k].length c2) xss[k] := by
  obtain ⟨av, ⟨h0, ha⟩, hr, hlt⟩ := h
  have hcells := @World.ownsRow.cells w lo 31 1 _ xss.length av hr
  obtain ⟨g, cap, e, _, _⟩ := hr.form (by omega)
  injection e with e1 e2 e3
  subst e1
  have hlg := (hr.lt g rfl).2
  have h2 := hcells (g := g) rfl k (av[k]'(by omega)) (by simp [show k < av.length by omega])
  have h3 := ha k hk (by omega)
  obtain ⟨A2, c2, e4⟩ := h3.form
  rw [e4] at h2 h3
  refine ⟨g, A2, c2, rfl, hlg, ?_, h3⟩
  rw [Go.WideShapes.add_plain] at h2
  simpa using h2
theorem RdInts.noneT {w : World} {B : Nat} : RdInts w B (.slice Option.none 0 0) [] := ⟨Option.none, 0, rfl, Nat.le_refl _, fun h => absurd h (by simp)⟩
theorem WkRows.keepT {w w' : World} {lo hi : Nat} {v : Value} {xss : List (List Int)} (h : WkRows w lo hi v xss) (hk : ∀ q, lo ≤ q → q < hi → w'.heap[q]? = w.heap[q]?) : WkRows w' lo hi v xss := by
  obtain ⟨av, ⟨h0, ha⟩, hr, hlt⟩ := h
  exact ⟨av, ⟨h0, fun i a b => (ha i a b).keep hk⟩, ownsRow_only hr fun g hg => hk g (hr.lt g hg).1 (hlt g hg), hlt⟩
theorem getD_row {B : List (List Int)} {k : Nat} (h : k < B.length) : B.getD k [] = B[k] := by simp [h]

set_option maxHeartbeats 8000000 in
set_option maxRecDepth 100000 in
theorem l3Next_any (V : List Int) (hV : ∀ v ∈ V, 0 ≤ v ∧ v < 4) (hV4 : V.length ≤ 4) (lo : Nat) :
    ∀ (d k : Nat) (K : Int) (B : List (List Int)) (AV : Option Addr) (cV : Nat) (A : Option Addr) (c : Nat) (w : World), K = (k : Int) → k + d = V.length → (∀ b ∈ B, b.length = 4) → B.length * 6 ^ d ≤ 1296 → lo ≤ w.heap.size → RdInts w w.heap.size (.slice AV V.length cV) V → WkRows w lo w.heap.size (.slice A B.length c) B →
      Calls Tryz.prog 97 #[.slice AV V.length cV, .int .i64 K, .slice A B.length c] w fun e w' => ∃ A' c', e = .returned (.slice A' (allV (V.drop k) B).length c') ∧ WkRows w' lo w'.heap.size (.slice A' (allV (V.drop k) B).length c') (allV (V.drop k) B) ∧ Below w.heap.size w w' := by
  obtain ⟨i1, hi1, hy0, hy1, hy2⟩ := info_parts Tryz.infoIntS
  intro d
  induction d with
  | zero =>
    intro k K B AV cV A c w hK hkd hB4 hsz hlo hv hb
    have hke : k = V.length := by omega
    have l0 : (K == (V.length : Int)) = true := by rw [beq_iff_eq]; omega
    have HE := Lib.hid (show allV (V.drop k) B = B by rw [hke, List.drop_length]; rfl)
    have HBB := Lib.hid hb
    clear hK hkd hb hv
    go_enter Tryz.func97, Tryz.ntmps97
    go_wp2_with fail
    go_ret
    rw [HE.out]
    exact ⟨A, c, rfl, HBB.out, Below.refl _ _⟩
  | succ d ih =>
    intro k K B AV cV A c w hK hkd hB4 hsz hlo hv hb
    have HIH := Lib.hid ih
    clear ih
    have hkl : k < V.length := by omega
    have l0 : (K == (V.length : Int)) = false := by rw [beq_eq_false_iff_ne]; omega
    obtain ⟨vn, hvn⟩ : ∃ vn : Nat, V[k] = (vn : Int) := ⟨V[k].toNat, by have := hV _ (List.getElem_mem hkl); omega⟩
    have hvn4 : vn < 4 := by have := hV _ (List.getElem_mem hkl); omega
    have HVN := Lib.hid hvn
    have HV := Lib.hid hv
    have HBB := Lib.hid hb
    have HB4 := Lib.hid hB4
    have HSZ := Lib.hid (show B.length * 6 * 6 ^ d ≤ 1296 by rw [Nat.pow_succ] at hsz; rw [Nat.mul_assoc, Nat.mul_comm 6]; exact hsz)
    have hbl : B.length ≤ 216 := by
      have h1 : 1 ≤ 6 ^ d := Nat.one_le_pow _ _ (by decide)
      have h2 := HSZ.out
      have h3 : B.length * 6 * 1 ≤ B.length * 6 * 6 ^ d := Nat.mul_le_mul_left _ h1
      omega
    have HE := Lib.hid (show allV (V.drop k) B = allV (V.drop (k + 1)) (nextV (vn : Int) B) by rw [List.drop_eq_getElem_cons hkl, hvn]; rfl)
    have hkI : K < (V.length : Int) := by omega
    have HKK := Lib.hid hK
    have HKD := Lib.hid hkd
    subst hK
    clear hkd hb hv hB4 hsz hvn
    have C0 := Lib.hid (ColS.empty (lo := lo) (Below.refl w.heap.size w))
    go_enter Tryz.func97, Tryz.ntmps97
    go_wp2_with fail
    go_loopw [7, 8] (fun o i wr => ∃ (j : Nat) (A' : Option Addr) (c' : Nat) (av : List Value), j ≤ B.length ∧ i = .int .i64 j ∧ o = .slice A' (nextVTo (vn : Int) B j 0).length c' ∧ ColS lo w wr (nextVTo (vn : Int) B j 0) A' c' av) (fun _ i _ => B.length - (intOf i).toNat)
    case atStart => exact ⟨0, _, 0, [], Nat.zero_le _, rfl, by rw [nextVTo_start]; rfl, by rw [nextVTo_start]; exact C0.out⟩
    case round =>
      obtain ⟨j, A', c', av, hj, rfl, rfl, hcol⟩ := hrel
      have HC := Lib.hid hcol
      clear hcol
      by_cases hlt : j < B.length
      · have HRW := Lib.hid (nextVTo_row (v := (vn : Int)) hlt)
        go_wp2_with fail
        obtain ⟨wo, rfl⟩ : ∃ wo, wo = wr := ⟨_, rfl⟩
        go_loopw [7, 9] (fun o i wr => ∃ (x : Nat) (A' : Option Addr) (c' : Nat) (av : List Value), x ≤ 6 ∧ i = .int .i64 x ∧ o = .slice A' (nextVTo (vn : Int) B j x).length c' ∧ ColS lo w wr (nextVTo (vn : Int) B j x) A' c' av) (fun _ i _ => 6 - (intOf i).toNat)
        case atStart => exact ⟨0, _, _, _, Nat.zero_le _, rfl, rfl, HC.out⟩
        case round =>
          obtain ⟨x, A2, c2, av2, hx, rfl, rfl, hcol2⟩ := hrel
          have BW := Lib.hid hcol2.below
          have HC2 := Lib.hid hcol2
          clear hcol2
          by_cases hltx : x < 6
          · have hxd : decide ((x : Int) ≤ 5) = true := by simp; omega
            obtain ⟨g, A5, c5, hA, hgl, k0, r5⟩ := (HBB.out.below BW.out (Nat.le_refl _)).getO hlt
            subst hA
            have hb4 : B[j].length = 4 := HB4.out _ (List.getElem_mem hlt)
            obtain ⟨bj, hbj⟩ : ∃ bj, bj = B[j] := ⟨_, rfl⟩
            rw [← hbj] at k0 r5 hb4
            have HBJ := Lib.hid hbj
            have HB44 := Lib.hid hb4
            have r6 := (r5.mono (Nat.le_refl _) BW.out.size).rd
            obtain ⟨b2, o2, hAV, hb2, m0⟩ := (HV.out.on BW.out).at_ hkl
            subst hAV
            rw [HVN.out] at m0
            have CC := Lib.hid (l3Copy_any (.slice A5 bj.length c5) bj wr r6 (by omega))
            obtain ⟨O, hO⟩ : ∃ O, O = nextVTo (vn : Int) B j x := ⟨_, rfl⟩
            rw [← hO] at HC2 ⊢
            have HO := Lib.hid (show nextVTo (vn : Int) B j (x + 1) = O ++ [bj.set vn (x : Int)] by rw [nextVTo_step, ← hO, getD_row hlt, ← hbj, Int.toNat_natCast])
            have hol : O.length ≤ 1296 := by rw [hO, nextVTo_len (by omega)]; omega
            have hvI : (vn : Int) < 4 := by omega
            clear hbj hO r5 r6 hb4
            go_upto_region 11 with (go_at_call 79; refine CC.out.mono ?_; rintro e w5 ⟨P, cp, rfl, o5, b5⟩)
            obtain ⟨gp, rfl, p1, p2, p3, p4, p5⟩ := o5.at_ (show 0 < bj.length by have := HB44.out; omega)
            have hvb : vn < bj.length := by have := HB44.out; omega
            have n0 := p4 vn hvb
            have n1 := p5 vn
            have hvI2 : (vn : Int) < (bj.length : Int) := by omega
            have m1 := (b5.cell (p := ⟨b2, o2 + k, none⟩) hb2).trans m0
            have HST := Lib.hid (o5.store rfl hvb (x : Int))
            have HB5 := Lib.hid b5
            clear p4 p5 m0 k0 o5
            go_upto_region 12 with fail
            obtain ⟨ws, hws⟩ : ∃ ws, ws = w5.setCell ⟨gp, vn, none⟩ (.int .i64 (x : Int)) := ⟨_, rfl⟩
            have HBS := Lib.hid (show Below wr.heap.size wr ws by rw [hws]; exact HB5.out.setCell (by show wr.heap.size ≤ gp; omega) _)
            have HOS := Lib.hid (show OwnInts ws lo ws.heap.size (.slice (some ⟨gp, 0, none⟩) bj.length cp) (bj.set vn (x : Int)) from by
              rw [hws]
              exact HST.out.mono (Nat.le_trans hlo BW.out.size) (by simp))
            rw [← hws]
            clear hws n0 n1 m1 b5
            go_wp2_with (at_builtin; refine wpList_append_lies _ rfl (.tmp 39) (.tmp 41) 27 rfl w.heap.size 31 i1 (.slice none 0 0) 1 24 Tryz.underlying27 hi1 hy0 hy1 hy2 rfl (by decide) (.slice A2 O.length c2) O.length av2 rfl ?c1 ⟨ws.heap.size, 0, none⟩ 1 1 [.slice (some ⟨gp, 0, none⟩) bj.length cp] rfl rfl (news1s _ _ _ _ rfl) ?c2 (by omega) (by unfold maxLen; omega) (by omega) ?c3 _ rfl ?_)
            case c1 => exact ((HC2.out.on HBS.out).row).alloc _
            case c2 => first | (intro u hu; simp at hu; subst hu; rfl) | rfl
            case c3 => have := (HC2.out.on HBS.out).below.size; simp; omega
            intro g2 cap w7 hown hg _ _
            have HPU := Lib.hid (HC2.out.push (xss' := nextVTo (vn : Int) B j (x + 1)) HO.out HBS.out HOS.out hg hown)
            clear hown hg
            go_wp2_with fail
            go_roundw
            case rel => exact ⟨x + 1, _, _, _, by omega, by go_num, by rw [← HPU.out.2], HPU.out.1⟩
            case measure => simp [intOf]; omega
          · have hxe : x = 6 := by omega
            subst hxe
            have hxd : decide (((6 : Nat) : Int) ≤ 5) = false := by decide
            go_wp2_with fail
            go_roundw
            case rel => exact ⟨j + 1, A2, c2, av2, by omega, by go_num, by rw [← HRW.out], by rw [← HRW.out]; exact HC2.out⟩
            case measure => simp [intOf]; omega
      · have hje : j = B.length := by omega
        subst hje
        have hne := nextVTo_end (vn : Int) B
        have hrows := HC.out.rows hlo
        rw [hne] at hrows
        have hlen : (nextV (vn : Int) B).length = B.length * 6 := nextV_len _ _
        have CI := Lib.hid (HIH.out (k + 1) ((k : Int) + 1) (nextV (vn : Int) B) AV cV A' c' wr (by simp) (by have := HKD.out; omega) (fun b hb => by
          unfold nextV at hb
          obtain ⟨b0, hb0, hb1⟩ := List.mem_flatMap.1 hb
          obtain ⟨x, _, rfl⟩ := List.mem_map.1 hb1
          rw [List.length_set]
          exact HB4.out b0 hb0) (by rw [hlen]; exact HSZ.out) (Nat.le_trans hlo HC.out.below.size) (HV.out.on HC.out.below) hrows)
        have BW := Lib.hid HC.out.below
        have hne2 := Lib.hid hne
        rw [hne]
        clear hrows hlen hne
        go_wp2_with (go_at_call 97; refine CI.out.mono ?_; rintro e w9 ⟨A9, c9, rfl, o9, b9⟩
                     have HO9 := Lib.hid o9
                     have B9 := Lib.hid (bthen BW.out b9)
                     clear o9 b9)
        go_ret
        rw [HE.out]
        exact ⟨A9, c9, rfl, HO9.out, B9.out⟩

set_option maxHeartbeats 4000000 in
set_option maxRecDepth 100000 in
theorem l3All_any (v : Value) (ls : List LLit) (w : World) (h : RdLits w w.heap.size v ls) (hs : ls.length + totL ls ≤ 1048576) :
    Calls Tryz.prog 57 #[v] w fun e w' => ∃ A' c', e = .returned (.slice A' (allV (varsOf ((0, []), ls)) [noneB]).length c') ∧ WkRows w' w.heap.size w'.heap.size (.slice A' (allV (varsOf ((0, []), ls)) [noneB]).length c') (allV (varsOf ((0, []), ls)) [noneB]) ∧ Below w.heap.size w w' := by
  have H := Lib.hid h
  obtain ⟨A, c, rfl, hc, _⟩ := h
  obtain ⟨_, hv2, hv3, _⟩ := vars_of_body ls
  obtain ⟨V, hV⟩ : ∃ V, V = varsOf ((0, []), ls) := ⟨_, rfl⟩
  rw [← hV] at hv2 hv3
  have HV2 := Lib.hid hv2
  have HN := Lib.hid (l3Next_any V hv2 hv3 w.heap.size V.length 0 0 [noneB])
  have CV := Lib.hid (specVarsOf_any (.agg #[.int .i64 0, .slice none 0 0, .slice A ls.length c]) ((0, []), ls) w ⟨_, _, rfl, RdInts.noneT, H.out⟩ (by unfold szR; simp; omega))
  rw [← hV] at CV ⊢
  clear hV hv2
  go_enter Tryz.func57, Tryz.ntmps57
  go_wp2_with (first
    | (go_at_call 98; refine CV.out.mono ?_; rintro e w3 ⟨A3, c3, rfl, o3, b3⟩
       have B3 := Lib.hid b3
       have HV3 := Lib.hid o3.rd
       clear b3 o3)
    | (go_at_call 86; refine (l3None_any w3).mono ?_; rintro e w4 ⟨A4, c4, rfl, o4, b4⟩
       have B4 := Lib.hid (bthen B3.out b4)
       have HV4 := Lib.hid (HV3.out.on b4)
       have HO4 := Lib.hid (o4.mono B3.out.size (Nat.le_refl _))
       clear b4 o4)
    | (go_at_call 97
       obtain ⟨w5, hw5⟩ : ∃ w5, w5 = w4.alloc (.cells #[.slice A4 4 c4] 31) := ⟨_, rfl⟩
       have b5 : Below w4.heap.size w4 w5 := by rw [hw5]; exact below1 _ _
       have hone := WkRows.one HO4.out B4.out.size
       have hs5 : w4.heap.size + 1 = w5.heap.size := by rw [hw5]; simp
       rw [← hw5, hs5] at hone
       rw [← hw5]
       refine (HN.out A3 c3 (some ⟨w4.heap.size, 0, none⟩) 1 w5 rfl (by omega) (fun b hb => by simp at hb; subst hb; rfl) (by
         have h9 : 6 ^ V.length ≤ 6 ^ 4 := Nat.pow_le_pow_right (by decide) hv3
         simp; omega) (Nat.le_trans B4.out.size b5.size) (HV4.out.on b5) hone).mono ?_
       rintro e w6 ⟨A6, c6, rfl, o6, b6⟩
       have HO6 := Lib.hid o6
       have B6 := Lib.hid (bthen B4.out (bthen b5 b6))
       clear o6 b6 hone hs5 b5 hw5))
  go_ret
  exact ⟨A6, c6, rfl, HO6.out, B6.out⟩

/-- The rows so far for which the body holds. -/
def heldTo (fs : List LFact) (ls : List LLit) (N : List (List Int)) (k : Nat) : List (List Int) := (N.take k).filter fun b => ls.all fun l => litHolds fs l b
theorem heldTo_zero (fs : List LFact) (ls : List LLit) (N : List (List Int)) : heldTo fs ls N 0 = [] := by simp [heldTo]
theorem heldTo_yes {fs : List LFact} {ls : List LLit} {N : List (List Int)} {k : Nat} (h : k < N.length) (e : (ls.all fun l => litHolds fs l N[k]) = true) : heldTo fs ls N (k + 1) = heldTo fs ls N k ++ [N[k]] := by
  unfold heldTo
  rw [take_snoc N k h, List.filter_append]
  congr 1
  exact List.filter_eq_self.2 fun b hb => by rw [List.mem_singleton.1 hb]; exact e
theorem heldTo_no {fs : List LFact} {ls : List LLit} {N : List (List Int)} {k : Nat} (h : k < N.length) (e : (ls.all fun l => litHolds fs l N[k]) = false) : heldTo fs ls N (k + 1) = heldTo fs ls N k := by
  unfold heldTo
  rw [take_snoc N k h, List.filter_append]
  have : ([N[k]].filter fun b => ls.all fun l => litHolds fs l b) = [] := List.filter_eq_nil_iff.2 fun b hb => by rw [List.mem_singleton.1 hb, e]; decide
  rw [this, List.append_nil]
theorem allV_fours (ls : List LLit) : ∀ b ∈ allV (varsOf ((0, []), ls)) [noneB], b.length = 4 := fun b hb => by
  obtain ⟨h1, h2, _, _⟩ := vars_of_body ls
  have hR := allV_rows (varsOf ((0, []), ls)) [] [noneB] RowsV.start (by simpa using h1) h2
  rw [List.nil_append] at hR
  exact bindOk_len ((hR.mem b).1 hb).1

set_option maxHeartbeats 8000000 in
set_option maxRecDepth 100000 in
theorem specTried_any (v v2 : Value) (fs : List LFact) (ls : List LLit) (w : World) (h : RdFacts w w.heap.size v fs) (h2 : RdLits w w.heap.size v2 ls) (hbs : bodySafe ls = true) (hn : fs.length ≤ 1048576) (ht : tot fs ≤ 1048576) (hl : ls.length + totL ls ≤ 1048576) :
    Calls Tryz.prog 14 #[v, v2] w fun e w' => ∃ A c, e = .returned (.slice A (solsL fs ls).length c) ∧ RdRows w' w'.heap.size (.slice A (solsL fs ls).length c) (solsL fs ls) ∧ Below w.heap.size w w' := by
  obtain ⟨i1, hi1, hy0, hy1, hy2⟩ := info_parts Tryz.infoIntS
  have H := Lib.hid h
  have H2 := Lib.hid h2
  obtain ⟨A1, c1, rfl, hc1, _⟩ := h
  obtain ⟨A, c, rfl, hc, _⟩ := h2
  have HBS := Lib.hid hbs
  have HTM := Lib.hid (SafeB.of hbs).terms
  obtain ⟨cs, hcs⟩ : ∃ cs, constsL fs = cs := ⟨_, rfl⟩
  have HCS := Lib.hid hcs
  have hlx : ls.length ≤ 1048576 := by omega
  have hlt2 : totL ls ≤ 1048576 := by omega
  have CC := Lib.hid (fun (W : World) (hW : Below w.heap.size w W) => l3Consts_is hcs (.slice A1 fs.length c1) W.heap.size W (H.out.on hW) hn ht)
  have C0 := Lib.hid (ColS.empty (lo := w.heap.size) (Below.refl w.heap.size w))
  clear hcs hbs
  go_enter Tryz.func14, Tryz.ntmps14
  go_upto_region 2 with fail
  obtain ⟨w1, hw1⟩ : ∃ w1, w1 = w.alloc (.cells #[] 31) := ⟨_, rfl⟩
  rw [← hw1] at C0 ⊢
  have B1 := Lib.hid (show Below w.heap.size w w1 by rw [hw1]; exact below1 _ _)
  have HS1 := Lib.hid (show w1.heap.size = w.heap.size + 1 by rw [hw1]; simp)
  have HS1W := Lib.hid (show w.heap.size ≤ w1.heap.size by rw [hw1]; simp)
  clear hw1
  cases cs
  · have HR := Lib.hid (show solsL fs ls = [] by unfold solsL; rw [HCS.out, Bool.and_false]; rfl)
    go_wp2_with (go_at_call 44; refine (CC.out _ B1.out).mono ?_; rintro e w2 ⟨rfl, rfl⟩)
    go_ret
    refine ⟨some ⟨w.heap.size, 0, none⟩, 0, by rw [HR.out]; rfl, ?_, B1.out⟩
    rw [HR.out]
    exact (C0.out.rows (Nat.le_refl _)).rd
  · obtain ⟨N, hN⟩ : ∃ N, N = allV (varsOf ((0, []), ls)) [noneB] := ⟨_, rfl⟩
    have HN4 := Lib.hid (show ∀ b ∈ N, b.length = 4 by rw [hN]; exact allV_fours ls)
    have hNl : N.length ≤ 1296 := by
      rw [hN, allV_len]
      have h9 : 6 ^ (varsOf ((0, []), ls)).length ≤ 6 ^ 4 := Nat.pow_le_pow_right (by decide) (vars_of_body ls).2.2.1
      simp
      omega
    have HR := Lib.hid (show heldTo fs ls N N.length = solsL fs ls by
      rw [← tried_same HBS.out HCS.out]
      unfold heldTo triedL
      rw [List.take_length, hN])
    have CA := Lib.hid (fun (W : World) (hW : Below w.heap.size w W) => l3All_any (.slice A ls.length c) ls W (H2.out.on hW) hl)
    rw [← hN] at CA
    clear hN
    go_wp2_with (first
      | (go_at_call 44; refine (CC.out _ B1.out).mono ?_; rintro e w2 ⟨rfl, rfl⟩)
      | (go_at_call 57; refine (CA.out _ B1.out).mono ?_; rintro e w3 ⟨A3, c3, rfl, o3, b3⟩
         have B3 := Lib.hid (bthen B1.out b3)
         have HO3 := Lib.hid o3
         have HB3 := Lib.hid b3.size
         have C3 := Lib.hid (C0.out.on b3)
         clear o3 b3))
    go_loopw [5, 7] (fun o i wr => ∃ (k : Nat) (A' : Option Addr) (c' : Nat) (av : List Value), k ≤ N.length ∧ i = .int .i64 k ∧ o = .slice A' (heldTo fs ls N k).length c' ∧ ColS w.heap.size w wr (heldTo fs ls N k) A' c' av ∧ (∀ q, w1.heap.size ≤ q → q < w3.heap.size → wr.heap[q]? = w3.heap[q]?) ∧ (∀ q, (Value.slice A' (heldTo fs ls N k).length c').ownBlock = some q → q < w1.heap.size ∨ w3.heap.size ≤ q) ∧ w3.heap.size ≤ wr.heap.size) (fun _ i _ => N.length - (intOf i).toNat)
    case atStart => exact ⟨0, _, 0, [], Nat.zero_le _, rfl, by rw [heldTo_zero]; rfl, by rw [heldTo_zero]; exact C3.out, fun _ _ _ => rfl, fun q hq => (by
      have h1 : w.heap.size = q := by simpa [Value.ownBlock] using hq
      have h2 := HS1.out
      omega), Nat.le_refl _⟩
    case round =>
      obtain ⟨k, A', c', av, hk, rfl, rfl, hcol, hkn, hob, hsw⟩ := hrel
      have HC := Lib.hid hcol
      have HKN := Lib.hid hkn
      have HOB := Lib.hid hob
      have BW := Lib.hid hcol.below
      clear hcol hkn hob
      by_cases hlt : k < N.length
      · obtain ⟨g, A5, c5, hA3, hgl, k0, o5⟩ := (HO3.out.keepT HKN.out).getO hlt
        subst hA3
        obtain ⟨b, hb⟩ : ∃ b, b = N[k]'hlt := ⟨_, rfl⟩
        rw [← hb] at k0 o5
        have hb4 : b.length = 4 := by rw [hb]; exact HN4.out _ (List.getElem_mem hlt)
        have HO5 := Lib.hid o5
        obtain ⟨q, hq⟩ : ∃ q, q = ls.all fun l => litHolds fs l b := ⟨_, rfl⟩
        have CT := Lib.hid (l3Try_any (.slice A1 fs.length c1) (.slice A ls.length c) (.slice A5 b.length c5) fs ls b q hq wr (H.out.on BW.out) (H2.out.on BW.out) ((o5.mono (Nat.le_refl _) hsw).rd) hb4 HTM.out hn ht hlx hlt2)
        obtain ⟨O, hO⟩ : ∃ O, O = heldTo fs ls N k := ⟨_, rfl⟩
        rw [← hO] at HC HOB ⊢
        have hol : O.length ≤ 1296 := by
          rw [hO]
          unfold heldTo
          have h1 := List.length_filter_le (fun b => ls.all fun l => litHolds fs l b) (N.take k)
          have h2 : (N.take k).length ≤ N.length := by simp; omega
          omega
        have HQ := Lib.hid (And.intro hb (And.intro hq hO))
        clear hb hq hO hb4 o5
        cases q
        · have HN := Lib.hid (show heldTo fs ls N (k + 1) = O from by rw [heldTo_no hlt (by rw [← HQ.out.1]; exact HQ.out.2.1.symm)]; exact HQ.out.2.2.symm)
          go_wp2_with (go_at_call 58; refine CT.out.mono ?_; rintro e w5 ⟨rfl, b5⟩; have B5 := Lib.hid b5; clear b5)
          go_roundw
          case rel => exact ⟨k + 1, A', c', av, by omega, by go_num, by rw [HN.out], by rw [HN.out]; exact HC.out.on B5.out, fun q h1 h2 => (B5.out.block q (by omega)).trans (HKN.out q h1 h2), by rw [HN.out]; exact HOB.out, Nat.le_trans hsw B5.out.size⟩
          case measure => simp [intOf]; omega
        · have HN := Lib.hid (show heldTo fs ls N (k + 1) = O ++ [b] from by rw [heldTo_yes hlt (by rw [← HQ.out.1]; exact HQ.out.2.1.symm), ← HQ.out.1, ← HQ.out.2.2])
          have K0 := Lib.hid k0
          go_upto_region 9 with (go_at_call 58; refine CT.out.mono ?_; rintro e w5 ⟨rfl, b5⟩; have B5 := Lib.hid b5; clear b5)
          clear k0
          have k0 := (B5.out.cell (p := ⟨g, k, none⟩) hgl).trans K0.out
          go_wp2_with (at_builtin; refine wpList_append_lies _ rfl (.tmp 28) (.tmp 33) 27 rfl w.heap.size 31 i1 (.slice none 0 0) 1 24 Tryz.underlying27 hi1 hy0 hy1 hy2 rfl (by decide) (.slice A' O.length c') O.length av rfl ?c1 ⟨w5.heap.size, 0, none⟩ 1 1 [.slice A5 b.length c5] rfl rfl (news1s _ _ _ _ rfl) ?c2 (by omega) (by unfold maxLen; omega) (by omega) ?c3 _ rfl ?_)
          case c1 => exact ((HC.out.on B5.out).row).alloc _
          case c2 => first | (intro u hu; simp at hu; subst hu; rfl) | rfl
          case c3 => have := (HC.out.on B5.out).below.size; simp; omega
          intro g2 cap w7 hown hg hat _
          have hg' := grown_from_alloc hg
          have h5 := B5.out.size
          have HQN := Lib.hid (show ∀ q, w1.heap.size ≤ q → q < w3.heap.size → w7.heap[q]? = w3.heap[q]? from fun q h1 h2 => by
            refine ((hg'.block q (by omega) (fun e => ?_)).trans (B5.out.block q (by omega))).trans (HKN.out q h1 h2)
            have := HOB.out q e.symm
            omega)
          have HQO := Lib.hid (show g2 < w1.heap.size ∨ w3.heap.size ≤ g2 from by
            rcases hat with h | h
            · exact HOB.out g2 h
            · right; first | omega | (simp at h; omega))
          have HQS := Lib.hid (show w3.heap.size ≤ w7.heap.size from by have := hg'.size; omega)
          have HPU := Lib.hid (HC.out.push (xss' := heldTo fs ls N (k + 1)) HN.out B5.out ((HO5.out.below B5.out hsw).mono HS1W.out (by omega)) hg hown)
          clear hown hg k0
          go_wp2_with fail
          go_roundw
          case rel => exact ⟨k + 1, _, _, _, by omega, by go_num, by rw [← HPU.out.2], HPU.out.1, HQN.out, fun q hq => (by
            have h1 : g2 = q := by simpa [Value.ownBlock] using hq
            rw [← h1]; exact HQO.out), HQS.out⟩
          case measure => simp [intOf]; omega
      · have hke : k = N.length := by omega
        subst hke
        have HC2 := Lib.hid HC.out
        rw [HR.out] at HC2 ⊢
        go_wp2_with fail
        go_ret
        exact ⟨A', c', rfl, (HC2.out.rows (Nat.le_refl _)).rd, HC2.out.below⟩

end Go.Proofs.YtokmmloakahkhaaGreat
/-
  The walk of the plain laws' wrRows, at two rows that read alike.
-/
namespace Go.Proofs.YtokmmloakahkhaaGreat
open Go.RowKit

set_option maxHeartbeats 4000000 in
set_option maxRecDepth 100000 in
theorem wrRows_any (va vb : Value) (R : List (List Int)) (w : World) (ha : RdRows w w.heap.size va R) (hb : RdRows w w.heap.size vb R) (hs : R.length ≤ 1048576) (hx : ∀ r ∈ R, r.length ≤ 1048576) :
    Calls Tryz.prog 9 #[va, vb] w fun e w' => e = .returned (.bool true) ∧ Below w.heap.size w w' := by
  have HX := Lib.hid ha
  have HY := Lib.hid hb
  have HS := Lib.hid hx
  obtain ⟨A, c, rfl, hc, _⟩ := ha
  obtain ⟨A2, c2, rfl, hc2, _⟩ := hb
  have hl1 : ((R.length : Int) != (R.length : Int)) = false := by simp
  clear hx
  go_enter Tryz.func9, Tryz.ntmps9
  go_wp2_with (fail)
  go_loopw [13] (fun i wr => ∃ k : Nat, k ≤ R.length ∧ i = .int .i64 k ∧ Below w.heap.size w wr) (fun i _ => R.length - (intOf i).toNat)
  case atStart => exact ⟨0, Nat.zero_le _, rfl, Below.refl _ _⟩
  case round =>
    obtain ⟨k, hk, rfl, hbe⟩ := hrel
    by_cases hlt : k < R.length
    · obtain ⟨b, o, A3, c3, rfl, hbB, k0, r3⟩ := (HX.out.on hbe).get hlt
      obtain ⟨b2, o2, A4, c4, rfl, hbB2, m0, r4⟩ := (HY.out.on hbe).get hlt
      have M0 := later_cell k0
      have M1 := later_cell m0
      have hsl := HS.out _ (List.getElem_mem hlt)
      have D1 := Lib.hid (fun x : Later wr => later_of (show Calls Tryz.prog 19 #[.slice A3 R[k].length c3, .slice A4 R[k].length c4] x.val fun e w' => e = .returned (.bool true) ∧ Below x.val.heap.size x.val w' from by
        have := wrInts_any (.slice A3 R[k].length c3) (.slice A4 R[k].length c4) R[k] R[k] x.val (r3.on x.2) (r4.on x.2) hsl hsl
        rw [show decide (R[k] = R[k]) = true by simp] at this
        exact this))
      have HBE := Lib.hid hbe
      clear k0 m0 hbe r3 r4
      go_upto_region 6 with fail
      go_cut [25] (fun s wx => s = .bool false ∧ Below wr.heap.size wr wx)
      case first =>
        refine wp_region_later (by kernel_rfl) (by kernel_rfl) ?_
        repeat (go_big_quiet_step ((go_at_call 19; exact D1.out _)))
        refine wpQuiet_nil ?_
        rintro _ ⟨xq, rfl⟩
        go_wp2_with (fail)
        go_meet
        exact ⟨rfl, xq.2⟩
      case rest =>
        obtain ⟨rfl, b8⟩ := hcut
        have HB8 := Lib.hid (bthen HBE.out b8)
        clear b8 M0 M1
        go_wp2_with fail
        go_roundw
        case rel => exact ⟨k + 1, by omega, by go_num, HB8.out⟩
        case measure => simp [intOf]; omega
    · go_wp2_with fail
      go_ret
      exact ⟨rfl, hbe⟩

end Go.Proofs.YtokmmloakahkhaaGreat
/-
  A slice of bytes that came in.
-/
namespace Go.Proofs.YtokmmloakahkhaaGreat
open Go.ChangeShapes Go.WideShapes Go.ChangeAt Go.RowKit Go.Joins Go.Deep

theorem Tryz.cells5 : Tryz.prog.cellsOf 5 = 1 := by kernel_rfl

/-- What is known of a slice of bytes that came in. -/
def InBytes (W : World) (v : Value) (bs : List Nat) : Prop := RdBytes W W.heap.size v bs ∧ bs.length ≤ maxLen ∧ ∀ b ∈ bs, b < 256

theorem byte_of_wf {n : Int} (h : (Lit.int .u8 n).wf = true) : 0 ≤ n ∧ n < 256 := by
  simp only [Lit.wf, Bool.and_eq_true, decide_eq_true_eq] at h
  have h1 : IntKind.u8.min = 0 := by decide
  have h2 : IntKind.u8.max = 255 := by decide
  omega

set_option maxRecDepth 100000 in
theorem open_inBytes {H : Type} {enc : TypeId × Value → H} {W : World} {v : Value} {d : DataW H} {p : List MemPlace} {b0 : Nat} (hv : Value.okWide Tryz.prog W .any b0 22 v) (h : DataW.Trod enc Tryz.prog W 0 (fun _ => true) true 22 v d p) :
    ∃ bs, InBytes W v bs := by
  obtain ⟨a, len, cap, rfl⟩ := okWide_slice Tryz.underlying22 hv
  obtain ⟨fuel, hf⟩ := h
  have hf : DataW.trod enc Tryz.prog W 0 (fun _ => true) true fuel 22 [.slice a len cap] = some (d, p) := by simpa [Value.cells] using hf
  rcases open_ints Tryz.underlying22 Tryz.underlying5 Tryz.cells5 hf with ⟨hcs, _⟩ | ⟨a, len, cap, zs, hcs, _, hl, hm, hz, _, hcell, hwz⟩
  · simp at hcs
    obtain ⟨rfl, rfl, rfl⟩ := hcs
    exact ⟨[], ⟨none, 0, rfl, by simp, fun h => absurd h (by simp)⟩, by simp, by simp⟩
  · simp at hcs
    obtain ⟨rfl, rfl, rfl⟩ := hcs
    simp at hz
    refine ⟨(zs.take len).map Int.toNat, ⟨some a, cap, ?_, by simp; omega, fun hn => ?_⟩, by simp; omega, ?_⟩
    · congr 1
      simp
      omega
    · have hlen : (zs.take len).length = len := by simp; omega
      simp only [List.length_map, hlen] at hn
      obtain ⟨b, o, rfl, hc⟩ := ints_at hcell (by omega)
      refine ⟨b, o, rfl, World.block_lt_of_cell? _ _ (hc 0 (by omega)), fun k hk => ?_⟩
      simp only [List.length_map, hlen] at hk
      have hw := byte_of_wf (hwz zs[k] (List.getElem_mem (by omega)))
      rw [hc k (by omega)]
      simp [show k < zs.length by omega]
      omega
    · intro b hb
      rw [List.mem_map] at hb
      obtain ⟨z, hz1, rfl⟩ := hb
      have := byte_of_wf (hwz z (List.mem_of_mem_take hz1))
      omega

end Go.Proofs.YtokmmloakahkhaaGreat
/-
  The walk of the law FnSolutions.
-/
namespace Go.Proofs.YtokmmloakahkhaaGreat
open Go.RowKit

theorem solsL_all {fs : List LFact} {ls : List LLit} {b : List Int} (h : b ∈ solsL fs ls) : b.length = 4 ∧ ∀ l ∈ ls, holdsB fs l b = true := by
  unfold solsL at h
  split at h
  · rename_i hb
    rw [Bool.and_eq_true] at hb
    have hS := SafeB.of hb.1
    obtain ⟨_, h2⟩ := solsOf_is (fs := fs) (gs := setOf fs) hS (fun f hf => consts_of hb.2 f ((setOf_mem fs f).1 hf)) (asc_nodup (setOf_asc fs)) (setOf_mem fs)
    obtain ⟨k1, _, k3⟩ := (h2.2 b).1 h
    refine ⟨bindOk_len k1, fun l hl => ?_⟩
    unfold holdsB
    rw [k1, hS.terms l hl]
    exact k3 (l, fs) (List.mem_map.2 ⟨l, hl, rfl⟩)
  · cases h

set_option maxHeartbeats 8000000 in
set_option maxRecDepth 100000 in
theorem lawPlainSolutions_any (v : Value) (code : List Nat) (w : World) (hr : RdBytes w w.heap.size v code) (_ : code.length ≤ maxLen) (hby : ∀ b ∈ code, b < 256) :
    Calls Tryz.prog 3 #[v] w fun e w' => e = .returned (.bool true) ∧ Below w.heap.size w w' := by
  have HV := Lib.hid hr
  obtain ⟨Av, cv, rfl, hcv, _⟩ := hr
  go_enter Tryz.func3, Tryz.ntmps3
  by_cases hbig : 1048576 < code.length
  · have hd : decide ((1048576 : Int) < code.length) = true := by simp; omega
    go_wp2_with (fail)
    go_ret
    exact ⟨rfl, Below.refl _ _⟩
  have hd : decide ((1048576 : Int) < code.length) = false := by simp; omega
  have hbn : code.length ≤ 1073741824 := by omega
  go_upto_region 4 with (go_at_call 7; refine (drawSolutions_any _ code w HV.out hby hbn).mono ?_
                         rintro e w1 ⟨Af, Al, cf, cl, fs, ls, rfl, rf, rl, hf1, hf2, hl1, B1⟩)
  have HB1 := Lib.hid B1
  have HF := Lib.hid (show ∀ W, Below w1.heap.size w1 W → RdFacts W W.heap.size (.slice Af fs.length cf) fs from fun W hW => rf.on hW)
  have HL := Lib.hid (show ∀ W, Below w1.heap.size w1 W → RdLits W W.heap.size (.slice Al ls.length cl) ls from fun W hW => rl.on hW)
  have hn9 : fs.length ≤ 1048576 := by omega
  have ht9 : tot fs ≤ 1048576 := by omega
  have hl9 : ls.length + totL ls ≤ 1048576 := by omega
  obtain ⟨S, hS⟩ : ∃ S, S = solsL fs ls := ⟨_, rfl⟩
  have HS := Lib.hid hS
  have hSl : S.length ≤ 1048576 := by
    have := solsL_sz fs ls
    rw [← hS] at this
    unfold szRows at this
    omega
  have HSR := Lib.hid (show ∀ b ∈ S, b.length = 4 ∧ ∀ l ∈ ls, holdsB fs l b = true by rw [hS]; exact fun b hb => solsL_all hb)
  have CI := Lib.hid (implSolutions_any (.slice Af fs.length cf) (.slice Al ls.length cl) fs ls S hS w1 (HF.out _ (Below.refl _ _)) (HL.out _ (Below.refl _ _)) hn9 ht9 hl9)
  have CS := Lib.hid (fun W (hW : Below w1.heap.size w1 W) => specSolutions_any (.slice Af fs.length cf) (.slice Al ls.length cl) fs ls S hS W (HF.out _ hW) (HL.out _ hW) hn9 ht9 hl9)
  obtain ⟨bo, hbo⟩ : ∃ bo, bo = bodySafe ls := ⟨_, rfl⟩
  have HBO := Lib.hid hbo
  have CBI := Lib.hid (fun W (hW : Below w1.heap.size w1 W) => implBodySafe_any (.slice Al ls.length cl) ls W (HL.out _ hW) hl9)
  have CBS := Lib.hid (fun W (hW : Below w1.heap.size w1 W) => specBodySafe_any (.slice Al ls.length cl) ls W (HL.out _ hW) hl9)
  rw [← hbo] at CBI CBS
  have hneq : (bo != bo) = false := by simp
  clear hbo hS B1 rf rl
  go_upto_region 5 with (go_at_call 8; refine CI.out.mono ?_; rintro e w2 ⟨A2, c2, rfl, o2, b2⟩)
  have B2 := Lib.hid b2
  have HS2 := Lib.hid o2.rd
  clear o2 b2
  go_upto_region 7 with (first
    | (go_at_call 10; refine (CS.out _ B2.out).mono ?_; rintro e w3 ⟨A3, c3, rfl, o3, b3⟩
       have B3 := Lib.hid (bthen B2.out b3)
       have HS3 := Lib.hid (HS2.out.on b3)
       have HW3 := Lib.hid o3.rd
       clear o3 b3)
    | (go_at_call 9; refine (wrRows_any (.slice A2 S.length c2) (.slice A3 S.length c3) S w3 HS3.out HW3.out hSl (fun r hr => by have := (HSR.out r hr).1; omega)).mono ?_
       rintro e w4 ⟨rfl, b4⟩
       have B4 := Lib.hid (bthen B3.out b4)
       have HS4 := Lib.hid (HS3.out.on b4)
       clear b4)
    | (go_at_call 11; refine (CBI.out _ B4.out).mono ?_; rintro e w5 ⟨rfl, b5⟩
       have B5 := Lib.hid (bthen B4.out b5)
       have HS5 := Lib.hid (HS4.out.on b5)
       clear b5)
    | (go_at_call 12; refine (CBS.out _ B5.out).mono ?_; rintro e w6 ⟨rfl, b6⟩
       have B6 := Lib.hid (bthen B5.out b6)
       have HS6 := Lib.hid (HS5.out.on b6)
       clear b6))
  cases bo
  · have hS0 : ((S.length : Int) == 0) = true := by
      rw [HS.out]
      unfold solsL
      rw [← HBO.out]
      rfl
    go_wp2_with (go_at_call 11; refine (CBI.out _ B6.out).mono ?_; rintro e w7 ⟨rfl, b7⟩
                 have B7 := Lib.hid (bthen B6.out b7)
                 clear b7)
    go_ret
    exact ⟨rfl, bthen HB1.out B7.out⟩
  · go_wp2_with (go_at_call 11; refine (CBI.out _ B6.out).mono ?_; rintro e w7 ⟨rfl, b7⟩
                 have B7 := Lib.hid (bthen B6.out b7)
                 have HS7 := Lib.hid (HS6.out.on b7)
                 clear b7)
    go_loopw [42] (fun i wr => ∃ k : Nat, k ≤ S.length ∧ i = .int .i64 k ∧ Below w7.heap.size w7 wr) (fun i _ => S.length - (intOf i).toNat)
    case atStart => exact ⟨0, Nat.zero_le _, rfl, Below.refl _ _⟩
    case round =>
      obtain ⟨k, hk, rfl, hbe⟩ := hrel
      have BE := Lib.hid hbe
      have BW := Lib.hid (bthen B7.out hbe)
      clear hbe
      by_cases hlt : k < S.length
      · obtain ⟨b6, o6, A7, c7, hA2, hb6, k0, r6⟩ := (HS7.out.on BE.out).get hlt
        subst hA2
        obtain ⟨b, hb⟩ : ∃ b, b = S[k]'hlt := ⟨_, rfl⟩
        rw [← hb] at k0 r6
        have HR6 := Lib.hid r6
        have HBH := Lib.hid (show b.length = 4 ∧ ∀ l ∈ ls, holdsB fs l b = true by rw [hb]; exact HSR.out _ (List.getElem_mem hlt))
        clear hb r6
        go_wp2_with fail
        clear k0
        obtain ⟨wo, rfl⟩ : ∃ wo, wo = wr := ⟨_, rfl⟩
        go_loopw [48] (fun i wr => ∃ m : Nat, m ≤ ls.length ∧ i = .int .i64 m ∧ Below wo.heap.size wo wr) (fun i _ => ls.length - (intOf i).toNat)
        case atStart => exact ⟨0, Nat.zero_le _, rfl, Below.refl _ _⟩
        case round =>
          obtain ⟨m, hm, rfl, hbm⟩ := hrel
          have BM := Lib.hid hbm
          clear hbm
          by_cases hltm : m < ls.length
          · obtain ⟨b5, o5, y0, y1, y2, hAl, hb5, l0, l1, l2, rfl, rfl, q5⟩ := (HL.out _ (bthen BW.out BM.out)).get hltm
            subst hAl
            have Q5 := Lib.hid q5
            obtain ⟨A9, c9, rfl, _⟩ := q5
            obtain ⟨l, hl⟩ : ∃ l, l = ls[m]'hltm := ⟨_, rfl⟩
            rw [← hl] at l0 l1 l2 Q5
            have hll : l.2.2.length ≤ 1048576 := by
              rw [hl]
              have := len_le_totL ls m hltm
              omega
            have HHB := Lib.hid (show holdsB fs l b = true by rw [hl]; exact HBH.out.2 _ (List.getElem_mem hltm))
            clear hl
            go_upto_region 15 with fail
            obtain ⟨wl, hwl⟩ : ∃ wl, wl = wr.alloc (Obj.cells #[Value.int .i64 l.1, Value.int .i64 l.2.1, Value.slice A9 l.2.2.length c9] 35) := ⟨_, rfl⟩
            have bl : Below wr.heap.size wr wl := by rw [hwl]; exact below1 _ _
            have Y : Blk wl wr.heap.size 35 #[.int .i64 l.1, .int .i64 l.2.1, .slice A9 l.2.2.length c9] := by rw [hwl]; exact Blk.new _ _ _
            rw [← hwl]
            clear hwl l0 l1 l2
            have e0 : wl.cell? ⟨wr.heap.size, 0, none⟩ = some (.int .i64 l.1) := Y.cell 0
            have e1 : wl.cell? ⟨wr.heap.size, 1, none⟩ = some (.int .i64 l.2.1) := Y.cell 1
            have e2 : wl.cell? ⟨wr.heap.size, 2, none⟩ = some (.slice A9 l.2.2.length c9) := Y.cell 2
            have BL := Lib.hid (bthen BM.out bl)
            have CH := Lib.hid (implHolds_any (.slice Af fs.length cf) (.agg #[.int .i64 l.1, .int .i64 l.2.1, .slice A9 l.2.2.length c9]) (.slice A7 b.length c7) fs l b wl (HF.out _ (bthen BW.out BL.out)) ⟨_, rfl, Q5.out.on bl⟩ (HR6.out.on BL.out) hn9 ht9 hll (by have := HBH.out.1; omega))
            rw [HHB.out] at CH
            clear bl Y
            go_wp2_with (go_at_call 13; refine CH.out.mono ?_; rintro e w9 ⟨rfl, b9⟩
                         have B9 := Lib.hid (bthen BL.out b9)
                         clear b9)
            go_roundw
            case rel => exact ⟨m + 1, by omega, by go_num, B9.out⟩
            case measure => simp [intOf]; omega
          · go_wp2_with fail
            go_roundw
            case rel => exact ⟨k + 1, by omega, by go_num, bthen BE.out BM.out⟩
            case measure => simp [intOf]; omega
      · have CT := Lib.hid (specTried_any (.slice Af fs.length cf) (.slice Al ls.length cl) fs ls wr (HF.out _ BW.out) (HL.out _ BW.out) HBO.out.symm hn9 ht9 hl9)
        rw [← HS.out] at CT
        have HSW := Lib.hid (HS7.out.on BE.out)
        go_wp2_with (first
          | (go_at_call 14; refine CT.out.mono ?_; rintro e w10 ⟨A10, c10, rfl, r10, b10⟩
             have B10 := Lib.hid (bthen BW.out b10)
             have HX10 := Lib.hid (And.intro (HSW.out.on b10) r10)
             clear r10 b10)
          | (go_at_call 9; refine (wrRows_any (.slice A2 S.length c2) (.slice A10 S.length c10) S w10 HX10.out.1 HX10.out.2 hSl (fun r hr => by have := (HSR.out r hr).1; omega)).mono ?_
             rintro e w11 ⟨rfl, b11⟩
             have B11 := Lib.hid (bthen B10.out b11)
             clear b11))
        go_ret
        exact ⟨rfl, bthen HB1.out B11.out⟩

theorem lawPlainSolutions_in (v : Value) (bs : List Nat) (w : World) (h : InBytes w v bs) : Calls Tryz.prog 3 #[v] w fun e w' => e = .returned (.bool true) ∧ Below w.heap.size w w' :=
  lawPlainSolutions_any v bs w h.1 h.2.1 h.2.2

end Go.Proofs.YtokmmloakahkhaaGreat
/-
  The law FnSolutions: for every input the call returns true, and each argument reads behind it as it read before. Conditions: none but the row's own.
-/
namespace Go.Proofs.YtokmmloakahkhaaGreat
open Go.ChangeShapes Go.WideShapes Go.ChangeAt Go.RowKit

set_option maxRecDepth 100000 in
theorem fnSolutions_lifted (os : Os) (started : os.Started) (H : Type) (enc : TypeId × Value → H) :
    ReturnsInHanded {} Tryz.checked os 3 .any (Rows.fnSolutionsSpec.pre6 enc Tryz.prog Tryz.f3 Rows.fnSolutionsRow.domain false) (Rows.fnSolutionsSpec.post enc Tryz.prog Tryz.f3 false true false false) := by
  refine returnsInHanded_of_change (C := Tryz.checked) Tryz.own started (by kernel_rfl) Tryz.func3
    (ChangeSpec.witness6 (enc := enc) (C := Tryz.checked) false ⟨#[], #[.slice none 0 0], []⟩ 8 (by kernel_rfl) (by kernel_rfl) (by kernel_rfl) (by kernel_rfl)) ?_
  intro W base args ds gs before hval0 hW hcnd _
  have hval : ∀ (j : Nat) t v, Tryz.f3.params[j]? = some t → args[j]? = some v → Value.okWide Tryz.prog W .any base t v := hval0
  have hW' := hW
  obtain ⟨p, q, hA0, hV, rfl, hfz, hnd⟩ := hW
  have hA : DataW.TrodAll enc Tryz.prog W 0 (fun _ => true) true Tryz.f3.params.toList args.toList ds p := hA0
  rw [Tryz.params3] at hA hval
  obtain ⟨v0, vs0, d0, ds0, p0, q0, hargs, rfl, rfl, h0, r0⟩ := trodAll_cons hA
  obtain ⟨rfl, rfl, rfl⟩ := trodAll_nil r0
  obtain rfl : args = #[v0] := by cases args; simp_all
  obtain ⟨rfl, rfl⟩ := trodVars_none hV
  have lt0 : ∀ x ∈ p0, x.block < W.heap.size := by obtain ⟨m, hm⟩ := h0; exact DataW.trod_lt m _ _ _ hm
  obtain ⟨x0, w0⟩ := open_inBytes (hval 0 22 v0 rfl rfl) h0
  clear hA0 hval0
  refine (lawPlainSolutions_in v0 x0 W w0).mono fun e W' ⟨he, bel⟩ => ?_
  subst he
  exact ⟨_, rfl, _, _, _, [], _, [], hW', trodAll_mk1 (shut_bool Tryz.underlying4 _), (trodAll_cons_mk (Below.trod Tryz.laidOut (by kernel_rfl) (of_decide_eq_true (by kernel_rfl)) h0 bel lt0) trodAll_mk0), rfl, bel.frame _, fun h => by cases h⟩

end Go.Proofs.YtokmmloakahkhaaGreat
/-
  The law FnSolutions: for every input the call returns true, and each argument reads behind it as it read before. Conditions: none but the row's own.
-/
namespace Go.Proofs.YtokmmloakahkhaaGreat
open Go.ChangeShapes Go.WideShapes Go.ChangeAt Go.RowKit

theorem fnSolutions_holds : Rows.FnSolutionsSaid :=
  OpenClaim.holds_of_wide 3 Tryz.f3 rfl rfl rfl rfl rfl rfl rfl ⟨rfl, rfl, rfl, rfl, rfl⟩ rfl rfl rfl rfl rfl (by kernel_rfl) Tryz.func3 fnSolutions_joined
    (of_decide_eq_true (by kernel_rfl)) (by unfold Func.isWrapper; rw [if_neg (of_decide_eq_false (by kernel_rfl))]; exact ⟨rfl, rfl⟩)
    (fun os started H enc _ => fnSolutions_lifted os started H enc)

end Go.Proofs.YtokmmloakahkhaaGreat
namespace Go.Proofs.YtokmmloakahkhaaGreat
open Go.ChangeShapes Go.WideShapes Go.ChangeAt Go.RowKit


end Go.Proofs.YtokmmloakahkhaaGreat
