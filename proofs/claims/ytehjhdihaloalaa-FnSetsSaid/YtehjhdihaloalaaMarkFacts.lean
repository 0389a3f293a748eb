/-
  Marks on lists of facts: the words, and the walks of markFactS, markFact, heldFactS.
-/
import Derived.Test.YtehjhdihaloalaaMark
import Derived.Test.YtehjhdihaloalaaHas
namespace Go.Proofs.Ytehjhdihaloalaa
open Go.RowKit

/-- The facts that marks from k on leave. -/
def markF : Int → List LFact → List LFact
  | _, [] => []
  | k, f :: fs => (k, seqI (k + 1) f.2.length) :: markF (k + 1 + (f.2.length : Int)) fs
/-- The mark behind the last one. -/
def endF (k : Int) (fs : List LFact) : Int := k + (fs.length : Int) + (tot fs : Int)

theorem tot_cons (f : LFact) (fs : List LFact) : tot (f :: fs) = f.2.length + tot fs := by simp [tot]
theorem tot_append (xs ys : List LFact) : tot (xs ++ ys) = tot xs + tot ys := by simp [tot]
theorem markF_length : ∀ (k : Int) (fs : List LFact), (markF k fs).length = fs.length
  | _, [] => rfl
  | k, f :: fs => by simp [markF, markF_length _ fs]
theorem markF_tot : ∀ (k : Int) (fs : List LFact), tot (markF k fs) = tot fs
  | _, [] => rfl
  | k, f :: fs => by simp [markF, tot_cons, seqI_length, markF_tot _ fs]
theorem markF_snoc : ∀ (k : Int) (fs : List LFact) (f : LFact), markF k (fs ++ [f]) = markF k fs ++ [(endF k fs, seqI (endF k fs + 1) f.2.length)]
  | k, [], f => by simp [markF, endF, tot]
  | k, g :: fs, f => by
    have h := markF_snoc (k + 1 + (g.2.length : Int)) fs f
    have e : endF (k + 1 + (g.2.length : Int)) fs = endF k (g :: fs) := by simp [endF, tot_cons]; omega
    rw [e] at h
    simp [markF, h]
def markedF (fs : List LFact) (k : Int) (j : Nat) : List LFact := markF k (fs.take j) ++ fs.drop j
theorem markedF_length {fs : List LFact} {k : Int} {j : Nat} (h : j ≤ fs.length) : (markedF fs k j).length = fs.length := by simp [markedF, markF_length]; omega
theorem markedF_at {fs : List LFact} {k : Int} {j : Nat} (h : j < fs.length) (h' : j < (markedF fs k j).length) : (markedF fs k j)[j] = fs[j] := by
  have hl : (markF k (fs.take j)).length = j := by rw [markF_length]; simp; omega
  have e : (markedF fs k j)[j]? = some fs[j] := by
    unfold markedF
    rw [List.getElem?_append_right (by omega), hl]
    simp [h]
  rw [List.getElem?_eq_getElem h'] at e
  exact Option.some.inj e
theorem markedF_step {fs : List LFact} {k : Int} {j : Nat} (h : j < fs.length) : (markedF fs k j).set j (endF k (fs.take j), seqI (endF k (fs.take j) + 1) fs[j].2.length) = markedF fs k (j + 1) := by
  have hl : (markF k (fs.take j)).length = j := by rw [markF_length]; simp; omega
  unfold markedF
  rw [List.drop_eq_getElem_cons h, List.set_append_right _ _ (by omega), hl, Nat.sub_self, List.set_cons_zero, take_snoc fs j h, markF_snoc]
  simp
theorem markedF_zero (fs : List LFact) (k : Int) : markedF fs k 0 = fs := by simp [markedF, markF]
theorem markedF_all (fs : List LFact) (k : Int) : markedF fs k fs.length = markF k fs := by simp [markedF]
theorem markF_at {fs : List LFact} {k : Int} {j : Nat} (h : j < fs.length) (h' : j < (markF k fs).length) : (markF k fs)[j] = (endF k (fs.take j), seqI (endF k (fs.take j) + 1) fs[j].2.length) := by
  have e : fs = fs.take (j + 1) ++ fs.drop (j + 1) := (List.take_append_drop _ _).symm
  have hl : (markF k (fs.take j)).length = j := by rw [markF_length]; simp; omega
  have hp : ∀ (xs ys : List LFact) (k : Int), ∃ zs, markF k (xs ++ ys) = markF k xs ++ zs := by
    intro xs
    induction xs with
    | nil => intro ys k; exact ⟨_, rfl⟩
    | cons x xs ih =>
      intro ys k
      obtain ⟨zs, hz⟩ := ih ys (k + 1 + (x.2.length : Int))
      exact ⟨zs, by simp [markF, hz]⟩
  obtain ⟨zs, hz⟩ := hp (fs.take (j + 1)) (fs.drop (j + 1)) k
  rw [← e, take_snoc fs j h, markF_snoc] at hz
  have : (markF k fs)[j]? = some (endF k (fs.take j), seqI (endF k (fs.take j) + 1) fs[j].2.length) := by
    rw [hz, List.append_assoc, List.getElem?_append_right (by omega), hl]
    simp
  rw [List.getElem?_eq_getElem h'] at this
  exact Option.some.inj this
theorem endF_zero (k : Int) (fs : List LFact) : endF k (fs.take 0) = k := by simp [endF, tot]
theorem endF_step {fs : List LFact} {k : Int} {j : Nat} (h : j < fs.length) : endF k (fs.take (j + 1)) = endF k (fs.take j) + 1 + (fs[j].2.length : Int) := by
  have := tot_take fs j h
  simp only [endF, List.length_take, this]
  omega
theorem tot_take_le (fs : List LFact) (j : Nat) : tot (fs.take j) ≤ tot fs := by
  have := tot_append (fs.take j) (fs.drop j)
  rw [List.take_append_drop] at this
  omega

/-- A row of facts of the call's own, its rows of integers named. -/
structure OwnFA (w : World) (lo hi : Nat) (v : Value) (fs : List LFact) (av : List Value) : Prop where
  args : OwnArgs w lo hi av (fs.map (·.2))
  row : w.ownsRow lo 28 2 v fs.length (flat fs av)
  lt : ∀ g, v.ownBlock = some g → g < hi
theorem OwnFA.own {w : World} {lo hi : Nat} {v : Value} {fs : List LFact} {av : List Value} (h : OwnFA w lo hi v fs av) : OwnFacts w lo hi v fs := ⟨av, h.args, h.row, h.lt⟩

theorem flat_set : ∀ (fs : List LFact) (av : List Value) (j : Nat) (f : LFact), av.length = fs.length → flat (fs.set j f) av = (flat fs av).set (j * 2) (.int .i64 f.1)
  | [], [], _, _, _ => rfl
  | [], a :: av, _, _, h => by simp at h
  | g :: fs, [], _, _, h => by simp at h
  | g :: fs, a :: av, 0, f, _ => by simp [flat]
  | g :: fs, a :: av, j + 1, f, h => by
    have := flat_set fs av j f (by simpa using h)
    simp [flat, Nat.add_mul, this]

/-- The block of a row of integers is no block of a row of facts. -/
theorem types_ne {w : World} {lo hi lo' g : Nat} {n : Nat} {v a : Value} {zs : List Value} {xs : List Int} (hr : w.ownsRow lo' 28 2 v n zs) (hv : v.ownBlock = some g) (ha : OwnInts w lo hi a xs) : a.ownBlock ≠ some g := by
  rcases hr.2 with ⟨rfl, _⟩ | ⟨g1, c1, cur1, rfl, _, h1, _⟩
  · cases hv
  · have e : g1 = g := by simpa [Value.ownBlock] using hv
    subst e
    rcases ha.1.2 with ⟨rfl, _⟩ | ⟨g2, c2, cur2, rfl, _, h2, _⟩
    · simp [Value.ownBlock]
    · intro e
      have e : g2 = g1 := by simpa [Value.ownBlock] using e
      subst e
      rw [h1] at h2
      injection h2 with h2
      injection h2 with _ h2
      exact absurd h2 (by decide)

theorem OwnFA.step {w w3 : World} {lo hi g j c : Nat} {fs : List LFact} {av : List Value} {p : Int} {ys : List Int} (h : OwnFA w lo hi (.slice (some ⟨g, 0, none⟩) fs.length c) fs av) (hj : j < fs.length) (hja : j < av.length)
    (hI : OwnInts w3 lo hi av[j] ys) (hg : (w.setCell ⟨g, j * 2, none⟩ (.int .i64 p)).grownBy w3 av[j].ownBlock) : OwnFA w3 lo hi (.slice (some ⟨g, 0, none⟩) fs.length c) (fs.set j (p, ys)) av := by
  obtain ⟨ha, hr, hlt⟩ := h
  have hlen : av.length = fs.length := by simpa using ha.len
  have hapart : ∀ i i' (hi' : i < av.length) (hi'' : i' < av.length), i ≠ i' → ∀ b, av[i].ownBlock = some b → av[i'].ownBlock ≠ some b := by
    intro i i' h1 h2 hne b hb hb'
    have hp := List.pairwise_iff_getElem.1 ha.apart
    rcases Nat.lt_or_gt_of_ne hne with hl | hl
    · exact hp i i' h1 h2 hl b hb hb'
    · exact hp i' i h2 h1 hl b hb' hb
  have hown : ∀ i (h1 : i < (fs.map (·.2)).length) (h2 : i < av.length), OwnInts w lo hi av[i] (fs.map (·.2))[i] := ha.own
  refine ⟨⟨by simp [hlen], fun i h1 h2 => ?_, ha.apart⟩, ?_, hlt⟩
  · by_cases e : i = j
    · subst e
      simpa using hI
    · have h0 := hown i (by simpa using h1) h2
      have hz : ((fs.set j (p, ys)).map (·.2))[i] = (fs.map (·.2))[i]'(by simpa using h1) := by
        simp [Ne.symm e]
      rw [hz]
      refine h0.kept fun b hb => ?_
      have hbg := types_ne hr rfl h0
      have hne : b ≠ g := fun e => hbg (by rw [hb, e])
      have hbl := h0.lt hb
      rw [hg.block b (by simpa using hbl.2.2) (fun e2 => hapart i j h2 hja e b hb e2.symm)]
      exact Below.heap_setCell _ _ _ _ hne
  · obtain ⟨hfl, hr2⟩ := hr
    have hgj := types_ne ⟨hfl, hr2⟩ rfl (hown j (by simpa using hj) hja)
    rcases hr2 with ⟨e, _⟩ | ⟨g', cap, cur, e, hbg, hgg, hn, hm, hs, ht⟩
    · cases e
    · injection e with e1 e2 e3
      injection e1 with e1
      injection e1 with e1 _ _
      subst e1
      subst e3
      have hgs := (Array.getElem?_eq_some_iff.1 hgg).1
      refine ⟨by rw [flat_set _ _ _ _ hlen]; simpa using hfl, .inr ⟨g, c, cur.setIfInBounds (j * 2) (.int .i64 p), by simp, hbg, ?_, by simpa using hn, hm, by simpa using hs, ?_⟩⟩
      · rw [hg.block g (by simpa using hgs) (fun e2 => hgj e2.symm)]
        simp [World.setCell, Array.getElem?_modify, hgg]
      · rw [flat_set _ _ _ _ hlen, List.length_set, Array.toList_setIfInBounds, List.take_set, ht]

theorem OwnFA.form {w : World} {lo hi : Nat} {v : Value} {fs : List LFact} {av : List Value} (h : OwnFA w lo hi v fs av) : ∃ A c, v = .slice A fs.length c ∧ (0 < fs.length → ∃ g, A = some ⟨g, 0, none⟩ ∧ lo ≤ g ∧ g < hi) := by
  rcases h.row.2 with ⟨rfl, h0⟩ | ⟨g, cap, _, rfl, hb, _⟩
  · exact ⟨none, 0, by rw [h0], fun hn => by omega⟩
  · exact ⟨_, _, rfl, fun _ => ⟨g, rfl, hb, h.lt g rfl⟩⟩
theorem OwnFacts.form {w : World} {lo hi : Nat} {v : Value} {fs : List LFact} (h : OwnFacts w lo hi v fs) : ∃ A c, v = .slice A fs.length c := by
  obtain ⟨av, h1, h2, h3⟩ := h
  obtain ⟨A, c, e, _⟩ := (OwnFA.mk h1 h2 h3).form
  exact ⟨A, c, e⟩
/-- What the walk reads of fact j. -/
theorem OwnFA.get {w : World} {lo hi g c j : Nat} {fs : List LFact} {av : List Value} (h : OwnFA w lo hi (.slice (some ⟨g, 0, none⟩) fs.length c) fs av) (hj : j < fs.length) (hja : j < av.length) :
    w.cell? ⟨g, j * 2, none⟩ = some (.int .i64 fs[j].1) ∧ w.frozen? ⟨g, j * 2, none⟩ = false ∧ w.cell? ⟨g, j * 2 + 1, none⟩ = some av[j] := by
  have hl : av.length = fs.length := by simpa using h.args.len
  have hcells := @World.ownsRow.cells w lo 28 2 _ fs.length (flat fs av) h.row g rfl
  have h1 := hcells _ _ (flat_at fs av hl j hj hja).1
  have h2 := hcells _ _ (flat_at fs av hl j hj hja).2
  rw [Go.WideShapes.add_plain, Nat.zero_add] at h1 h2
  refine ⟨h1, ?_, h2⟩
  rcases h.row.2 with ⟨e, _⟩ | ⟨g', cap, cur, e, _, hgg, _⟩
  · cases e
  · injection e with e1 _ _
    injection e1 with e1
    injection e1 with e1 _ _
    subst e1
    simp [World.frozen?, hgg]

set_option maxHeartbeats 1000000 in
set_option maxRecDepth 100000 in
theorem markFactS_any (v : Value) (fs : List LFact) (k : Int) (lo hi : Nat) (w : World) (h : OwnFacts w lo hi v fs) (hk0 : 0 ≤ k) (hk : k ≤ 4294967296) (hn : fs.length ≤ 1073741824) (ht : tot fs ≤ 1073741824) :
    Calls Try.prog 28 #[v, .int .i64 k] w fun e w' => e = .returned (.int .i64 (endF k fs)) ∧ OwnFacts w' lo hi v (markF k fs) ∧ Only lo hi w w' := by
  obtain ⟨av, h1, h2, h3⟩ := h
  have h : OwnFA w lo hi v fs av := ⟨h1, h2, h3⟩
  clear h1 h2 h3
  obtain ⟨A, c, hv, hform⟩ := h.form
  subst hv
  have hla : av.length = fs.length := by simpa using h.args.len
  have HLA := Lib.hid hla
  clear hla
  have H := Lib.hid h
  clear h
  go_enter Try.func28, Try.ntmps28
  go_wp2_with (fail)
  go_loopw [1, 5] (fun m i wr => ∃ (j : Nat) (q : Int), j ≤ fs.length ∧ i = .int .i64 j ∧ m = .int .i64 q ∧ q = endF k (fs.take j) ∧ OwnFA wr lo hi (.slice A fs.length c) (markedF fs k j) av ∧ Only lo hi w wr) (fun _ i _ => fs.length - (intOf i).toNat)
  case atStart => exact ⟨0, k, Nat.zero_le _, rfl, rfl, by rw [endF_zero], by rw [markedF_zero]; exact H.out, Only.refl _ _ _⟩
  case round =>
    obtain ⟨j, q, hj, rfl, rfl, hq, ho, hon⟩ := hrel
    by_cases hlt : j < fs.length
    · obtain ⟨g, rfl, hg1, hg2⟩ := hform (by omega)
      have hml := markedF_length (k := k) (Nat.le_of_lt hlt)
      have hja : j < av.length := by rw [HLA.out]; exact hlt
      have ho' : OwnFA wr lo hi (.slice (some ⟨g, 0, none⟩) (markedF fs k j).length c) (markedF fs k j) av := by rw [hml]; exact ho
      obtain ⟨c1, f1, c2⟩ := ho'.get (j := j) (by omega) hja
      have hI0 := ho.args.own j (by rw [List.length_map]; omega) hja
      have hat := markedF_at (k := k) hlt (by omega)
      rw [List.getElem_map, hat] at hI0
      rw [hat] at c1
      obtain ⟨A3, c3, hav⟩ := hI0.form
      rw [hav] at c2
      have hI1 := hI0.kept (w' := wr.setCell ⟨g, j * 2, none⟩ (.int .i64 q)) (fun b hb => Below.heap_setCell _ _ _ _ (fun e => types_ne ho'.row rfl hI0 (by rw [hb, e])))
      rw [hav] at hI1
      have hqb : 0 ≤ q ∧ q ≤ 8589934592 := by
        have h1 := tot_take_le fs j
        have h2 : (fs.take j).length ≤ fs.length := by rw [List.length_take]; omega
        subst hq
        simp only [endF] at *
        omega
      obtain ⟨hq0, hq1⟩ := hqb
      have hln := len_le_tot fs j hlt
      have HI := Lib.hid hI1
      have HO := Lib.hid (And.intro ho' (And.intro hml (And.intro hav hq)))
      clear hI0 hI1 ho ho' hml hat hq
      go_wp2_with (fail)
      refine (markIntS_any _ fs[j].2 (q + 1) lo hi _ HI.out (by omega) (by omega)).mono ?_
      rintro e w3 ⟨rfl, ho3, hg3⟩
      obtain ⟨hOF, hml, hav, hq⟩ := HO.out
      have hst := hOF.step (j := j) (by omega) hja (by rw [hav]; exact ho3) (by rw [hav]; exact hg3)
      rw [hml, hq, markedF_step hlt] at hst
      have hE := endF_step (k := k) hlt
      have hon3 : Only lo hi w w3 := (hon.setCell (p := ⟨g, j * 2, none⟩) ⟨hg1, hg2⟩ _).trans (Only.of_grown hg3 (fun b hb => by have := HI.out.lt hb; omega))
      have HS := Lib.hid (And.intro hst (show q + 1 + (fs[j].2.length : Int) = endF k (fs.take (j + 1)) by rw [hE, hq]))
      clear hst hOF hml hav hq hE
      go_wp2_with (fail)
      go_roundw
      case rel => exact ⟨j + 1, _, by omega, by go_num, rfl, HS.out.2, HS.out.1, hon3⟩
      case measure => simp [intOf]; omega
    · have hkn : j = fs.length := by omega
      have HO := Lib.hid (show OwnFacts wr lo hi (.slice A fs.length c) (markF k fs) by rw [← markedF_all, ← hkn]; rw [← hkn] at ho; exact ho.own)
      have HK := Lib.hid (show q = endF k fs by rw [hq, hkn, List.take_length])
      clear hkn ho hq
      go_wp2_with (fail)
      go_ret
      exact ⟨ret_int HK.out, HO.out, hon⟩

theorem endF_bound {fs : List LFact} {k : Int} (j : Nat) (hk0 : 0 ≤ k) (hk : k ≤ 4294967296) (hn : fs.length ≤ 1073741824) (ht : tot fs ≤ 1073741824) : 0 ≤ endF k (fs.take j) ∧ endF k (fs.take j) ≤ 8589934592 := by
  have h1 := tot_take_le fs j
  have h2 : (fs.take j).length ≤ fs.length := by rw [List.length_take]; omega
  simp only [endF]
  omega

set_option maxHeartbeats 1000000 in
set_option maxRecDepth 100000 in
theorem heldFactS_any (v : Value) (fs : List LFact) (k : Int) (w : World) (h : RdFacts w w.heap.size v (markF k fs)) (hk0 : 0 ≤ k) (hk : k ≤ 4294967296) (hn : fs.length ≤ 1073741824) (ht : tot fs ≤ 1073741824) :
    Calls Try.prog 29 #[v, .int .i64 k] w fun e w' => e = .returned (.int .i64 (endF k fs)) ∧ w = w' := by
  obtain ⟨A, c, rfl, hc, hcell⟩ := h
  rw [markF_length] at hc ⊢
  go_enter Try.func29, Try.ntmps29
  go_wp2_with (fail)
  go_loop [1, 5] (fun m i => ∃ (j : Nat) (q : Int), j ≤ fs.length ∧ i = .int .i64 j ∧ m = .int .i64 q ∧ q = endF k (fs.take j)) (fun _ i => fs.length - (intOf i).toNat)
  case atStart => exact ⟨0, k, Nat.zero_le _, rfl, rfl, by rw [endF_zero]⟩
  case round =>
    obtain ⟨j, q, hj, rfl, rfl, hq⟩ := hrel
    by_cases hlt : j < fs.length
    · obtain ⟨b, o, rfl, hbB, hx⟩ := hcell (by rw [markF_length]; omega)
      have hlm : j < (markF k fs).length := by rw [markF_length]; exact hlt
      obtain ⟨a, p1, p2, p3⟩ := hx j hlm
      rw [markF_at hlt hlm, ← hq] at p1 p3
      have h4 := p3
      obtain ⟨A3, c3, rfl, hc3, _⟩ := p3
      have h5 := (h4.more (Nat.le_refl _) : RdInts w w.heap.size _ (seqI (q + 1) fs[j].2.length))
      rw [seqI_length] at h5 p2
      have HR := Lib.hid h5
      have hqq := endF_bound (k := k) j hk0 hk hn ht
      rw [← hq] at hqq
      obtain ⟨hq0, hq1⟩ := hqq
      have hln := len_le_tot fs j hlt
      have hne : (q != q) = false := by simp
      have HE := Lib.hid (show q + 1 + (fs[j].2.length : Int) = endF k (fs.take (j + 1)) by rw [endF_step hlt, hq])
      clear hx hcell h4 h5 hq hc3 hlm
      go_wp2_with (fail)
      refine (heldIntS_any _ fs[j].2.length (q + 1) _ HR.out (by omega) (by omega)).mono ?_
      rintro e w3 ⟨rfl, rfl⟩
      have hneg : ¬ q + 1 + (fs[j].2.length : Int) < 0 := by omega
      go_wp2_with (fail)
      go_round
      case rel => exact ⟨j + 1, _, by omega, by go_num, rfl, HE.out⟩
      case measure => simp [intOf]; omega
    · have hkn : j = fs.length := by omega
      have HK := Lib.hid (show q = endF k fs by rw [hq, hkn, List.take_length])
      clear hkn hq hcell
      go_wp2_with (fail)
      go_ret
      exact ⟨ret_int HK.out, rfl⟩

set_option maxHeartbeats 400000 in
theorem markFact_any (a : Value) (f : LFact) (k : Int) (lo hi : Nat) (w : World) (h : OwnInts w lo hi a f.2) (hlo : hi ≤ w.heap.size) (hk0 : 0 ≤ k) (hk : k ≤ 8589934592) (hn : f.2.length ≤ 1073741824) :
    Calls Try.prog 44 #[.agg #[.int .i64 f.1, a], .int .i64 k] w fun e w' => e = .returned (.int .i64 (k + f.2.length)) ∧ Only lo hi w w' := by
  obtain ⟨A, c, hv⟩ := h.form
  subst hv
  have H := Lib.hid h
  have hd := fun g (hg : (Value.slice A f.2.length c).ownBlock = some g) => h.lt hg
  have HD := Lib.hid hd
  clear h hd
  go_enter Try.func44, Try.ntmps44
  go_wp2_with (fail)
  refine (markIntS_any _ f.2 k lo hi _ (H.out.below (below1 _ _) hlo) hk0 (by omega)).mono ?_
  rintro e w2 ⟨rfl, ho2, hg2⟩
  have hon : Only lo hi w w2 := (Only.of_below (below1 _ _)).trans (Only.of_grown hg2 (fun g hg => by have := HD.out g hg; omega))
  go_wp2_with (fail)
  go_ret
  exact ⟨rfl, hon⟩

end Go.Proofs.Ytehjhdihaloalaa
