/-
  Texts that the claim's last one imports, laid together: part 2 of 12. No condition of its own.
-/
import Derived.OrdersHeld
import Derived.Deep.RegionHeld3
import Derived.Test.YtokmmloakahkhaaGreatMSs1
/-
  The walks of FactsHas: the program's and the specification's.
-/
namespace Go.Proofs.YtokmmloakahkhaaGreat
open Go.RowKit

/-- One fact of a list, as a walk reads it. -/
theorem RdFacts.get {w : World} {B c : Nat} {A : Option Addr} {fs : List LFact} (h : RdFacts w B (.slice A fs.length c) fs) {k : Nat} (hk : k < fs.length) : ∃ b o A3 c3, A = some ⟨b, o, none⟩ ∧ b < B ∧
    w.cell? ⟨b, o + k * 2, none⟩ = some (.int .i64 fs[k].1) ∧ w.cell? ⟨b, o + k * 2 + 1, none⟩ = some (.slice A3 fs[k].2.length c3) ∧ RdInts w B (.slice A3 fs[k].2.length c3) fs[k].2 := by
  obtain ⟨A', c', e, hc, h⟩ := h
  injection e with e1 e2 e3
  subst e1
  obtain ⟨b, o, rfl, hb, hx⟩ := h (by omega)
  obtain ⟨a, h1, h2, h3⟩ := hx k hk
  have h4 := h3
  obtain ⟨A3, c3, rfl, _⟩ := h3
  exact ⟨b, o, A3, c3, rfl, hb, h1, h2, h4⟩

def factsHas (fs : List LFact) (f : LFact) : Bool := fs.any fun g => factOrder g f == 0
/-- 'none of the first k is the same'. -/
def HasNot (fs : List LFact) (f : LFact) (k : Nat) : Prop := factsHas (fs.take k) f = false
theorem HasNot.step {fs : List LFact} {f : LFact} {k : Nat} (h : HasNot fs f k) (hk : k < fs.length) (e : factOrder fs[k] f ≠ 0) : HasNot fs f (k + 1) := by
  unfold HasNot factsHas at h ⊢
  rw [take_snoc fs k hk, List.any_append, h]
  simp [e]
theorem HasNot.done {fs : List LFact} {f : LFact} (h : HasNot fs f fs.length) : factsHas fs f = false := by
  unfold HasNot at h
  rwa [List.take_length] at h
theorem has_yes {fs : List LFact} {f : LFact} {k : Nat} (hk : k < fs.length) (e : factOrder fs[k] f = 0) : factsHas fs f = true := by
  unfold factsHas
  rw [List.any_eq_true]
  exact ⟨fs[k], List.getElem_mem hk, by simp [e]⟩

set_option maxHeartbeats 1000000 in
set_option maxRecDepth 100000 in
theorem specFactsHas_any (v v2 : Value) (fs : List LFact) (f : LFact) (w : World) (h : RdFacts w w.heap.size v fs) (h2 : RdFact w w.heap.size v2 f) (hn : fs.length ≤ 1048576) (ht : tot fs ≤ 1048576) (hf : f.2.length ≤ 1048576) :
    Calls Tryz.prog 140 #[v, v2] w fun e w' => e = .returned (.bool (factsHas fs f)) ∧ Below w.heap.size w w' := by
  have H := Lib.hid h
  have H2 := Lib.hid h2
  obtain ⟨A, c, rfl, hc, _⟩ := h
  obtain ⟨a, rfl, A2, c2, rfl, hc2, _⟩ := h2
  go_enter Tryz.func140, Tryz.ntmps140
  go_wp2_with (fail)
  obtain ⟨w1, hw1⟩ : ∃ w1, w1 = (w.alloc (Obj.cells #[Value.int IntKind.i64 f.1, Value.slice A2 f.2.length c2] 42)) := ⟨_, rfl⟩
  have B1 : Below w.heap.size w w1 := by rw [hw1]; exact below1 _ _
  have k0 : Blk w1 w.heap.size 42 #[.int .i64 f.1, .slice A2 f.2.length c2] := by rw [hw1]; exact Blk.new w _ _
  rw [← hw1]
  clear hw1
  go_loopw [5] (fun i wr => ∃ k : Nat, k ≤ fs.length ∧ i = .int .i64 k ∧ HasNot fs f k ∧ Below w1.heap.size w1 wr) (fun i _ => fs.length - (intOf i).toNat)
  case atStart => exact ⟨0, Nat.zero_le _, rfl, by simp [HasNot, factsHas], Below.refl _ _⟩
  case round =>
    obtain ⟨k, hk, rfl, hs, hbe⟩ := hrel
    by_cases hlt : k < fs.length
    · have hB := bthen B1 hbe
      obtain ⟨b, o, A3, c3, rfl, hbB, k1, k2, k3⟩ := (H.out.on hB).get hlt
      have q0 : wr.cell? ⟨w.heap.size, 0, none⟩ = some (.int .i64 f.1) := (k0.below hbe k0.lt).cell 0
      have q1 : wr.cell? ⟨w.heap.size, 1, none⟩ = some (.slice A2 f.2.length c2) := (k0.below hbe k0.lt).cell 1
      have K3 := Lib.hid k3
      have hln := len_le_tot fs k hlt
      clear k3
      go_wp2_with (fail)
      go_still_tail 5, (by kernel_rfl)
      change wpList _ _ _ _ _ wr.drew
      obtain ⟨w2, hw2⟩ : ∃ w2, w2 = wr.drew := ⟨_, rfl⟩
      rw [← hw2]
      have hb2 : Below wr.heap.size wr w2 := by rw [hw2]; exact (Below.refl _ _).drew
      clear hw2
      go_wp2_with (fail)
      refine (specFactOrder_any _ _ fs[k] f _ ⟨_, rfl, K3.out.on hb2⟩ (H2.out.on (bthen hB hb2)) (by omega) hf).mono ?_
      rintro e w3 ⟨rfl, hb3⟩
      have hB3 := bthen (bthen hbe hb2) hb3
      by_cases he : factOrder fs[k] f = 0
      · have hz : (factOrder fs[k] f == 0) = true := by simp [he]
        have HS := Lib.hid (has_yes hlt he)
        clear he hs
        go_wp2_with (fail)
        go_ret
        exact ⟨ret_bool HS.out.symm, bthen B1 hB3⟩
      · have hz : (factOrder fs[k] f == 0) = false := by simp [he]
        have HS := Lib.hid (hs.step hlt he)
        clear he hs
        go_wp2_with (fail)
        go_roundw
        case rel => exact ⟨k + 1, by omega, by go_num, HS.out, hB3⟩
        case measure => simp [intOf]; omega
    · have hkn : k = fs.length := by omega
      have HS := Lib.hid (show factsHas fs f = false from HasNot.done (by rw [← hkn]; exact hs))
      clear hkn hs
      go_wp2_with (fail)
      go_ret
      exact ⟨ret_bool HS.out.symm, bthen B1 hbe⟩

set_option maxHeartbeats 1000000 in
set_option maxRecDepth 100000 in
theorem implFactsHas_any (v v2 : Value) (fs : List LFact) (f : LFact) (w : World) (h : RdFacts w w.heap.size v fs) (h2 : RdFact w w.heap.size v2 f) (hn : fs.length ≤ 1048576) (ht : tot fs ≤ 1048576) (hf : f.2.length ≤ 1048576) :
    Calls Tryz.prog 54 #[v, v2] w fun e w' => e = .returned (.bool (factsHas fs f)) ∧ Below w.heap.size w w' := by
  have H := Lib.hid h
  have H2 := Lib.hid h2
  obtain ⟨A, c, rfl, hc, _⟩ := h
  obtain ⟨a, rfl, A2, c2, rfl, hc2, _⟩ := h2
  go_enter Tryz.func54, Tryz.ntmps54
  go_wp2_with (fail)
  obtain ⟨w1, hw1⟩ : ∃ w1, w1 = (w.alloc (Obj.cells #[Value.int IntKind.i64 f.1, Value.slice A2 f.2.length c2] 42)) := ⟨_, rfl⟩
  have B1 : Below w.heap.size w w1 := by rw [hw1]; exact below1 _ _
  have k0 : Blk w1 w.heap.size 42 #[.int .i64 f.1, .slice A2 f.2.length c2] := by rw [hw1]; exact Blk.new w _ _
  rw [← hw1]
  clear hw1
  go_loopw [6, 9] (fun _ i wr => ∃ k : Nat, k ≤ fs.length ∧ i = .int .i64 k ∧ HasNot fs f k ∧ Below w1.heap.size w1 wr) (fun _ i _ => fs.length - (intOf i).toNat)
  case atStart => exact ⟨0, Nat.zero_le _, rfl, by simp [HasNot, factsHas], Below.refl _ _⟩
  case round =>
    obtain ⟨k, hk, rfl, hs, hbe⟩ := hrel
    by_cases hlt : k < fs.length
    · have hB := bthen B1 hbe
      obtain ⟨b, o, A3, c3, rfl, hbB, k1, k2, k3⟩ := (H.out.on hB).get hlt
      have q0 : ∀ O, (wr.alloc O).cell? ⟨w.heap.size, 0, none⟩ = some (.int .i64 f.1) := fun O => ((k0.below hbe k0.lt).alloc O).cell 0
      have q1 : ∀ O, (wr.alloc O).cell? ⟨w.heap.size, 1, none⟩ = some (.slice A2 f.2.length c2) := fun O => ((k0.below hbe k0.lt).alloc O).cell 1
      have K3 := Lib.hid k3
      have hln := len_le_tot fs k hlt
      clear k3
      go_wp2_with (fail)
      refine (implFactOrder_any _ _ fs[k] f _ ⟨_, rfl, K3.out.on (below1 _ _)⟩ (H2.out.on (bthen hB (below1 _ _))) (by omega) hf).mono ?_
      rintro e w3 ⟨rfl, hb3⟩
      have hB3 := bthen hbe (bthen (below1 _ _) hb3)
      by_cases he : factOrder fs[k] f = 0
      · have hz : (factOrder fs[k] f == 0) = true := by simp [he]
        have HS := Lib.hid (has_yes hlt he)
        clear he hs q0 q1
        go_wp2_with (fail)
        go_ret
        exact ⟨ret_bool HS.out.symm, bthen B1 hB3⟩
      · have hz : (factOrder fs[k] f == 0) = false := by simp [he]
        have HS := Lib.hid (hs.step hlt he)
        clear he hs q0 q1
        go_wp2_with (fail)
        go_roundw
        case rel => exact ⟨k + 1, by omega, by go_num, HS.out, hB3⟩
        case measure => simp [intOf]; omega
    · have hkn : k = fs.length := by omega
      have HS := Lib.hid (show factsHas fs f = false from HasNot.done (by rw [← hkn]; exact hs))
      clear hkn hs
      go_wp2_with (fail)
      go_ret
      exact ⟨ret_bool HS.out.symm, bthen B1 hbe⟩

end Go.Proofs.YtokmmloakahkhaaGreat
/-
  Marks on lists of facts: the words, and the walks of markFactS, markFact, heldFactS.
-/
namespace Go.Proofs.YtokmmloakahkhaaGreat
open Go.RowKit

/-- The facts that marks from k on leave. -/
def markF : Int → List LFact → List LFact
  | _, [] => []
  | k, f :: fs => (k, seqI (k + 1) f.2.length) :: markF (k + 1 + (f.2.length : Int)) fs
/-- The mark behind the last one. -/
def endF (k : Int) (fs : List LFact) : Int := k + (fs.length : Int) + (tot fs : Int)

theorem tot_cons (f : LFact) (fs : List LFact) : tot (f :: fs) = f.2.length + tot fs := by simp [tot]
theorem tot_append (xs ys : List LFact) : tot (xs ++ ys) = tot xs + tot ys := by simp [tot]
theorem markF_length : ∀ (k : Int) (fs : List LFact), (markF k fs).length = fs.length
  | _, [] => rfl
  | k, f :: fs => by simp [markF, markF_length _ fs]
theorem markF_tot : ∀ (k : Int) (fs : List LFact), tot (markF k fs) = tot fs
  | _, [] => rfl
  | k, f :: fs => by simp [markF, tot_cons, seqI_length, markF_tot _ fs]
theorem markF_snoc : ∀ (k : Int) (fs : List LFact) (f : LFact), markF k (fs ++ [f]) = markF k fs ++ [(endF k fs, seqI (endF k fs + 1) f.2.length)]
  | k, [], f => by simp [markF, endF, tot]
  | k, g :: fs, f => by
    have h := markF_snoc (k + 1 + (g.2.length : Int)) fs f
    have e : endF (k + 1 + (g.2.length : Int)) fs = endF k (g :: fs) := by simp [endF, tot_cons]; omega
    rw [e] at h
    simp [markF, h]
def markedF (fs : List LFact) (k : Int) (j : Nat) : List LFact := markF k (fs.take j) ++ fs.drop j
theorem markedF_length {fs : List LFact} {k : Int} {j : Nat} (h : j ≤ fs.length) : (markedF fs k j).length = fs.length := by simp [markedF, markF_length]; omega
theorem markedF_at {fs : List LFact} {k : Int} {j : Nat} (h : j < fs.length) (h' : j < (markedF fs k j).length) : (markedF fs k j)[j] = fs[j] := by
  have hl : (markF k (fs.take j)).length = j := by rw [markF_length]; simp; omega
  have e : (markedF fs k j)[j]? = some fs[j] := by
    unfold markedF
    rw [List.getElem?_append_right (by omega), hl]
    simp [h]
  rw [List.getElem?_eq_getElem h'] at e
  exact Option.some.inj e
theorem markedF_step {fs : List LFact} {k : Int} {j : Nat} (h : j < fs.length) : (markedF fs k j).set j (endF k (fs.take j), seqI (endF k (fs.take j) + 1) fs[j].2.length) = markedF fs k (j + 1) := by
  have hl : (markF k (fs.take j)).length = j := by rw [markF_length]; simp; omega
  unfold markedF
  rw [List.drop_eq_getElem_cons h, List.set_append_right _ _ (by omega), hl, Nat.sub_self, List.set_cons_zero, take_snoc fs j h, markF_snoc]
  simp
theorem markedF_zero (fs : List LFact) (k : Int) : markedF fs k 0 = fs := by simp [markedF, markF]
theorem markedF_all (fs : List LFact) (k : Int) : markedF fs k fs.length = markF k fs := by simp [markedF]
theorem markF_at {fs : List LFact} {k : Int} {j : Nat} (h : j < fs.length) (h' : j < (markF k fs).length) : (markF k fs)[j] = (endF k (fs.take j), seqI (endF k (fs.take j) + 1) fs[j].2.length) := by
  have e : fs = fs.take (j + 1) ++ fs.drop (j + 1) := (List.take_append_drop _ _).symm
  have hl : (markF k (fs.take j)).length = j := by rw [markF_length]; simp; omega
  have hp : ∀ (xs ys : List LFact) (k : Int), ∃ zs, markF k (xs ++ ys) = markF k xs ++ zs := by
    intro xs
    induction xs with
    | nil => intro ys k; exact ⟨_, rfl⟩
    | cons x xs ih =>
      intro ys k
      obtain ⟨zs, hz⟩ := ih ys (k + 1 + (x.2.length : Int))
      exact ⟨zs, by simp [markF, hz]⟩
  obtain ⟨zs, hz⟩ := hp (fs.take (j + 1)) (fs.drop (j + 1)) k
  rw [← e, take_snoc fs j h, markF_snoc] at hz
  have : (markF k fs)[j]? = some (endF k (fs.take j), seqI (endF k (fs.take j) + 1) fs[j].2.length) := by
    rw [hz, List.append_assoc, List.getElem?_append_right (by omega), hl]
    simp
  rw [List.getElem?_eq_getElem h'] at this
  exact Option.some.inj this
theorem endF_zero (k : Int) (fs : List LFact) : endF k (fs.take 0) = k := by simp [endF, tot]
theorem endF_step {fs : List LFact} {k : Int} {j : Nat} (h : j < fs.length) : endF k (fs.take (j + 1)) = endF k (fs.take j) + 1 + (fs[j].2.length : Int) := by
  have := tot_take fs j h
  simp only [endF, List.length_take, this]
  omega
theorem tot_take_le (fs : List LFact) (j : Nat) : tot (fs.take j) ≤ tot fs := by
  have := tot_append (fs.take j) (fs.drop j)
  rw [List.take_append_drop] at this
  omega

/-- A row of facts of the call's own, its rows of integers named. -/
structure OwnFA (w : World) (lo hi : Nat) (v : Value) (fs : List LFact) (av : List Value) : Prop where
  args : OwnArgs w lo hi av (fs.map (·.2))
  row : w.ownsRow lo 42 2 v fs.length (flat fs av)
  lt : ∀ g, v.ownBlock = some g → g < hi
theorem OwnFA.own {w : World} {lo hi : Nat} {v : Value} {fs : List LFact} {av : List Value} (h : OwnFA w lo hi v fs av) : OwnFacts w lo hi v fs := ⟨av, h.args, h.row, h.lt⟩

theorem flat_set : ∀ (fs : List LFact) (av : List Value) (j : Nat) (f : LFact), av.length = fs.length → flat (fs.set j f) av = (flat fs av).set (j * 2) (.int .i64 f.1)
  | [], [], _, _, _ => rfl
  | [], a :: av, _, _, h => by simp at h
  | g :: fs, [], _, _, h => by simp at h
  | g :: fs, a :: av, 0, f, _ => by simp [flat]
  | g :: fs, a :: av, j + 1, f, h => by
    have := flat_set fs av j f (by simpa using h)
    simp [flat, Nat.add_mul, this]

/-- The block of a row of integers is no block of a row of facts. -/
theorem types_ne {w : World} {lo hi lo' g : Nat} {n : Nat} {v a : Value} {zs : List Value} {xs : List Int} (hr : w.ownsRow lo' 42 2 v n zs) (hv : v.ownBlock = some g) (ha : OwnInts w lo hi a xs) : a.ownBlock ≠ some g := by
  rcases hr.2 with ⟨rfl, _⟩ | ⟨g1, c1, cur1, rfl, _, h1, _⟩
  · cases hv
  · have e : g1 = g := by simpa [Value.ownBlock] using hv
    subst e
    rcases ha.1.2 with ⟨rfl, _⟩ | ⟨g2, c2, cur2, rfl, _, h2, _⟩
    · simp [Value.ownBlock]
    · intro e
      have e : g2 = g1 := by simpa [Value.ownBlock] using e
      subst e
      rw [h1] at h2
      injection h2 with h2
      injection h2 with _ h2
      exact absurd h2 (by decide)

theorem OwnFA.step {w w3 : World} {lo hi g j c : Nat} {fs : List LFact} {av : List Value} {p : Int} {ys : List Int} (h : OwnFA w lo hi (.slice (some ⟨g, 0, none⟩) fs.length c) fs av) (hj : j < fs.length) (hja : j < av.length)
    (hI : OwnInts w3 lo hi av[j] ys) (hg : (w.setCell ⟨g, j * 2, none⟩ (.int .i64 p)).grownBy w3 av[j].ownBlock) : OwnFA w3 lo hi (.slice (some ⟨g, 0, none⟩) fs.length c) (fs.set j (p, ys)) av := by
  obtain ⟨ha, hr, hlt⟩ := h
  have hlen : av.length = fs.length := by simpa using ha.len
  have hapart : ∀ i i' (hi' : i < av.length) (hi'' : i' < av.length), i ≠ i' → ∀ b, av[i].ownBlock = some b → av[i'].ownBlock ≠ some b := by
    intro i i' h1 h2 hne b hb hb'
    have hp := List.pairwise_iff_getElem.1 ha.apart
    rcases Nat.lt_or_gt_of_ne hne with hl | hl
    · exact hp i i' h1 h2 hl b hb hb'
    · exact hp i' i h2 h1 hl b hb' hb
  have hown : ∀ i (h1 : i < (fs.map (·.2)).length) (h2 : i < av.length), OwnInts w lo hi av[i] (fs.map (·.2))[i] := ha.own
  refine ⟨⟨by simp [hlen], fun i h1 h2 => ?_, ha.apart⟩, ?_, hlt⟩
  · by_cases e : i = j
    · subst e
      simpa using hI
    · have h0 := hown i (by simpa using h1) h2
      have hz : ((fs.set j (p, ys)).map (·.2))[i] = (fs.map (·.2))[i]'(by simpa using h1) := by
        simp [Ne.symm e]
      rw [hz]
      refine h0.kept fun b hb => ?_
      have hbg := types_ne hr rfl h0
      have hne : b ≠ g := fun e => hbg (by rw [hb, e])
      have hbl := h0.lt hb
      rw [hg.block b (by simpa using hbl.2.2) (fun e2 => hapart i j h2 hja e b hb e2.symm)]
      exact Below.heap_setCell _ _ _ _ hne
  · obtain ⟨hfl, hr2⟩ := hr
    have hgj := types_ne ⟨hfl, hr2⟩ rfl (hown j (by simpa using hj) hja)
    rcases hr2 with ⟨e, _⟩ | ⟨g', cap, cur, e, hbg, hgg, hn, hm, hs, ht⟩
    · cases e
    · injection e with e1 e2 e3
      injection e1 with e1
      injection e1 with e1 _ _
      subst e1
      subst e3
      have hgs := (Array.getElem?_eq_some_iff.1 hgg).1
      refine ⟨by rw [flat_set _ _ _ _ hlen]; simpa using hfl, .inr ⟨g, c, cur.setIfInBounds (j * 2) (.int .i64 p), by simp, hbg, ?_, by simpa using hn, hm, by simpa using hs, ?_⟩⟩
      · rw [hg.block g (by simpa using hgs) (fun e2 => hgj e2.symm)]
        simp [World.setCell, Array.getElem?_modify, hgg]
      · rw [flat_set _ _ _ _ hlen, List.length_set, Array.toList_setIfInBounds, List.take_set, ht]

theorem OwnFA.form {w : World} {lo hi : Nat} {v : Value} {fs : List LFact} {av : List Value} (h : OwnFA w lo hi v fs av) : ∃ A c, v = .slice A fs.length c ∧ (0 < fs.length → ∃ g, A = some ⟨g, 0, none⟩ ∧ lo ≤ g ∧ g < hi) := by
  rcases h.row.2 with ⟨rfl, h0⟩ | ⟨g, cap, _, rfl, hb, _⟩
  · exact ⟨none, 0, by rw [h0], fun hn => by omega⟩
  · exact ⟨_, _, rfl, fun _ => ⟨g, rfl, hb, h.lt g rfl⟩⟩
theorem OwnFacts.form {w : World} {lo hi : Nat} {v : Value} {fs : List LFact} (h : OwnFacts w lo hi v fs) : ∃ A c, v = .slice A fs.length c := by
  obtain ⟨av, h1, h2, h3⟩ := h
  obtain ⟨A, c, e, _⟩ := (OwnFA.mk h1 h2 h3).form
  exact ⟨A, c, e⟩
/-- What the walk reads of fact j. -/
theorem OwnFA.get {w : World} {lo hi g c j : Nat} {fs : List LFact} {av : List Value} (h : OwnFA w lo hi (.slice (some ⟨g, 0, none⟩) fs.length c) fs av) (hj : j < fs.length) (hja : j < av.length) :
    w.cell? ⟨g, j * 2, none⟩ = some (.int .i64 fs[j].1) ∧ w.frozen? ⟨g, j * 2, none⟩ = false ∧ w.cell? ⟨g, j * 2 + 1, none⟩ = some av[j] := by
  have hl : av.length = fs.length := by simpa using h.args.len
  have hcells := @World.ownsRow.cells w lo 42 2 _ fs.length (flat fs av) h.row g rfl
  have h1 := hcells _ _ (flat_at fs av hl j hj hja).1
  have h2 := hcells _ _ (flat_at fs av hl j hj hja).2
  rw [Go.WideShapes.add_plain, Nat.zero_add] at h1 h2
  refine ⟨h1, ?_, h2⟩
  rcases h.row.2 with ⟨e, _⟩ | ⟨g', cap, cur, e, _, hgg, _⟩
  · cases e
  · injection e with e1 _ _
    injection e1 with e1
    injection e1 with e1 _ _
    subst e1
    simp [World.frozen?, hgg]

set_option maxHeartbeats 1000000 in
set_option maxRecDepth 100000 in
theorem markFactS_any (v : Value) (fs : List LFact) (k : Int) (lo hi : Nat) (w : World) (h : OwnFacts w lo hi v fs) (hk0 : 0 ≤ k) (hk : k ≤ 4294967296) (hn : fs.length ≤ 1073741824) (ht : tot fs ≤ 1073741824) :
    Calls Tryz.prog 31 #[v, .int .i64 k] w fun e w' => e = .returned (.int .i64 (endF k fs)) ∧ OwnFacts w' lo hi v (markF k fs) ∧ Only lo hi w w' := by
  obtain ⟨av, h1, h2, h3⟩ := h
  have h : OwnFA w lo hi v fs av := ⟨h1, h2, h3⟩
  clear h1 h2 h3
  obtain ⟨A, c, hv, hform⟩ := h.form
  subst hv
  have hla : av.length = fs.length := by simpa using h.args.len
  have HLA := Lib.hid hla
  clear hla
  have H := Lib.hid h
  clear h
  go_enter Tryz.func31, Tryz.ntmps31
  go_wp2_with (fail)
  go_loopw [1, 5] (fun m i wr => ∃ (j : Nat) (q : Int), j ≤ fs.length ∧ i = .int .i64 j ∧ m = .int .i64 q ∧ q = endF k (fs.take j) ∧ OwnFA wr lo hi (.slice A fs.length c) (markedF fs k j) av ∧ Only lo hi w wr) (fun _ i _ => fs.length - (intOf i).toNat)
  case atStart => exact ⟨0, k, Nat.zero_le _, rfl, rfl, by rw [endF_zero], by rw [markedF_zero]; exact H.out, Only.refl _ _ _⟩
  case round =>
    obtain ⟨j, q, hj, rfl, rfl, hq, ho, hon⟩ := hrel
    by_cases hlt : j < fs.length
    · obtain ⟨g, rfl, hg1, hg2⟩ := hform (by omega)
      have hml := markedF_length (k := k) (Nat.le_of_lt hlt)
      have hja : j < av.length := by rw [HLA.out]; exact hlt
      have ho' : OwnFA wr lo hi (.slice (some ⟨g, 0, none⟩) (markedF fs k j).length c) (markedF fs k j) av := by rw [hml]; exact ho
      obtain ⟨c1, f1, c2⟩ := ho'.get (j := j) (by omega) hja
      have hI0 := ho.args.own j (by rw [List.length_map]; omega) hja
      have hat := markedF_at (k := k) hlt (by omega)
      rw [List.getElem_map, hat] at hI0
      rw [hat] at c1
      obtain ⟨A3, c3, hav⟩ := hI0.form
      rw [hav] at c2
      have hI1 := hI0.kept (w' := wr.setCell ⟨g, j * 2, none⟩ (.int .i64 q)) (fun b hb => Below.heap_setCell _ _ _ _ (fun e => types_ne ho'.row rfl hI0 (by rw [hb, e])))
      rw [hav] at hI1
      have hqb : 0 ≤ q ∧ q ≤ 8589934592 := by
        have h1 := tot_take_le fs j
        have h2 : (fs.take j).length ≤ fs.length := by rw [List.length_take]; omega
        subst hq
        simp only [endF] at *
        omega
      obtain ⟨hq0, hq1⟩ := hqb
      have hln := len_le_tot fs j hlt
      have HI := Lib.hid hI1
      have HO := Lib.hid (And.intro ho' (And.intro hml (And.intro hav hq)))
      clear hI0 hI1 ho ho' hml hat hq
      go_wp2_with (fail)
      refine (markIntS_any _ fs[j].2 (q + 1) lo hi _ HI.out (by omega) (by omega)).mono ?_
      rintro e w3 ⟨rfl, ho3, hg3⟩
      obtain ⟨hOF, hml, hav, hq⟩ := HO.out
      have hst := hOF.step (j := j) (by omega) hja (by rw [hav]; exact ho3) (by rw [hav]; exact hg3)
      rw [hml, hq, markedF_step hlt] at hst
      have hE := endF_step (k := k) hlt
      have hon3 : Only lo hi w w3 := (hon.setCell (p := ⟨g, j * 2, none⟩) ⟨hg1, hg2⟩ _).trans (Only.of_grown hg3 (fun b hb => by have := HI.out.lt hb; omega))
      have HS := Lib.hid (And.intro hst (show q + 1 + (fs[j].2.length : Int) = endF k (fs.take (j + 1)) by rw [hE, hq]))
      clear hst hOF hml hav hq hE
      go_wp2_with (fail)
      go_roundw
      case rel => exact ⟨j + 1, _, by omega, by go_num, rfl, HS.out.2, HS.out.1, hon3⟩
      case measure => simp [intOf]; omega
    · have hkn : j = fs.length := by omega
      have HO := Lib.hid (show OwnFacts wr lo hi (.slice A fs.length c) (markF k fs) by rw [← markedF_all, ← hkn]; rw [← hkn] at ho; exact ho.own)
      have HK := Lib.hid (show q = endF k fs by rw [hq, hkn, List.take_length])
      clear hkn ho hq
      go_wp2_with (fail)
      go_ret
      exact ⟨ret_int HK.out, HO.out, hon⟩

theorem endF_bound {fs : List LFact} {k : Int} (j : Nat) (hk0 : 0 ≤ k) (hk : k ≤ 4294967296) (hn : fs.length ≤ 1073741824) (ht : tot fs ≤ 1073741824) : 0 ≤ endF k (fs.take j) ∧ endF k (fs.take j) ≤ 8589934592 := by
  have h1 := tot_take_le fs j
  have h2 : (fs.take j).length ≤ fs.length := by rw [List.length_take]; omega
  simp only [endF]
  omega

end Go.Proofs.YtokmmloakahkhaaGreat
/-
  The relation of a loop that collects facts.
-/
namespace Go.Proofs.YtokmmloakahkhaaGreat
open Go.RowKit

/-- One fact more, behind append. -/
theorem OwnFA.push {wr w2 w4 : World} {lo hi : Nat} {v v' a : Value} {gs : List LFact} {av : List Value} {f : LFact} {o : Obj} (h : OwnFA wr lo hi v gs av) (hhi : hi ≤ wr.heap.size) (hlo : lo ≤ hi) (hb : Below wr.heap.size wr w2)
    (ha : OwnInts w2 wr.heap.size w2.heap.size a f.2) (hg : (w2.alloc o).grownBy w4 v.ownBlock) (hown : w4.ownsRow lo 42 2 v' (gs.length + 1) (flat gs av ++ [.int .i64 f.1, a])) : OwnFacts w4 lo w4.heap.size v' (gs ++ [f]) := by
  have hg' := grown_from_alloc hg
  have hlen : av.length = gs.length := by simpa using h.args.len
  have hrow2 := ownsRow_below h.row h.lt hb hhi
  have hargs2 : OwnArgs w2 lo w2.heap.size (av ++ [a]) (gs.map (·.2) ++ [f.2]) := ((h.args.below hb hhi).mono (Nat.le_refl _) hhi).snoc ha (by omega) hb.size
  refine ⟨av ++ [a], ⟨by simp [hlen], fun i h1 h2 => ?_, hargs2.apart⟩, ?_, fun g hg2 => (hown.lt g hg2).2⟩
  · have h0 := hargs2.own i (by simpa using h1) h2
    have hz : ((gs ++ [f]).map (·.2))[i] = (gs.map (·.2) ++ [f.2])[i]'(by simpa using h1) := by simp
    rw [hz]
    refine (h0.kept fun b hbk => hg'.block b (h0.lt hbk).2.2 (fun e => types_ne hrow2 e.symm h0 hbk)).mono (Nat.le_refl _) ?_
    exact hg'.size
  · rw [flat_snoc _ _ hlen, List.length_append, List.length_singleton]
    exact hown

/-- The relation of a loop that collects facts. -/
structure ColRel (w wr : World) (gs : List LFact) (A : Option Addr) (c : Nat) (av : List Value) : Prop where
  below : Below w.heap.size w wr
  own : OwnFA wr w.heap.size wr.heap.size (.slice A gs.length c) gs av

theorem ColRel.nil (w : World) : ColRel w w [] none 0 [] := ⟨Below.refl _ _, ⟨.nil, World.ownsRow_nil _ _ _ _, fun g hg => by cases hg⟩⟩

theorem ColRel.empty (w : World) : ColRel w (w.alloc (.cells #[] 42)) [] (some ⟨w.heap.size, 0, none⟩) 0 [] :=
  ⟨below1 _ _, ⟨.nil, World.ownsRow_made w #[] 0 (Nat.le_refl _) (by decide) rfl, fun g hg => by simp [Value.ownBlock] at hg; subst hg; simp⟩⟩

theorem news2 (w : World) (x y : Value) (t : TypeId) : ∀ j u, [x, y][j]? = some u → (w.alloc (.cells #[x, y] t)).cell? ((⟨w.heap.size, 0, none⟩ : Addr).add j) = some u := World.news_of_block (cs := #[x, y]) (heap_alloc_new w _)

/-- .. and one fact more in its relation. -/
theorem ColRel.push {w wr w2 w4 : World} {gs gs' : List LFact} {A : Option Addr} {c g cap : Nat} {av : List Value} {f : LFact} {a : Value} {o : Obj} (h : ColRel w wr gs A c av) (e : gs' = gs ++ [f]) (hb : Below wr.heap.size wr w2)
    (ha : OwnInts w2 wr.heap.size w2.heap.size a f.2) (hg : (w2.alloc o).grownBy w4 (Value.slice A gs.length c).ownBlock) (hown : w4.ownsRow w.heap.size 42 2 (.slice (some ⟨g, 0, none⟩) (gs.length + 1) cap) (gs.length + 1) (flat gs av ++ [.int .i64 f.1, a])) :
    ∃ av', ColRel w w4 gs' (some ⟨g, 0, none⟩) cap av' ∧ gs.length + 1 = gs'.length := by
  subst e
  obtain ⟨av', h1, h2, h3⟩ := h.own.push (Nat.le_refl _) h.below.size hb ha hg hown
  have hl : gs.length + 1 = (gs ++ [f]).length := by simp
  refine ⟨av', ⟨((bthen h.below hb).alloc (bthen h.below hb).size _).grown hg (by have := (bthen h.below hb).size; simp; omega) (fun k hk => (h.own.row.lt k hk).1), ?_⟩, hl⟩
  rw [← hl]
  exact ⟨h1, h2, h3⟩

/-- A world that only grew keeps the relation. -/
theorem ColRel.on {w wr w2 : World} {gs : List LFact} {A : Option Addr} {c : Nat} {av : List Value} (h : ColRel w wr gs A c av) (hb : Below wr.heap.size wr w2) : ColRel w w2 gs A c av :=
  ⟨bthen h.below hb, ⟨(h.own.args.below hb (Nat.le_refl _)).mono (Nat.le_refl _) hb.size, ownsRow_below h.own.row h.own.lt hb (Nat.le_refl _), fun g hg => Nat.lt_of_lt_of_le (h.own.lt g hg) hb.size⟩⟩

end Go.Proofs.YtokmmloakahkhaaGreat
/-
  The reader's num and its opening; numbers of places drawn.
-/
namespace Go.Proofs.YtokmmloakahkhaaGreat
open Go.RowKit

theorem Picked.size {w w' : World} {g : Nat} {bs : List Nat} {p : Nat} (h : Picked w w' g bs p) : w.heap.size ≤ w'.heap.size := h.2.size
set_option maxHeartbeats 400000 in
theorem num_any (g : Nat) (bs : List Nat) (p b : Nat) (cs : Array Value) (xs : List Int) (n : Nat) (w : World) (h : Rdr w g bs p) (hp : p ≤ 1073741824) (hb : Blk w b 3 cs) (hcs : cs = (xs.map (Value.int .i64)).toArray) (hne : b ≠ g) (hn : n = xs.length) (hx : 0 < xs.length) (hl : xs.length ≤ 1073741824) :
    Calls Tryz.prog 125 #[.pointer (some ⟨g, 0, none⟩), .slice (some ⟨b, 0, none⟩) n n] w fun e w' => (∃ x, e = .returned (.int .i64 x) ∧ x ∈ xs) ∧ Picked w w' g bs p := by
  subst hcs
  subst hn
  have H := Lib.hid h
  have HB := Lib.hid hb
  clear h hb
  go_enter Tryz.func125, Tryz.ntmps125
  go_wp2_with (fail)
  refine (pick_any g bs p _ _ H.out hp (by omega)).mono ?_
  rintro e w' ⟨⟨x, rfl, hx1⟩, hpk⟩
  obtain ⟨k, rfl⟩ : ∃ k : Nat, x = (k : Int) := ⟨x.toNat, by have := hx1.1 (by omega); omega⟩
  have hk : k < xs.length := by have := hx1.1 (by omega); omega
  have hck : w'.cell? ⟨b, k, none⟩ = some (.int .i64 xs[k]) := by
    rw [(HB.out.only hpk.2 (by omega)).cell k]
    simp [hk]
  have HM := Lib.hid (List.getElem_mem hk)
  have HK := Lib.hid hpk
  clear hpk hx1
  go_wp2_with (fail)
  go_ret
  exact ⟨⟨_, rfl, HM.out⟩, HK.out⟩

set_option maxHeartbeats 400000 in
theorem l40Open_any (v : Value) (bs : List Nat) (w : World) (h : RdBytes w w.heap.size v bs) (hby : ∀ b ∈ bs, b < 256) (hn : bs.length ≤ 1073741824) :
    Calls Tryz.prog 38 #[v] w fun e w' => e = .returned (.pointer (some ⟨w.heap.size, 0, none⟩)) ∧ Rdr w' w.heap.size (bs.take 2000) 0 ∧ Below w.heap.size w w' := by
  obtain ⟨A, c, rfl, hc, ha⟩ := h
  by_cases hl : 2000 < bs.length
  · obtain ⟨b, o, rfl, hbB, hx⟩ := ha (by omega)
    have HR := Lib.hid (show RdBytes w w.heap.size (.slice (some ⟨b, o, none⟩) 2000 c) (bs.take 2000) from
      ⟨some ⟨b, o, none⟩, c, by rw [List.length_take]; congr 1; omega, by rw [List.length_take]; omega, fun _ => ⟨b, o, rfl, hbB, fun k hk => by
        rw [List.length_take] at hk
        rw [hx k (by omega), List.getElem_take]⟩⟩)
    have hd : decide ((2000 : Int) < bs.length) = true := by simp; omega
    clear hx ha
    go_enter Tryz.func38, Tryz.ntmps38
    go_wp2_with (fail)
    go_ret
    exact ⟨rfl, ⟨⟨_, Blk.new _ _ _, HR.out.off fun k hk => Below.heap_alloc _ _ _ hk⟩, by rw [List.length_take]; omega, fun x hx => hby x (List.mem_of_mem_take hx)⟩, below1 _ _⟩
  · have HR := Lib.hid (show RdBytes w w.heap.size (.slice A bs.length c) bs from ⟨A, c, rfl, hc, ha⟩)
    have HT := Lib.hid (show bs.take 2000 = bs from List.take_of_length_le (by omega))
    have hd : decide ((2000 : Int) < bs.length) = false := by simp; omega
    clear ha
    go_enter Tryz.func38, Tryz.ntmps38
    go_wp2_with (fail)
    go_ret
    exact ⟨rfl, by rw [HT.out]; exact ⟨⟨_, Blk.new _ _ _, HR.out.off fun k hk => Below.heap_alloc _ _ _ hk⟩, by omega, hby⟩, below1 _ _⟩

/-- What l1Arity's loop keeps. -/
structure DrRel (w wr : World) (g : Nat) (bs : List Nat) (p k : Nat) (A : Option Addr) (c : Nat) (xs : List Int) : Prop where
  len : xs.length = k
  range : ∀ x ∈ xs, 0 ≤ x ∧ x ≤ 2
  own : wr.ownsRow w.heap.size 3 1 (.slice A k c) k (xs.map (Value.int .i64))
  rdr : Rdr wr g bs (p + k)
  only : Only g (g + 1) w wr

theorem Rdr.same {w w' : World} {g : Nat} {bs : List Nat} {p : Nat} (h : Rdr w g bs p) (hb : ∀ k, k ≤ g → w'.heap[k]? = w.heap[k]?) : Rdr w' g bs p := by
  obtain ⟨⟨v, hv, hr⟩, h1, h2⟩ := h
  exact ⟨⟨v, (hb g (Nat.le_refl g)).trans hv, hr.off fun k hk => hb k (Nat.le_of_lt hk)⟩, h1, h2⟩

/-- The row after a draw. -/
theorem DrRel.row {w wr w' : World} {g : Nat} {bs : List Nat} {p q k : Nat} {A : Option Addr} {c : Nat} {xs : List Int} {o o2 : Obj} (h : DrRel w wr g bs p k A c xs) (hg : g < w.heap.size) (hk : Picked (wr.alloc o) w' g bs q) :
    (w'.alloc o2).ownsRow w.heap.size 3 1 (.slice A k c) k (xs.map (Value.int .i64)) :=
  ((ownsRow_only (h.own.alloc o) fun b hb => hk.2.block b (by have := (h.own.lt b hb).2; simp; omega) (by have := (h.own.lt b hb).1; omega))).alloc o2

theorem DrRel.push {w wr w' w4 : World} {g : Nat} {bs : List Nat} {p k : Nat} {A : Option Addr} {c : Nat} {xs : List Int} {o o2 : Obj} (h : DrRel w wr g bs p k A c xs) (hg : g < w.heap.size) (hk : Picked (wr.alloc o) w' g bs (p + k)) {x : Int} (hx : 0 ≤ x ∧ x ≤ 2)
    (hgr : (w'.alloc o2).grownBy w4 (Value.slice A k c).ownBlock) {g2 cap : Nat} (hown : w4.ownsRow w.heap.size 3 1 (.slice (some ⟨g2, 0, none⟩) (k + 1) cap) (k + 1) (xs.map (Value.int .i64) ++ [.int .i64 x])) :
    DrRel w w4 g bs p (k + 1) (some ⟨g2, 0, none⟩) cap (xs ++ [x]) := by
  have hlow : ∀ b, b < w.heap.size → w4.heap[b]? = w'.heap[b]? := fun b hb => by
    have h1 := h.only.size
    have h2 := hk.2.size
    simp at h2
    rw [hgr.block b (by simp; omega) (fun e => by have := (h.own.lt b e.symm).1; omega)]
    exact Below.heap_alloc _ _ _ (by omega)
  refine ⟨by simp [h.len], fun y hy => ?_, by simpa using hown, hk.1.same fun b hb => hlow b (by omega), ?_⟩
  · rcases List.mem_append.1 hy with hy | hy
    · exact h.range y hy
    · simp at hy
      subst hy
      exact hx
  · have ho := (h.only.trans (Only.of_below (below1 wr o))).trans hk.2
    exact ⟨hgr.os.trans ho.os, hgr.tape.trans ho.tape, hgr.output.trans ho.output, Nat.le_trans ho.size (Nat.le_trans (by simp) hgr.size), fun b hb hn => (hlow b hb).trans (ho.block b hb hn)⟩

end Go.Proofs.YtokmmloakahkhaaGreat
/-
  Regions that draw their order and end in a store to a cell that they load: the condition on the world holds until operation t has come up, and is released then. Laws of any program.
-/
namespace Go.Proofs.YtokmmloakahkhaaGreat
open Go

section
variable {P : Program} {ops : Array Oper} {Q : Exit → Act → World → Prop} {md : Region.Mode} {S : World → Prop} {t : Nat}

/-- Whatever order is picked from here on, and S holds behind each operation that is carried out, until t has come up. -/
def wpAnyR (P : Program) (md : Region.Mode) (ops : Array Oper) (Q : Exit → Act → World → Prop) (S : World → Prop) (t : Nat) : Nat → Array Bool → Act → World → Prop
  | 0, listed, a, w => Region.ready md ops listed = [] ∧ Q .normal a w
  | fuel + 1, listed, a, w =>
    (Region.ready md ops listed = [] → Q .normal a w) ∧
    ∀ i ∈ Region.ready md ops listed, wpOp P ops Q i (fun a' w' => ((listed.setIfInBounds i true).getD t true = false → S w') ∧ wpAnyR P md ops Q S t fuel (listed.setIfInBounds i true) a' w') a w

theorem wpAny_of_rel : ∀ (fuel : Nat) (listed : Array Bool) (a : Act) (w : World), wpAnyR P md ops Q S t fuel listed a w → wpAny P md ops Q fuel listed a w
  | 0, _, _, _, h => h
  | fuel + 1, _, _, _, h => ⟨h.1, fun i hi => wpOp_mono (fun a' w' h' => wpAny_of_rel fuel _ a' w' h'.2) (h.2 i hi)⟩

/-- None of D has come up, and each waits for i or for one of D. -/
def blockedB (md : Region.Mode) (ops : Array Oper) (listed : Array Bool) (i : Nat) (D : List Nat) : Bool :=
  !D.contains i && D.all fun d => !listed.getD d true && ((ops[d]?).map fun o => o.after.any fun e => Region.binds md e && (e.on == i || D.contains e.on)).getD false

/-- None of D may come up while i has not. -/
theorem not_ready_of_blocked {listed : Array Bool} {i : Nat} {D : List Nat} (h : blockedB md ops listed i D = true) (hi : listed.getD i true = false) {d : Nat} (hd : d ∈ D) : d ∉ Region.ready md ops listed := by
  intro hr
  obtain ⟨_, o, ho, hall⟩ := mem_ready.1 hr
  simp only [blockedB, Bool.and_eq_true, List.all_eq_true] at h
  have h2 := (h.2 d hd).2
  rw [ho] at h2
  simp only [Option.map_some, Option.getD_some, Array.any_eq_true', Bool.and_eq_true, Bool.or_eq_true, beq_iff_eq] at h2
  obtain ⟨e, he, hb, hon⟩ := h2
  have hl := hall e he hb
  have un : ∀ k : Nat, listed.getD k true = false → listed.getD k false = true → False := by
    intro k h1 h2
    rcases Nat.lt_or_ge k listed.size with h' | h'
    · simp [h'] at h1 h2
      rw [h1] at h2
      cases h2
    · simp [Array.getElem?_eq_none h'] at h1
  rcases hon with e1 | e1
  · rw [e1] at hl
    exact un i hi hl
  · have h3 := (h.2 e.on (by simpa using e1)).1
    exact un _ (by simpa using h3) hl

theorem blocked_set {listed : Array Bool} {i j : Nat} {D : List Nat} (h : blockedB md ops listed i D = true) (hj : j ∉ D) : blockedB md ops (listed.setIfInBounds j true) i D = true := by
  simp only [blockedB, Bool.and_eq_true, List.all_eq_true] at h ⊢
  refine ⟨h.1, fun d hd => ?_⟩
  have := h.2 d hd
  refine ⟨?_, this.2⟩
  rw [getD_set_ne true (show j ≠ d from fun e => hj (by rw [e]; exact hd))]
  exact this.1

theorem wpAnyR_first {i : Nat} {oi : Oper} {v : Value} {D : List Nat} (hi : ops[i]? = some oi) (hsel : ∀ (j : Nat) (o : Oper) cs b, ops[j]? = some o → o.op ≠ .select cs b)
    (hQ : ∀ c a w, Q (.panic c) (a.put oi.dst v) w → Q (.panic c) a w) (ht : t ∈ D) :
    ∀ (fuel : Nat) (listed : Array Bool) (a : Act) (w : World),
      (∀ j oj, ops[j]? = some oj → j ≠ i → listed.getD j true = false → (∀ e ∈ oj.after, Region.binds md e = true → e.on ≠ i) → oi.apart ops oj = true) →
      i ∈ Region.ready md ops listed → blockedB md ops listed i D = true → YieldsIf P ops S oi v a → S w →
      wpAnyR P md ops Q S t fuel (listed.setIfInBounds i true) (a.put oi.dst v) w → wpAnyR P md ops Q S t (fuel + 1) listed a w := by
  intro fuel
  induction fuel with
  | zero =>
    intro listed a w _ hr hbl hy hS H
    refine ⟨fun h => (by rw [h] at hr; cases hr), fun j hj => ?_⟩
    by_cases hji : j = i
    · subst hji; exact hy.wpOp hi hS ⟨fun _ => hS, H⟩
    · have := ready_mono hj hji
      rw [H.1] at this
      cases this
  | succ fuel ih =>
    intro listed a w hfree hr hbl hy hS H
    refine ⟨fun h => (by rw [h] at hr; cases hr), fun j hj => ?_⟩
    by_cases hji : j = i
    · subst hji; exact hy.wpOp hi hS ⟨fun _ => hS, H⟩
    · have h1 := H.2 j (ready_mono hj hji)
      have hjD : j ∉ D := fun hd => not_ready_of_blocked hbl (mem_ready.1 hr).1 hd hj
      have hiD : i ∉ D := by
        simp only [blockedB, Bool.and_eq_true] at hbl
        simpa using hbl.1
      have htl : listed.getD t true = false := by
        simp only [blockedB, Bool.and_eq_true, List.all_eq_true] at hbl
        simpa using (hbl.2 t ht).1
      have htl2 : ((listed.setIfInBounds i true).setIfInBounds j true).getD t true = false := by
        rw [getD_set_ne true (show j ≠ t from fun e => hjD (by rw [e]; exact ht)), getD_set_ne true (show i ≠ t from fun e => hiD (by rw [e]; exact ht))]
        exact htl
      obtain ⟨hjun, oj, hoj, hall⟩ := mem_ready.1 hj
      have hnot : ∀ e ∈ oj.after, Region.binds md e = true → e.on ≠ i := fun e he hb heq => by
        have h1 := hall e he hb
        have h0 := (mem_ready.1 hr).1
        rw [heq] at h1
        rcases Nat.lt_or_ge i listed.size with h' | h'
        · simp [h'] at h0 h1; rw [h0] at h1; cases h1
        · simp [Array.getElem?_eq_none h'] at h1
      have h2 := wpOp_putIf hoj (hfree j oj hoj hji hjun hnot) (fun cs b => hsel i oi cs b hi) (fun cs b => hsel j oj cs b hoj) hQ hy h1
      have hfree' : ∀ k ok, ops[k]? = some ok → k ≠ i → (listed.setIfInBounds j true).getD k true = false →
          (∀ e ∈ ok.after, Region.binds md e = true → e.on ≠ i) → oi.apart ops ok = true := fun k ok hk hki hun hno => by
        refine hfree k ok hk hki ?_ hno
        by_cases hjk : j = k
        · subst hjk; exact hjun
        · rw [getD_set_ne true hjk] at hun; exact hun
      refine wpOp_mono (fun a' w' h3 => ⟨fun _ => h3.2.1 htl2, ih (listed.setIfInBounds j true) a' w' hfree' (ready_mono hr (Ne.symm hji)) (blocked_set hbl hjD) h3.1 (h3.2.1 htl2) ?_⟩) h2
      rw [Array.setIfInBounds_comm _ _ hji]
      exact h3.2.2

/-- What waits for i, at once or over others. -/
def descOf (md : Region.Mode) (ops : Array Oper) (i : Nat) : List Nat :=
  (List.range ops.size).foldl (fun D k => if ((ops[k]?).map fun o => o.after.any fun e => Region.binds md e && (e.on == i || D.contains e.on)).getD false then D ++ [k] else D) []
/-- All that is asked of a take, as one Bool. -/
def takeOk (md : Region.Mode) (ops : Array Oper) (listed : Array Bool) (i t : Nat) : Bool :=
  Region.noSelect ops && Region.free md ops listed i && (Region.ready md ops listed).contains i && blockedB md ops listed i (descOf md ops i) && (descOf md ops i).contains t
def pureOk (md : Region.Mode) (ops : Array Oper) (listed : Array Bool) (i : Nat) : Bool :=
  Region.noSelect ops && Region.free md ops listed i && (Region.ready md ops listed).contains i

/-- Take number i first: what it reads holds in every world that meets S, and t waits for it. -/
theorem wpAnyR_take {i d : Nat} {oi : Oper} (v : Value) {fuel : Nat} {listed : Array Bool} {a : Act} {w : World} (hi : ops[i]? = some oi) (hd : oi.dst = some d)
    (hok : takeOk md ops listed i t = true)
    (hQ : ∀ c a w, Q (.panic c) (a.put oi.dst v) w → Q (.panic c) a w) (hw : Region.wanted oi (yielded ops a.tmps) = true) (hy : ∀ w, S w → (execOp a.eval oi).run P w = .ok (.value v) w) (hS : S w)
    (h : wpAnyR P md ops Q S t fuel (listed.setIfInBounds i true) { a with tmps := a.tmps.setIfInBounds d v } w) : wpAnyR P md ops Q S t (fuel + 1) listed a w := by
  have h : wpAnyR P md ops Q S t fuel (listed.setIfInBounds i true) (a.put oi.dst v) w := by rw [hd]; exact h
  simp only [takeOk, Bool.and_eq_true] at hok
  obtain ⟨⟨⟨⟨h1, h2⟩, h3⟩, h4⟩, h5⟩ := hok
  exact wpAnyR_first hi (Region.noSelect_spec h1) hQ (by simpa using h5) fuel listed a w (Region.free_spec hi h2) (by simpa using h3) h4 (.inl ⟨hw, hy⟩) hS h

theorem wpAnyR_first0 {i : Nat} {oi : Oper} {v : Value} (hi : ops[i]? = some oi) (hsel : ∀ (j : Nat) (o : Oper) cs b, ops[j]? = some o → o.op ≠ .select cs b)
    (hQ : ∀ c a w, Q (.panic c) (a.put oi.dst v) w → Q (.panic c) a w) :
    ∀ (fuel : Nat) (listed : Array Bool) (a : Act) (w : World),
      (∀ j oj, ops[j]? = some oj → j ≠ i → listed.getD j true = false → (∀ e ∈ oj.after, Region.binds md e = true → e.on ≠ i) → oi.apart ops oj = true) →
      i ∈ Region.ready md ops listed → YieldsIf P ops (fun _ => True) oi v a → (listed.getD t true = false → S w) → t ≠ i →
      wpAnyR P md ops Q S t fuel (listed.setIfInBounds i true) (a.put oi.dst v) w → wpAnyR P md ops Q S t (fuel + 1) listed a w := by
  intro fuel
  induction fuel with
  | zero =>
    intro listed a w _ hr hy hS hti H
    refine ⟨fun h => (by rw [h] at hr; cases hr), fun j hj => ?_⟩
    by_cases hji : j = i
    · subst hji; exact hy.wpOp hi trivial ⟨fun h => hS (by rwa [getD_set_ne true (Ne.symm hti)] at h), H⟩
    · have := ready_mono hj hji
      rw [H.1] at this
      cases this
  | succ fuel ih =>
    intro listed a w hfree hr hy hS hti H
    refine ⟨fun h => (by rw [h] at hr; cases hr), fun j hj => ?_⟩
    by_cases hji : j = i
    · subst hji; exact hy.wpOp hi trivial ⟨fun h => hS (by rwa [getD_set_ne true (Ne.symm hti)] at h), H⟩
    · have h1 := H.2 j (ready_mono hj hji)
      obtain ⟨hjun, oj, hoj, hall⟩ := mem_ready.1 hj
      have hnot : ∀ e ∈ oj.after, Region.binds md e = true → e.on ≠ i := fun e he hb heq => by
        have h1 := hall e he hb
        have h0 := (mem_ready.1 hr).1
        rw [heq] at h1
        rcases Nat.lt_or_ge i listed.size with h' | h'
        · simp [h'] at h0 h1; rw [h0] at h1; cases h1
        · simp [Array.getElem?_eq_none h'] at h1
      have h2 := wpOp_putIf hoj (hfree j oj hoj hji hjun hnot) (fun cs b => hsel i oi cs b hi) (fun cs b => hsel j oj cs b hoj) hQ hy h1
      have hfree' : ∀ k ok, ops[k]? = some ok → k ≠ i → (listed.setIfInBounds j true).getD k true = false →
          (∀ e ∈ ok.after, Region.binds md e = true → e.on ≠ i) → oi.apart ops ok = true := fun k ok hk hki hun hno => by
        refine hfree k ok hk hki ?_ hno
        by_cases hjk : j = k
        · subst hjk; exact hjun
        · rw [getD_set_ne true hjk] at hun; exact hun
      have hback : ∀ {W : World}, (((listed.setIfInBounds i true).setIfInBounds j true).getD t true = false → S W) → ((listed.setIfInBounds j true).getD t true = false → S W) := fun h hl => h (by
        rw [Array.setIfInBounds_comm _ _ (Ne.symm hji), getD_set_ne true (Ne.symm hti)]
        exact hl)
      refine wpOp_mono (fun a' w' h3 => ⟨hback h3.2.1, ih (listed.setIfInBounds j true) a' w' hfree' (ready_mono hr (Ne.symm hji)) h3.1 (hback h3.2.1) hti ?_⟩) h2
      rw [Array.setIfInBounds_comm _ _ hji]
      exact h3.2.2
/-- Take number i first: it yields its value in whatever world. -/
theorem wpAnyR_pure {i d : Nat} {oi : Oper} (v : Value) {fuel : Nat} {listed : Array Bool} {a : Act} {w : World} (hi : ops[i]? = some oi) (hd : oi.dst = some d)
    (hok : pureOk md ops listed i = true) (hti : t ≠ i)
    (hQ : ∀ c a w, Q (.panic c) (a.put oi.dst v) w → Q (.panic c) a w) (hw : Region.wanted oi (yielded ops a.tmps) = true) (hy : ∀ w, (execOp a.eval oi).run P w = .ok (.value v) w) (hS : listed.getD t true = false → S w)
    (h : wpAnyR P md ops Q S t fuel (listed.setIfInBounds i true) { a with tmps := a.tmps.setIfInBounds d v } w) : wpAnyR P md ops Q S t (fuel + 1) listed a w := by
  have h : wpAnyR P md ops Q S t fuel (listed.setIfInBounds i true) (a.put oi.dst v) w := by rw [hd]; exact h
  simp only [pureOk, Bool.and_eq_true] at hok
  obtain ⟨⟨h1, h2⟩, h3⟩ := hok
  exact wpAnyR_first0 hi (Region.noSelect_spec h1) hQ fuel listed a w (Region.free_spec hi h2) (by simpa using h3) (.inl ⟨hw, fun w _ => hy w⟩) hS hti h

/-- The one that may come up. -/
theorem wpAnyR_one {i : Nat} {o : Oper} {fuel : Nat} {listed : Array Bool} {a : Act} {w : World} (hr : Region.ready md ops listed = [i]) (ho : ops[i]? = some o)
    (h : ∀ K' : Act → World → Prop, Shut (∀ a w, ((listed.setIfInBounds i true).getD t true = false → S w) → wpAnyR P md ops Q S t fuel (listed.setIfInBounds i true) a w → K' a w) → if Region.wanted o (yielded ops a.tmps) = true then Oper.wp P o a w K' Q else K' (a.put o.dst undef) w) :
    wpAnyR P md ops Q S t (fuel + 1) listed a w := by
  refine ⟨fun h0 => (by rw [hr] at h0; cases h0), fun j hj => ?_⟩
  rw [hr] at hj
  obtain rfl : j = i := by simpa using hj
  exact wpOp_step ho (fun K' hK => h K' (fun a w hS hW => hK a w ⟨hS, hW⟩))

/-- The two that may come up. -/
theorem wpAnyR_two {i j : Nat} {oi oj : Oper} {fuel : Nat} {listed : Array Bool} {a : Act} {w : World} (hr : Region.ready md ops listed = [i, j]) (hi : ops[i]? = some oi) (hj : ops[j]? = some oj)
    (h1 : ∀ K' : Act → World → Prop, Shut (∀ a w, ((listed.setIfInBounds i true).getD t true = false → S w) → wpAnyR P md ops Q S t fuel (listed.setIfInBounds i true) a w → K' a w) → if Region.wanted oi (yielded ops a.tmps) = true then Oper.wp P oi a w K' Q else K' (a.put oi.dst undef) w)
    (h2 : ∀ K' : Act → World → Prop, Shut (∀ a w, ((listed.setIfInBounds j true).getD t true = false → S w) → wpAnyR P md ops Q S t fuel (listed.setIfInBounds j true) a w → K' a w) → if Region.wanted oj (yielded ops a.tmps) = true then Oper.wp P oj a w K' Q else K' (a.put oj.dst undef) w) :
    wpAnyR P md ops Q S t (fuel + 1) listed a w := by
  refine ⟨fun h0 => (by rw [hr] at h0; cases h0), fun k hk => ?_⟩
  rw [hr] at hk
  rcases List.mem_cons.1 hk with rfl | hk
  · exact wpOp_step hi (fun K' hK => h1 K' (fun a w hS hW => hK a w ⟨hS, hW⟩))
  · obtain rfl : k = j := by simpa using hk
    exact wpOp_step hj (fun K' hK => h2 K' (fun a w hS hW => hK a w ⟨hS, hW⟩))

theorem wpAnyR_done {fuel : Nat} {listed : Array Bool} {a : Act} {w : World} (hr : Region.ready md ops listed = []) (h : Q .normal a w) : wpAnyR P md ops Q S t fuel listed a w := by
  cases fuel with
  | zero => exact ⟨hr, h⟩
  | succ fuel => exact ⟨fun _ => h, fun j hj => (by rw [hr] at hj; cases hj)⟩

theorem wp_region_rel (S : World → Prop) (t n : Nat) {id : Nat} {a : Act} {w : World} (hm : P.follows .mixedOrders = true) (hn : ops.size = n)
    (h : wpAnyR P .any ops Q S t n (Array.replicate n false) a w.drew) : (Code.region id ops true).wp P Q a w :=
  wp_region_any hm (wpAny_of_rel _ _ _ _ (hn ▸ h))

end
end Go.Proofs.YtokmmloakahkhaaGreat
/-
  A fact drawn.
-/
namespace Go.Proofs.YtokmmloakahkhaaGreat
open Go.RowKit

/-- What l1Fact keeps: r is the result's block, r + 1 the fact's. -/
structure FaRel (w wr : World) (g : Nat) (bs : List Nat) (p : Nat) (A : Option Addr) (c : Nat) (f : LFact) : Prop where
  res : Blk wr w.heap.size 42 #[.int .i64 0, .slice none 0 0]
  fact : Blk wr (w.heap.size + 1) 42 #[.int .i64 f.1, .slice A f.2.length c]
  own : wr.ownsRow (w.heap.size + 2) 3 1 (.slice A f.2.length c) f.2.length (f.2.map (Value.int .i64))
  rdr : Rdr wr g bs p
  only : Only g (g + 1) w wr

theorem FaRel.start {w : World} {g : Nat} {bs : List Nat} {p : Nat} (h : Rdr w g bs p) :
    FaRel w ((w.alloc (Obj.cells #[Value.int IntKind.i64 0, Value.slice none 0 0] 42)).alloc (Obj.cells #[Value.int IntKind.i64 0, Value.slice none 0 0] 42)) g bs p none 0 (0, []) :=
  ⟨(Blk.new w _ _).alloc _, by simpa using Blk.new (w.alloc (Obj.cells #[Value.int IntKind.i64 0, Value.slice none 0 0] 42)) 42 #[.int .i64 0, .slice none 0 0], World.ownsRow_nil _ _ _ _, h.below (below2 w _ _) h.lt, Only.of_below (below2 w _ _)⟩

/-- A pick keeps the rest. -/
theorem FaRel.pick {w wr w' : World} {g : Nat} {bs : List Nat} {p : Nat} {A : Option Addr} {c : Nat} {f : LFact} (h : FaRel w wr g bs p A c f) (hg : g < w.heap.size) (hk : Picked wr w' g bs p) : FaRel w w' g bs (p + 1) A c f :=
  ⟨h.res.only hk.2 (by omega), h.fact.only hk.2 (by omega), ownsRow_only h.own (fun b hb => hk.2.block b (h.own.lt b hb).2 (by have := (h.own.lt b hb).1; omega)), hk.1, h.only.trans hk.2⟩

/-- The predicate stored. -/
theorem FaRel.pred {w wr : World} {g : Nat} {bs : List Nat} {p : Nat} {A : Option Addr} {c : Nat} {f : LFact} (h : FaRel w wr g bs p A c f) (hg : g < w.heap.size) (x : Int) : FaRel w (wr.setCell ⟨w.heap.size + 1, 0, none⟩ (.int .i64 x)) g bs p A c (x, f.2) :=
  ⟨h.res.far (by show w.heap.size ≠ w.heap.size + 1; omega) _, h.fact.set_ 0 _, ownsRow_only h.own (fun b hb => Below.heap_setCell _ _ _ _ (by have := (h.own.lt b hb).1; show b ≠ w.heap.size + 1; omega)),
    h.rdr.same fun k hk => Below.heap_setCell _ _ _ _ (by show k ≠ w.heap.size + 1; omega),
    ⟨h.only.os, h.only.tape, h.only.output, by simpa using h.only.size, fun k hk hn => (Below.heap_setCell _ _ _ _ (by show k ≠ w.heap.size + 1; omega)).trans (h.only.block k hk hn)⟩⟩

/-- A new block keeps all. -/
theorem FaRel.alloc {w wr : World} {g : Nat} {bs : List Nat} {p : Nat} {A : Option Addr} {c : Nat} {f : LFact} (h : FaRel w wr g bs p A c f) (o : Obj) : FaRel w (wr.alloc o) g bs p A c f :=
  ⟨h.res.alloc o, h.fact.alloc o, h.own.alloc o, h.rdr.below (below1 wr o) h.rdr.lt, h.only.trans (Only.of_below (below1 wr o))⟩
theorem FaRel.drewN {w wr : World} {g : Nat} {bs : List Nat} {p : Nat} {A : Option Addr} {c : Nat} {f : LFact} (h : FaRel w wr g bs p A c f) (n : Nat) : FaRel w (wr.drewN n) g bs p A c f :=
  ⟨h.res, h.fact, h.own, h.rdr, ⟨h.only.os, h.only.tape, h.only.output, h.only.size, h.only.block⟩⟩

theorem FaRel.drew {w wr : World} {g : Nat} {bs : List Nat} {p : Nat} {A : Option Addr} {c : Nat} {f : LFact} (h : FaRel w wr g bs p A c f) : FaRel w wr.drew g bs p A c f :=
  ⟨h.res, h.fact, h.own, h.rdr, ⟨h.only.os, h.only.tape, h.only.output, h.only.size, h.only.block⟩⟩

theorem FaRel.push {w wr w4 : World} {g : Nat} {bs : List Nat} {p : Nat} {A : Option Addr} {c : Nat} {P : Int} {xs : List Int} (h : FaRel w wr g bs p A c (P, xs)) (hg : g < w.heap.size)
    (hgr : wr.grownBy w4 (Value.slice A xs.length c).ownBlock) {g2 cap : Nat} {x : Int} (hown : w4.ownsRow (w.heap.size + 2) 3 1 (.slice (some ⟨g2, 0, none⟩) (xs.length + 1) cap) (xs.length + 1) (xs.map (Value.int .i64) ++ [.int .i64 x])) :
    FaRel w (w4.setCell ⟨w.heap.size + 1, 1, none⟩ (.slice (some ⟨g2, 0, none⟩) (xs.length + 1) cap)) g bs p (some ⟨g2, 0, none⟩) cap (P, xs ++ [x]) := by
  have hs := h.fact.lt
  have hlow : ∀ b, b < w.heap.size + 2 → w4.heap[b]? = wr.heap[b]? := fun b hb => hgr.block b (by omega) (fun e => by have := (h.own.lt b e.symm).1; omega)
  have hlow2 : ∀ b, b < w.heap.size + 1 → (w4.setCell ⟨w.heap.size + 1, 1, none⟩ (.slice (some ⟨g2, 0, none⟩) (xs.length + 1) cap)).heap[b]? = wr.heap[b]? := fun b hb =>
    (Below.heap_setCell _ _ _ _ (by show b ≠ w.heap.size + 1; omega)).trans (hlow b (by omega))
  refine ⟨(hlow2 _ (by omega)).trans h.res, ?_, ?_, h.rdr.same fun k hk => hlow2 k (by omega), ⟨hgr.os.trans h.only.os, hgr.tape.trans h.only.tape, hgr.output.trans h.only.output, Nat.le_trans h.only.size (Nat.le_trans hgr.size (by simp)), fun k hk hn => (hlow2 k (by omega)).trans (h.only.block k hk hn)⟩⟩
  · have := (show Blk w4 (w.heap.size + 1) 42 _ from (hlow _ (by omega)).trans h.fact).set_ 1 (.slice (some ⟨g2, 0, none⟩) (xs.length + 1) cap)
    simpa using this
  · simpa using ownsRow_only hown (fun b hb => Below.heap_setCell _ _ _ _ (by have := (hown.lt b hb).1; show b ≠ w.heap.size + 1; omega))

theorem FaRel.keepFact {w wr w4 : World} {g : Nat} {bs : List Nat} {p : Nat} {A : Option Addr} {c : Nat} {f : LFact} (h : FaRel w wr g bs p A c f) (hgr : wr.grownBy w4 (Value.slice A f.2.length c).ownBlock) : Blk w4 (w.heap.size + 1) 42 #[.int .i64 f.1, .slice A f.2.length c] :=
  (hgr.block _ h.fact.lt (fun e => by have := (h.own.lt _ e.symm).1; omega)).trans h.fact

theorem num3_any (g : Nat) (bs : List Nat) (p b : Nat) (x y z : Int) (w : World) (h : Rdr w g bs p) (hp : p ≤ 1073741824) (hb : Blk w b 3 #[.int .i64 x, .int .i64 y, .int .i64 z]) (hne : b ≠ g) :
    Calls Tryz.prog 125 #[.pointer (some ⟨g, 0, none⟩), .slice (some ⟨b, 0, none⟩) 3 3] w fun e w' => (∃ x, e = .returned (.int .i64 x)) ∧ Picked w w' g bs p :=
  (num_any g bs p b _ [x, y, z] 3 w h hp hb rfl hne rfl (by simp) (by simp)).mono fun _ _ ⟨⟨u, he, _⟩, hk⟩ => ⟨⟨u, he⟩, hk⟩

theorem FaRel.pick_calls {w W : World} {g : Nat} {bs : List Nat} {q : Nat} {A : Option Addr} {c : Nat} {f : LFact} (h : FaRel w W g bs q A c f) (hg : g < w.heap.size) (hq : q ≤ 1073741824) (n : Int) (hn : n ≤ 1073741824) :
    Calls Tryz.prog 40 #[.pointer (some ⟨g, 0, none⟩), .int .i64 n] W fun e w' => ∃ v, e = .returned v ∧ (∃ x, v = .int .i64 x) ∧ FaRel w w' g bs (q + 1) A c f :=
  (pick_any g bs q n W h.rdr hq hn).mono fun _ _ ⟨⟨x, he, _⟩, hk⟩ => ⟨_, he, ⟨x, rfl⟩, h.pick hg hk⟩
theorem FaRel.num_calls {w W : World} {g : Nat} {bs : List Nat} {q : Nat} {A : Option Addr} {c : Nat} {f : LFact} (h : FaRel w W g bs q A c f) (hg : g < w.heap.size) (hq : q ≤ 1073741824) (x y z : Int) :
    Calls Tryz.prog 125 #[.pointer (some ⟨g, 0, none⟩), .slice (some ⟨W.heap.size, 0, none⟩) 3 3] (W.alloc (.cells #[.int .i64 x, .int .i64 y, .int .i64 z] 3)) fun e w' => ∃ v, e = .returned v ∧ (∃ x, v = .int .i64 x) ∧ FaRel w w' g bs (q + 1) A c f :=
  (num3_any g bs q W.heap.size x y z _ (h.alloc _).rdr hq (Blk.new _ _ _) (Nat.ne_of_gt h.rdr.lt)).mono fun _ _ ⟨⟨u, he⟩, hk⟩ => ⟨_, he, ⟨u, rfl⟩, (h.alloc _).pick hg hk⟩

/-- A round is done. -/
def FaStep (w wx : World) (g : Nat) (bs : List Nat) (p : Nat) (P : Int) (k : Nat) : Prop := ∃ (A : Option Addr) (c : Nat) (xs : List Int) (q : Nat), xs.length = k + 1 ∧ q ≤ p + 1 + 4 * (k + 1) ∧ FaRel w wx g bs q A c (P, xs)

/-- Some fact stands, of at most m arguments. -/
def FaNow (w wx : World) (g : Nat) (bs : List Nat) (p m q0 : Nat) : Prop := ∃ (A : Option Addr) (c : Nat) (f : LFact) (q : Nat), f.2.length ≤ m ∧ q ≤ p + q0 ∧ FaRel w wx g bs q A c f

/-- A row of one or more begins at its block. -/
theorem FaRel.form {w W : World} {g : Nat} {bs : List Nat} {q : Nat} {A : Option Addr} {c : Nat} {f : LFact} (h : FaRel w W g bs q A c f) (hn : 0 < f.2.length) : ∃ g2, A = some ⟨g2, 0, none⟩ := by
  obtain ⟨g2, cap, e, _⟩ := h.own.form hn
  injection e with e1 _ _
  exact ⟨g2, e1⟩
theorem FaRel.head {w W : World} {g : Nat} {bs : List Nat} {q g2 c : Nat} {f : LFact} (h : FaRel w W g bs q (some ⟨g2, 0, none⟩) c f) (hn : 0 < f.2.length) : W.cell? ⟨g2, 0, none⟩ = some (.int .i64 (f.2[0]'hn)) ∧ W.frozen? ⟨g2, 0, none⟩ = false := by
  refine ⟨?_, h.own.frozenAt 0⟩
  rw [h.own.cellAt 0 (by omega)]
  simp [hn]
/-- The first place is set anew. -/
theorem FaRel.first {w W : World} {g : Nat} {bs : List Nat} {q g2 c : Nat} {f : LFact} (h : FaRel w W g bs q (some ⟨g2, 0, none⟩) c f) (hg : g < w.heap.size) (x : Int) :
    FaRel w (W.setCell ⟨g2, 0, none⟩ (.int .i64 x)) g bs q (some ⟨g2, 0, none⟩) c (f.1, f.2.set 0 x) := by
  have hb := (h.own.lt g2 rfl).1
  have hs := h.own.stored 0 (.int .i64 x)
  refine ⟨h.res.far (by show w.heap.size ≠ g2; omega) _, ?_, ?_, h.rdr.same fun k hk => Below.heap_setCell _ _ _ _ (by show k ≠ g2; omega),
    ⟨h.only.os, h.only.tape, h.only.output, by simpa using h.only.size, fun k hk hn => (Below.heap_setCell _ _ _ _ (by show k ≠ g2; omega)).trans (h.only.block k hk hn)⟩⟩
  · simpa using h.fact.far (p := ⟨g2, 0, none⟩) (by show w.heap.size + 1 ≠ g2; omega) (.int .i64 x)
  · have := hs.1
    rw [← List.map_set] at this
    simpa using this
/-- The result is laid. -/
theorem FaRel.done {w W : World} {g : Nat} {bs : List Nat} {q : Nat} {A : Option Addr} {c : Nat} {f : LFact} (h : FaRel w W g bs q A c f) (hg : g < w.heap.size) :
    ((W.setCell ⟨w.heap.size, 0, none⟩ (.int .i64 f.1)).setCell ⟨w.heap.size, 1, none⟩ (.slice A f.2.length c)).ownsRow (w.heap.size + 2) 3 1 (.slice A f.2.length c) f.2.length (f.2.map (Value.int .i64)) ∧
    Rdr ((W.setCell ⟨w.heap.size, 0, none⟩ (.int .i64 f.1)).setCell ⟨w.heap.size, 1, none⟩ (.slice A f.2.length c)) g bs q ∧
    Only g (g + 1) w ((W.setCell ⟨w.heap.size, 0, none⟩ (.int .i64 f.1)).setCell ⟨w.heap.size, 1, none⟩ (.slice A f.2.length c)) ∧
    Blk ((W.setCell ⟨w.heap.size, 0, none⟩ (.int .i64 f.1)).setCell ⟨w.heap.size, 1, none⟩ (.slice A f.2.length c)) w.heap.size 42 #[.int .i64 f.1, .slice A f.2.length c] := by
  have hb : ∀ k, k ≠ w.heap.size → ((W.setCell ⟨w.heap.size, 0, none⟩ (.int .i64 f.1)).setCell ⟨w.heap.size, 1, none⟩ (.slice A f.2.length c)).heap[k]? = W.heap[k]? := fun k hk =>
    (Below.heap_setCell _ _ _ _ (by show k ≠ w.heap.size; exact hk)).trans (Below.heap_setCell _ _ _ _ (by show k ≠ w.heap.size; exact hk))
  refine ⟨ownsRow_only h.own (fun b hb' => hb b (by have := (h.own.lt b hb').1; omega)), h.rdr.same fun k hk => hb k (by omega), ⟨h.only.os, h.only.tape, h.only.output, by simpa using h.only.size, fun k hk hn => (hb k (by omega)).trans (h.only.block k hk hn)⟩, ?_⟩
  have := (h.res.set_ 0 (.int .i64 f.1)).set_ 1 (.slice A f.2.length c)
  simpa using this

set_option maxHeartbeats 8000000 in
set_option maxRecDepth 100000 in
theorem l1Fact_any (g : Nat) (bs : List Nat) (p : Nat) (v : Value) (ar : List Int) (w : World) (h : Rdr w g bs p) (hp : p ≤ 1048576) (ha : RdInts w w.heap.size v ar) (hv : ∀ w', Only g (g + 1) w w' → RdInts w' w'.heap.size v ar) (hr : ∀ x ∈ ar, 0 ≤ x ∧ x ≤ 2) (hl : ar.length ≤ 1048576) :
    Calls Tryz.prog 126 #[.pointer (some ⟨g, 0, none⟩), v] w fun e w' => ∃ (A : Option Addr) (c : Nat) (f : LFact) (q : Nat), e = .returned (.agg #[.int .i64 f.1, .slice A f.2.length c]) ∧ f.2.length ≤ 3 ∧ q ≤ p + 20 ∧
      w'.ownsRow (w.heap.size + 2) 3 1 (.slice A f.2.length c) f.2.length (f.2.map (Value.int .i64)) ∧ Rdr w' g bs q ∧ Only g (g + 1) w w' := by
  obtain ⟨i0, hi0, hz0, hz1, hz2⟩ := info_parts Tryz.infoInt
  have H := Lib.hid h
  have hgl := h.lt
  have HV := Lib.hid hv
  have HS := Lib.hid (FaRel.start h)
  obtain ⟨A0, c0, rfl, hc, hx⟩ := ha
  clear h hv hx
  go_enter Tryz.func126, Tryz.ntmps126
  go_upto_if 11 with (fail)
  go_cut [] (fun wx => FaNow w wx g bs p 2 9)
  case first =>
    by_cases h0 : 0 < ar.length
    · have hd : decide ((0 : Int) < ar.length) = true := by simpa using h0
      go_wp2_with (fail)
      refine (pick_any g bs p _ _ HS.out.rdr (by omega) (by omega)).mono ?_
      rintro e w1 ⟨⟨x, rfl, hx1⟩, hpk⟩
      obtain ⟨j, rfl⟩ : ∃ j : Nat, x = (j : Int) := ⟨x.toNat, by have := hx1.1 (by omega); omega⟩
      have hj : j < ar.length := by have := hx1.1 (by omega); omega
      have hf := HS.out.pick hgl hpk
      have HF := Lib.hid (hf.pred hgl (j : Int))
      have k0 : w1.cell? ⟨w.heap.size + 1, 0, none⟩ = some (.int .i64 0) := hf.fact.cell 0
      have k1 : w1.frozen? ⟨w.heap.size + 1, 0, none⟩ = false := hf.fact.frozen 0
      clear hf hpk hx1
      have hjr := hr _ (List.getElem_mem hj)
      obtain ⟨m, hm⟩ : ∃ m : Nat, ar[j] = (m : Int) := ⟨ar[j].toNat, by omega⟩
      have hm2 : m ≤ 2 := by omega
      clear hjr
      go_wp2_with (fail)
      go_loopw [6] (fun i wr => ∃ (k : Nat) (A : Option Addr) (c : Nat) (xs : List Int) (q : Nat), k ≤ m ∧ i = .int .i64 k ∧ xs.length = k ∧ q ≤ p + 1 + 4 * k ∧ FaRel w wr g bs q A c ((j : Int), xs)) (fun i _ => m - (intOf i).toNat)
      case atStart => exact ⟨0, none, 0, [], p + 1, Nat.zero_le _, rfl, rfl, by omega, HF.out⟩
      case round =>
        obtain ⟨k, A, c, xs, q, hk, rfl, hxl, hq, hfr⟩ := hrel
        have k2 : wr.cell? ⟨w.heap.size + 1, 0, none⟩ = some (.int .i64 (j : Int)) := hfr.fact.cell 0
        obtain ⟨A', c', e0, hc', hcell⟩ := HV.out wr hfr.only
        injection e0 with e1 _ e2
        subst e1
        subst e2
        obtain ⟨b, o, rfl, hbB, hx⟩ := hcell (by omega)
        have k3 : wr.cell? ⟨b, o + j, none⟩ = some (.int .i64 (m : Int)) := by rw [hx j hj, hm]
        have HR := Lib.hid hfr
        clear hcell hx hfr
        subst hxl
        by_cases hlt : xs.length < m
        · go_upto_region 7 with (fail)
          obtain ⟨SS, hSS⟩ : ∃ SS : World → Prop, SS = (fun W => W.cell? ⟨w.heap.size + 1, 1, none⟩ = some (.slice A xs.length c)) := ⟨_, rfl⟩
          have HS1 := Lib.hid (show ∀ W, W.cell? ⟨w.heap.size + 1, 1, none⟩ = some (.slice A xs.length c) → SS W from by rw [hSS]; exact fun _ h => h)
          have HS2 := Lib.hid (show ∀ W, SS W → W.cell? ⟨w.heap.size + 1, 1, none⟩ = some (.slice A xs.length c) from by rw [hSS]; exact fun _ h => h)
          clear hSS
          have F0 := Lib.hid HR.out.drew
          have S0 := Lib.hid (HS1.out _ (F0.out.fact.cell 1))
          refine wp_region_rel SS 14 15 (by kernel_rfl) rfl ?_
          refine wpAnyR_pure (i := 0) (oi := _) ?v0 rfl rfl (by kernel_rfl) (by decide) (fun _ _ _ h => h) rfl ?hy0 (fun _ => S0.out) ?rest0
          case hy0 => (intro W; go_simp; (try with_reducible rfl))
          simp only [List.setIfInBounds_toArray, List.set_cons_zero, List.set_cons_succ]
          refine wpAnyR_take (i := 1) (oi := _) ?v1 rfl rfl (by kernel_rfl) (fun _ _ _ h => h) rfl ?hy1 S0.out ?rest1
          case hy1 => (intro W hW; have e1 := HS2.out W hW; go_simp; (try with_reducible rfl))
          simp only [List.setIfInBounds_toArray, List.set_cons_zero, List.set_cons_succ]
          refine wpAnyR_pure (i := 2) (oi := _) ?v2 rfl rfl (by kernel_rfl) (by decide) (fun _ _ _ h => h) rfl ?hy2 (fun _ => S0.out) ?rest2
          case hy2 => (intro W; go_simp; (try with_reducible rfl))
          simp only [List.setIfInBounds_toArray, List.set_cons_zero, List.set_cons_succ]
          refine wpAnyR_pure (i := 3) (oi := _) ?v3 rfl rfl (by kernel_rfl) (by decide) (fun _ _ _ h => h) rfl ?hy3 (fun _ => S0.out) ?rest3
          case hy3 => (intro W; go_simp; (try with_reducible rfl))
          simp only [List.setIfInBounds_toArray, List.set_cons_zero, List.set_cons_succ]
          refine wpAnyR_pure (i := 5) (oi := _) ?v5 rfl rfl (by kernel_rfl) (by decide) (fun _ _ _ h => h) rfl ?hy5 (fun _ => S0.out) ?rest5
          case hy5 => (intro W; go_simp; (try with_reducible rfl))
          simp only [List.setIfInBounds_toArray, List.set_cons_zero, List.set_cons_succ]
          refine wpAnyR_pure (i := 7) (oi := _) ?v7 rfl rfl (by kernel_rfl) (by decide) (fun _ _ _ h => h) rfl ?hy7 (fun _ => S0.out) ?rest7
          case hy7 => (intro W; go_simp; (try with_reducible rfl))
          simp only [List.setIfInBounds_toArray, List.set_cons_zero, List.set_cons_succ]
          refine wpAnyR_one (i := 4) (by kernel_rfl) rfl (fun K hK => ?_)
          go_simp
          refine (FaRel.pick_calls F0.out hgl (by omega) 3 (by omega)).mono ?_
          rintro e w4 ⟨v4, rfl, ⟨x4, rfl⟩, hf4⟩
          have F4 := Lib.hid hf4
          have S4 := Lib.hid (HS1.out _ (hf4.fact.cell 1))
          clear hf4
          refine hK.out _ _ (fun _ => S4.out) ?_
          clear hK K
          try simp only [List.setIfInBounds_toArray, List.set_cons_zero, List.set_cons_succ, Act.put]
          refine wpAnyR_one (i := 6) (by kernel_rfl) rfl (fun K hK => ?_)
          go_simp
          refine (FaRel.pick_calls F4.out hgl (by omega) 3 (by omega)).mono ?_
          rintro e w6 ⟨v6, rfl, ⟨x6, rfl⟩, hf6⟩
          have F6 := Lib.hid hf6
          have S6 := Lib.hid (HS1.out _ (hf6.fact.cell 1))
          clear hf6
          refine hK.out _ _ (fun _ => S6.out) ?_
          clear hK K
          try simp only [List.setIfInBounds_toArray, List.set_cons_zero, List.set_cons_succ, Act.put]
          refine wpAnyR_one (i := 8) (by kernel_rfl) rfl (fun K hK => ?_)
          go_simp
          refine (FaRel.pick_calls F6.out hgl (by omega) 6 (by omega)).mono ?_
          rintro e w8 ⟨v8, rfl, ⟨x8, rfl⟩, hf8⟩
          have F8 := Lib.hid hf8
          have S8 := Lib.hid (HS1.out _ ((hf8.alloc (.cells #[.int .i64 x4, .int .i64 x6, .int .i64 x8] 3)).fact.cell 1))
          clear hf8
          refine hK.out _ _ (fun _ => HS1.out _ (F8.out.fact.cell 1)) ?_
          clear hK K
          try simp only [List.setIfInBounds_toArray, List.set_cons_zero, List.set_cons_succ, Act.put]
          refine wpAnyR_one (i := 9) (by kernel_rfl) rfl (fun K hK => ?_)
          go_simp
          refine hK.out _ _ (fun _ => S8.out) ?_
          clear hK K
          try simp only [List.setIfInBounds_toArray, List.set_cons_zero, List.set_cons_succ, Act.put]
          refine wpAnyR_one (i := 10) (by kernel_rfl) rfl (fun K hK => ?_)
          go_simp
          refine (FaRel.num_calls F8.out hgl (by omega) x4 x6 x8).mono ?_
          rintro e w9 ⟨v9, rfl, ⟨x9, rfl⟩, hf9⟩
          have F9 := Lib.hid hf9
          clear hf9
          refine hK.out _ _ (fun _ => HS1.out _ (F9.out.fact.cell 1)) ?_
          clear hK K
          try simp only [List.setIfInBounds_toArray, List.set_cons_zero, List.set_cons_succ, Act.put]
          refine wpAnyR_one (i := 11) (by kernel_rfl) rfl (fun K hK => ?_)
          go_simp
          refine hK.out _ _ (fun _ => HS1.out _ ((F9.out.alloc _).fact.cell 1)) ?_
          clear hK K
          try simp only [List.setIfInBounds_toArray, List.set_cons_zero, List.set_cons_succ, Act.put]
          refine wpAnyR_one (i := 12) (by kernel_rfl) rfl (fun K hK => ?_)
          refine step_append_lies _ rfl (.tmp 27) (.tmp 37) 31 rfl (w.heap.size + 2) 3 i0 (.int .i64 0) 1 8 Tryz.underlying31 hi0 hz0 hz1 hz2 rfl (by decide) (.slice A xs.length c) xs.length (xs.map (Value.int .i64)) rfl ?c1 ⟨w9.heap.size, 0, none⟩ 1 1 [.int .i64 x9] rfl rfl ?c4 ?c2 (by omega) (by unfold maxLen; omega) (by omega) ?c3 _ rfl ?c5
          case c1 => exact (F9.out.alloc _).own
          case c4 => exact cell_one_new _ _ _
          case c2 => intro u hu; simp at hu; subst hu; rfl
          case c3 => exact (F9.out.alloc _).fact.lt
          case c5 =>
            intro g2 cap w5 hown hgr _ _
            have HST := Lib.hid (FaRel.push (F9.out.alloc _) hgl hgr hown)
            have hkf := FaRel.keepFact (F9.out.alloc _) hgr
            have e1 : w5.cell? ⟨w.heap.size + 1, 1, none⟩ = some (.slice A xs.length c) := hkf.cell 1
            have e2 := hkf.frozen 1
            clear hkf hown hgr
            refine hK.out _ _ (fun _ => HS1.out _ e1) ?_
            clear hK K
            try simp only [List.setIfInBounds_toArray, Act.put]
            refine wpAnyR_pure (i := 13) (oi := _) ?v13 rfl rfl (by kernel_rfl) (by decide) (fun _ _ _ h => h) rfl ?hy13 (fun _ => HS1.out _ e1) ?rest13
            case hy13 => (intro W; go_simp; (try with_reducible rfl))
            try simp only [List.setIfInBounds_toArray, List.set_cons_zero, List.set_cons_succ]
            refine wpAnyR_one (i := 14) (by kernel_rfl) rfl (fun K hK => ?_)
            go_simp
            refine hK.out _ _ (fun hf => absurd hf (by decide)) ?_
            clear hK K
            refine wpAnyR_done (by kernel_rfl) ?_
            go_wp2_with (fail)
            go_roundw
            case rel => exact ⟨xs.length + 1, _, _, _, _, by omega, by go_num, by simp, by omega, HST.out⟩
            case measure => simp [intOf]; omega
        · have hkn : xs.length = m := by omega
          have hdk : decide ((xs.length : Int) < (m : Int)) = false := by simp; omega
          go_wp2_with (fail)
          go_meet
          exact ⟨A, c, ((j : Int), xs), q, by show xs.length ≤ 2; omega, by omega, HR.out⟩
    · have hd : decide ((0 : Int) < ar.length) = false := by simpa using h0
      go_wp2_with (fail)
      go_meet
      exact ⟨none, 0, (0, []), p, by simp, by omega, HS.out⟩
  case rest =>
    obtain ⟨A, c, f, q, hfl, hq, hf⟩ := hcut
    have F0' := Lib.hid hf
    clear hf HS HV
    go_wp2_with (fail)
    refine (FaRel.pick_calls F0'.out hgl (by omega) 40 (by omega)).mono ?_
    rintro e w1 ⟨v1, rfl, ⟨x1, rfl⟩, hf1⟩
    have F1 := Lib.hid hf1
    clear hf1
    go_upto_if 42 with (fail)
    go_cut [] (fun wx => FaNow w wx g bs p 3 20)
    case first =>
      by_cases h1 : x1 = 0
      · subst h1
        go_wp2_with (fail)
        refine (FaRel.pick_calls F1.out hgl (by omega) 3 (by omega)).mono ?_
        rintro e w2 ⟨v2, rfl, ⟨x2, rfl⟩, hf2⟩
        have F2 := Lib.hid hf2
        clear hf2
        by_cases h2 : x2 = 0
        · subst h2
          go_wp2_with (fail)
          refine (FaRel.num_calls F2.out hgl (by omega) (-1) (ar.length : Int) 30).mono ?_
          rintro e w3 ⟨v3, rfl, ⟨x3, rfl⟩, hf3⟩
          have HF := Lib.hid (hf3.pred hgl x3)
          have k0 : w3.cell? ⟨w.heap.size + 1, 0, none⟩ = some (.int .i64 f.1) := hf3.fact.cell 0
          have k1 : w3.frozen? ⟨w.heap.size + 1, 0, none⟩ = false := hf3.fact.frozen 0
          clear hf3
          go_wp2_with (fail)
          go_meet
          exact ⟨A, c, (x3, f.2), _, by show f.2.length ≤ 3; omega, by omega, HF.out⟩
        · have hd2 : (x2 == 0) = false := by simpa using h2
          by_cases h3 : x2 = 1
          · subst h3
            go_upto_region 13 with (fail)
            obtain ⟨SS, hSS⟩ : ∃ SS : World → Prop, SS = (fun W => W.cell? ⟨w.heap.size + 1, 1, none⟩ = some (.slice A f.2.length c)) := ⟨_, rfl⟩
            have HS1 := Lib.hid (show ∀ W, W.cell? ⟨w.heap.size + 1, 1, none⟩ = some (.slice A f.2.length c) → SS W from by rw [hSS]; exact fun _ h => h)
            have HS2 := Lib.hid (show ∀ W, SS W → W.cell? ⟨w.heap.size + 1, 1, none⟩ = some (.slice A f.2.length c) from by rw [hSS]; exact fun _ h => h)
            clear hSS
            have F0 := Lib.hid F2.out.drew
            have S0 := Lib.hid (HS1.out _ (F0.out.fact.cell 1))
            refine wp_region_rel SS 8 9 (by kernel_rfl) rfl ?_
            refine wpAnyR_pure (i := 0) (oi := _) ?v0b rfl rfl (by kernel_rfl) (by decide) (fun _ _ _ h => h) rfl ?hy0b (fun _ => S0.out) ?rest0b
            case hy0b => (intro W; go_simp; (try with_reducible rfl))
            try simp only [List.setIfInBounds_toArray, List.set_cons_zero, List.set_cons_succ]
            refine wpAnyR_take (i := 1) (oi := _) ?v1b rfl rfl (by kernel_rfl) (fun _ _ _ h => h) rfl ?hy1b S0.out ?rest1b
            case hy1b => (intro W hW; have e1 := HS2.out W hW; go_simp; (try with_reducible rfl))
            try simp only [List.setIfInBounds_toArray, List.set_cons_zero, List.set_cons_succ]
            refine wpAnyR_pure (i := 2) (oi := _) ?v2b rfl rfl (by kernel_rfl) (by decide) (fun _ _ _ h => h) rfl ?hy2b (fun _ => S0.out) ?rest2b
            case hy2b => (intro W; go_simp; (try with_reducible rfl))
            try simp only [List.setIfInBounds_toArray, List.set_cons_zero, List.set_cons_succ]
            refine wpAnyR_one (i := 3) (by kernel_rfl) rfl (fun K hK => ?_)
            go_simp
            refine hK.out _ _ (fun _ => HS1.out _ ((F0.out.alloc _).fact.cell 1)) ?_
            clear hK K
            try simp only [List.setIfInBounds_toArray, List.set_cons_zero, List.set_cons_succ, Act.put]
            refine wpAnyR_one (i := 4) (by kernel_rfl) rfl (fun K hK => ?_)
            go_simp
            refine (FaRel.num_calls F0.out hgl (by omega) 0 6 (-1)).mono ?_
            rintro e w9 ⟨v9, rfl, ⟨x9, rfl⟩, hf9⟩
            have F9 := Lib.hid hf9
            clear hf9
            refine hK.out _ _ (fun _ => HS1.out _ (F9.out.fact.cell 1)) ?_
            clear hK K
            try simp only [List.setIfInBounds_toArray, List.set_cons_zero, List.set_cons_succ, Act.put]
            refine wpAnyR_one (i := 5) (by kernel_rfl) rfl (fun K hK => ?_)
            go_simp
            refine hK.out _ _ (fun _ => HS1.out _ ((F9.out.alloc _).fact.cell 1)) ?_
            clear hK K
            try simp only [List.setIfInBounds_toArray, List.set_cons_zero, List.set_cons_succ, Act.put]
            refine wpAnyR_one (i := 6) (by kernel_rfl) rfl (fun K hK => ?_)
            refine step_append_lies _ rfl (.tmp 56) (.tmp 60) 31 rfl (w.heap.size + 2) 3 i0 (.int .i64 0) 1 8 Tryz.underlying31 hi0 hz0 hz1 hz2 rfl (by decide) (.slice A f.2.length c) f.2.length (f.2.map (Value.int .i64)) rfl ?c1b ⟨w9.heap.size, 0, none⟩ 1 1 [.int .i64 x9] rfl rfl ?c4b ?c2b (by omega) (by unfold maxLen; omega) (by omega) ?c3b _ rfl ?c5b
            case c1b => exact (F9.out.alloc _).own
            case c4b => exact cell_one_new _ _ _
            case c2b => intro u hu; simp at hu; subst hu; rfl
            case c3b => exact (F9.out.alloc _).fact.lt
            case c5b =>
              intro g2 cap w5 hown hgr _ _
              have HST := Lib.hid (FaRel.push (P := f.1) (xs := f.2) (F9.out.alloc _) hgl hgr hown)
              have hkf := FaRel.keepFact (F9.out.alloc _) hgr
              have e1 : w5.cell? ⟨w.heap.size + 1, 1, none⟩ = some (.slice A f.2.length c) := hkf.cell 1
              have e2 := hkf.frozen 1
              clear hkf hown hgr
              refine hK.out _ _ (fun _ => HS1.out _ e1) ?_
              clear hK K
              try simp only [List.setIfInBounds_toArray, Act.put]
              refine wpAnyR_pure (i := 7) (oi := _) ?v7b rfl rfl (by kernel_rfl) (by decide) (fun _ _ _ h => h) rfl ?hy7b (fun _ => HS1.out _ e1) ?rest7b
              case hy7b => (intro W; go_simp; (try with_reducible rfl))
              try simp only [List.setIfInBounds_toArray, List.set_cons_zero, List.set_cons_succ]
              refine wpAnyR_one (i := 8) (by kernel_rfl) rfl (fun K hK => ?_)
              go_simp
              refine hK.out _ _ (fun hf => absurd hf (by decide)) ?_
              clear hK K
              refine wpAnyR_done (by kernel_rfl) ?_
              go_wp2_with (fail)
              go_meet
              exact ⟨_, _, (f.1, f.2 ++ [x9]), _, by simp; omega, by omega, HST.out⟩
          · have hd3 : (x2 == 1) = false := by simpa using h3
            have k1 : w2.cell? ⟨w.heap.size + 1, 1, none⟩ = some (.slice A f.2.length c) := F2.out.fact.cell 1
            by_cases hn0 : 0 < f.2.length
            · have hdn : decide ((0 : Int) < f.2.length) = true := by simpa using hn0
              obtain ⟨g2, rfl⟩ := F2.out.form hn0
              go_upto_region 15 with (fail)
              obtain ⟨SS, hSS⟩ : ∃ SS : World → Prop, SS = (fun W => W.cell? ⟨w.heap.size + 1, 1, none⟩ = some (.slice (some ⟨g2, 0, none⟩) f.2.length c)) := ⟨_, rfl⟩
              have HS1 := Lib.hid (show ∀ W, W.cell? ⟨w.heap.size + 1, 1, none⟩ = some (.slice (some ⟨g2, 0, none⟩) f.2.length c) → SS W from by rw [hSS]; exact fun _ h => h)
              have HS2 := Lib.hid (show ∀ W, SS W → W.cell? ⟨w.heap.size + 1, 1, none⟩ = some (.slice (some ⟨g2, 0, none⟩) f.2.length c) from by rw [hSS]; exact fun _ h => h)
              clear hSS
              have F0 := Lib.hid F2.out.drew
              have S0 := Lib.hid (HS1.out _ (F0.out.fact.cell 1))
              have hpos : (0 : Int) < (f.2.length : Int) := by omega
              refine wp_region_rel SS 6 7 (by kernel_rfl) rfl ?_
              refine wpAnyR_pure (i := 0) (oi := _) ?v0d rfl rfl (by kernel_rfl) (by decide) (fun _ _ _ h => h) rfl ?hy0d (fun _ => S0.out) ?rest0d
              case hy0d => (intro W; go_simp; (try with_reducible rfl))
              try simp only [List.setIfInBounds_toArray, List.set_cons_zero, List.set_cons_succ]
              refine wpAnyR_take (i := 1) (oi := _) ?v1d rfl rfl (by kernel_rfl) (fun _ _ _ h => h) rfl ?hy1d S0.out ?rest1d
              case hy1d => (intro W hW; have e1 := HS2.out W hW; go_simp; (try with_reducible rfl))
              try simp only [List.setIfInBounds_toArray, List.set_cons_zero, List.set_cons_succ]
              refine wpAnyR_pure (i := 2) (oi := _) ?v2d rfl rfl (by kernel_rfl) (by decide) (fun _ _ _ h => h) rfl ?hy2d (fun _ => S0.out) ?rest2d
              case hy2d => (intro W; go_simp; (try with_reducible rfl))
              try simp only [List.setIfInBounds_toArray, List.set_cons_zero, List.set_cons_succ]
              refine wpAnyR_one (i := 3) (by kernel_rfl) rfl (fun K hK => ?_)
              go_simp
              refine hK.out _ _ (fun _ => HS1.out _ ((F0.out.alloc _).fact.cell 1)) ?_
              clear hK K
              try simp only [List.setIfInBounds_toArray, List.set_cons_zero, List.set_cons_succ, Act.put]
              refine wpAnyR_one (i := 4) (by kernel_rfl) rfl (fun K hK => ?_)
              go_simp
              refine (FaRel.num_calls F0.out hgl (by omega) 6 (-1) 5).mono ?_
              rintro e w9 ⟨v9, rfl, ⟨x9, rfl⟩, hf9⟩
              have F9 := Lib.hid hf9
              have HST := Lib.hid (hf9.first hgl x9)
              obtain ⟨e1, e2⟩ := hf9.head hn0
              clear hf9
              refine hK.out _ _ (fun _ => HS1.out _ (F9.out.fact.cell 1)) ?_
              clear hK K
              try simp only [List.setIfInBounds_toArray, List.set_cons_zero, List.set_cons_succ, Act.put]
              refine wpAnyR_pure (i := 5) (oi := _) (.pointer (some ⟨g2, 0, none⟩)) rfl rfl (by kernel_rfl) (by decide) (fun _ _ _ h => h) rfl ?hy5d (fun _ => HS1.out _ (F9.out.fact.cell 1)) ?rest5d
              case hy5d => (intro W; go_simp; (try with_reducible rfl))
              try simp only [List.setIfInBounds_toArray, List.set_cons_zero, List.set_cons_succ]
              refine wpAnyR_one (i := 6) (by kernel_rfl) rfl (fun K hK => ?_)
              go_simp
              refine hK.out _ _ (fun hf => absurd hf (by decide)) ?_
              clear hK K
              refine wpAnyR_done (by kernel_rfl) ?_
              go_wp2_with (fail)
              go_meet
              exact ⟨_, _, (f.1, f.2.set 0 x9), _, by simp; omega, by omega, HST.out⟩
            · have hdn : decide ((0 : Int) < f.2.length) = false := by simpa using hn0
              go_wp2_with (fail)
              go_meet
              exact ⟨A, c, f, _, by omega, by omega, F2.out⟩
      · have hd1 : (x1 == 0) = false := by simpa using h1
        go_wp2_with (fail)
        go_meet
        exact ⟨A, c, f, _, by omega, by omega, F1.out⟩
    case rest =>
      obtain ⟨A, c, f, q, hfl, hq, hf⟩ := hcut
      have k0 : wc.cell? ⟨w.heap.size + 1, 0, none⟩ = some (.int .i64 f.1) := hf.fact.cell 0
      have k1 : wc.cell? ⟨w.heap.size + 1, 1, none⟩ = some (.slice A f.2.length c) := hf.fact.cell 1
      have j0 : wc.cell? ⟨w.heap.size, 0, none⟩ = some (.int .i64 0) := hf.res.cell 0
      have j1 : wc.cell? ⟨w.heap.size, 1, none⟩ = some (.slice none 0 0) := hf.res.cell 1
      have l0 := hf.res.frozen 0
      have l1 := hf.res.frozen 1
      obtain ⟨hd0, hd1, hd2, hd3⟩ := hf.done hgl
      have HD := Lib.hid (And.intro hd0 (And.intro hd1 hd2))
      obtain ⟨W, hW⟩ : ∃ W, W = (wc.setCell ⟨w.heap.size, 0, none⟩ (.int .i64 f.1)).setCell ⟨w.heap.size, 1, none⟩ (.slice A f.2.length c) := ⟨_, rfl⟩
      rw [← hW] at HD
      have d0 : W.cell? ⟨w.heap.size, 0, none⟩ = some (.int .i64 f.1) := by rw [hW, hd3.cell 0]; rfl
      have d1 : W.cell? ⟨w.heap.size, 1, none⟩ = some (.slice A f.2.length c) := by rw [hW, hd3.cell 1]; rfl
      have HW := Lib.hid hW
      clear hW hd0 hd1 hd2 hd3 hf
      go_wp2_with (fail)
      rw [← HW.out]
      refine bodyPost_ret (v := .agg #[.int .i64 f.1, .slice A f.2.length c]) (by simp [results, Tryz.results126, go_sem, d0, d1]) rfl ?_
      obtain ⟨h1, h2, h3⟩ := HD.out
      exact ⟨A, c, f, q, rfl, hfl, by omega, h1, h2, h3⟩

end Go.Proofs.YtokmmloakahkhaaGreat
/-
  A fact drawn, its arguments in a row of the call's own.
-/
namespace Go.Proofs.YtokmmloakahkhaaGreat
open Go.RowKit

theorem OwnInts.offG {w W : World} {lo hi g : Nat} {v : Value} {xs : List Int} (h : OwnInts w lo hi v xs) (k : Only g (g + 1) w W) (hg : g < lo) : OwnInts W lo hi v xs :=
  h.kept fun b hb => k.block b (h.1.lt b hb).2 (.inr (by have := (h.1.lt b hb).1; omega))
theorem DrRel.ints {w wr : World} {g : Nat} {bs : List Nat} {p k : Nat} {A : Option Addr} {c : Nat} {xs : List Int} (h : DrRel w wr g bs p k A c xs) : OwnInts wr w.heap.size wr.heap.size (.slice A k c) xs :=
  ⟨by rw [h.len]; exact h.own, fun b hb => (h.own.lt b hb).2⟩

theorem l1Fact_own (g : Nat) (bs : List Nat) (p lo hi : Nat) (v : Value) (ar : List Int) (w : World) (h : Rdr w g bs p) (hp : p ≤ 1048576) (ha : OwnInts w lo hi v ar) (hg : g < lo) (hh : hi ≤ w.heap.size) (hr : ∀ x ∈ ar, 0 ≤ x ∧ x ≤ 2) (hl : ar.length ≤ 1048576) :
    Calls Tryz.prog 126 #[.pointer (some ⟨g, 0, none⟩), v] w fun e w' => ∃ (A : Option Addr) (c : Nat) (f : LFact) (q : Nat), e = .returned (.agg #[.int .i64 f.1, .slice A f.2.length c]) ∧ f.2.length ≤ 3 ∧ q ≤ p + 20 ∧
      OwnInts w' w.heap.size w'.heap.size (.slice A f.2.length c) f.2 ∧ Rdr w' g bs q ∧ Only g (g + 1) w w' :=
  (l1Fact_any g bs p v ar w h hp (ha.rd.more hh) (fun _ k => (ha.offG k hg).rd.more (Nat.le_trans hh k.size)) hr hl).mono fun _ _ ⟨A, c, f, q, he, hf, hq, ho, hR, hO⟩ =>
    ⟨A, c, f, q, he, hf, hq, (show OwnInts _ _ _ _ _ from ⟨ho, fun b hb => (ho.lt b hb).2⟩).mono (Nat.le_add_right _ 2) (Nat.le_refl _), hR, hO⟩

end Go.Proofs.YtokmmloakahkhaaGreat
/-
  A row of integers that a draw makes: the words; the walk of l3Draw.
-/
namespace Go.Proofs.YtokmmloakahkhaaGreat
open Go.RowKit

/-- What a draw of integers keeps: the row lies from w on, the reader is read on. -/
structure DrI (w wr : World) (g : Nat) (bs : List Nat) (q : Nat) (A : Option Addr) (c : Nat) (xs : List Int) : Prop where
  own : OwnInts wr w.heap.size wr.heap.size (.slice A xs.length c) xs
  rdr : Rdr wr g bs q
  only : Only g (g + 1) w wr
section
variable {w wr w' w4 : World} {g q : Nat} {bs : List Nat} {A : Option Addr} {c : Nat} {xs : List Int}
theorem DrI.empty (h : Rdr w g bs q) : DrI w (w.alloc (.cells #[] 3)) g bs q (some ⟨w.heap.size, 0, none⟩) 0 [] :=
  ⟨⟨World.ownsRow_made w #[] 0 (Nat.le_refl _) (by decide) rfl, fun b hb => by simp [Value.ownBlock] at hb; subst hb; simp⟩, h.below (below1 _ _) h.lt, Only.of_below (below1 _ _)⟩
theorem DrI.on (h : DrI w wr g bs q A c xs) (hb : Below wr.heap.size wr w') : DrI w w' g bs q A c xs :=
  ⟨(h.own.below hb (Nat.le_refl _)).mono (Nat.le_refl _) hb.size, h.rdr.below hb h.rdr.lt, h.only.trans (Only.of_below hb)⟩
theorem DrI.pick (h : DrI w wr g bs q A c xs) (hg : g < w.heap.size) (hk : Picked wr w' g bs q) : DrI w w' g bs (q + 1) A c xs :=
  ⟨(h.own.only hk.2 (.inr (by omega))).mono (Nat.le_refl _) hk.2.size, hk.1, h.only.trans hk.2⟩
theorem DrI.low (h : DrI w wr g bs q A c xs) (hg : wr.grownBy w' (Value.slice A xs.length c).ownBlock) : ∀ b, b < w.heap.size → w'.heap[b]? = wr.heap[b]? := fun b hb =>
  hg.block b (by have := h.only.size; omega) (fun e => by have := (h.own.lt e.symm).1; omega)
theorem DrI.push {g2 cap : Nat} {x : Int} {o : Obj} (h : DrI w wr g bs q A c xs) (hgw : g < w.heap.size) (hg : (wr.alloc o).grownBy w4 (Value.slice A xs.length c).ownBlock)
    (hown : w4.ownsRow w.heap.size 3 1 (.slice (some ⟨g2, 0, none⟩) (xs.length + 1) cap) (xs.length + 1) (xs.map (Value.int .i64) ++ [.int .i64 x])) : DrI w w4 g bs q (some ⟨g2, 0, none⟩) cap (xs ++ [x]) := by
  have hg2 := grown_from_alloc hg
  have hlow := h.low hg2
  have hl : (xs ++ [x]).length = xs.length + 1 := by simp
  refine ⟨?_, h.rdr.same fun k hk => hlow k (by omega), ?_⟩
  · rw [hl]
    exact ⟨by simpa using hown, fun b hb => (hown.lt b hb).2⟩
  · exact ⟨hg2.os.trans h.only.os, hg2.tape.trans h.only.tape, hg2.output.trans h.only.output, Nat.le_trans h.only.size hg2.size, fun b hb hn => (hlow b hb).trans (h.only.block b hb hn)⟩
theorem DrI.form (h : DrI w wr g bs q A c xs) (hn : 0 < xs.length) : ∃ b, A = some ⟨b, 0, none⟩ ∧ w.heap.size ≤ b := by
  rcases h.own.1.2 with ⟨e, h0⟩ | ⟨b, cap, cur, e, hb, _⟩
  · omega
  · injection e with e _ _
    exact ⟨b, e, hb⟩
theorem DrI.cap (h : DrI w wr g bs q A c xs) : xs.length ≤ c := by
  obtain ⟨A', c', e, hc, _⟩ := h.own.rd
  injection e with _ _ e
  omega
theorem DrI.cell {b : Nat} (h : DrI w wr g bs q (some ⟨b, 0, none⟩) c xs) {j : Nat} (hj : j < xs.length) : wr.cell? ⟨b, j, none⟩ = some (.int .i64 xs[j]) ∧ wr.frozen? ⟨b, j, none⟩ = false := by
  refine ⟨?_, h.own.1.frozenAt j⟩
  rw [h.own.1.cellAt j (by omega)]
  simp [hj]
theorem DrI.set {b : Nat} (h : DrI w wr g bs q (some ⟨b, 0, none⟩) c xs) (hgw : g < w.heap.size) {j : Nat} (hj : j < xs.length) (x : Int) : DrI w (wr.setCell ⟨b, j, none⟩ (.int .i64 x)) g bs q (some ⟨b, 0, none⟩) c (xs.set j x) := by
  have hb := (h.own.lt (g := b) rfl)
  refine ⟨?_, h.rdr.same fun k hk => Below.heap_setCell _ _ _ _ (by show k ≠ b; omega), ⟨h.only.os, h.only.tape, h.only.output, by simpa using h.only.size, fun k hk hn => (Below.heap_setCell _ _ _ _ (by show k ≠ b; omega)).trans (h.only.block k hk hn)⟩⟩
  have := h.own.store rfl hj x
  simpa using this
theorem DrI.take {b n : Nat} (h : DrI w wr g bs q (some ⟨b, 0, none⟩) c xs) (hn : n ≤ xs.length) : DrI w wr g bs q (some ⟨b, 0, none⟩) c (xs.take n) := by
  refine ⟨?_, h.rdr, h.only⟩
  have hl : (xs.take n).length = n := by rw [List.length_take]; omega
  rw [hl]
  refine ⟨⟨by first | (simp; done) | (simp; omega), .inr ?_⟩, h.own.2⟩
  rcases h.own.1.2 with ⟨e, _⟩ | ⟨b', cap, cur, e, hb, hg, hnc, hcm, hcs, ht⟩
  · cases e
  · injection e with e1 e2 e3
    injection e1 with e1
    injection e1 with e1 _ _
    subst e1
    subst e3
    refine ⟨b, c, cur, by rw [hl], hb, hg, by omega, hcm, hcs, ?_⟩
    rw [hl]
    have := congrArg (List.take n) ht
    rw [List.take_take] at this
    simp only [Nat.mul_one] at this ⊢
    rw [show min n xs.length = n by omega] at this
    rw [this, List.map_take]
theorem DrI.same (h : DrI w wr g bs q A c xs) : RdInts wr wr.heap.size (.slice A xs.length c) xs := h.own.rd
end

end Go.Proofs.YtokmmloakahkhaaGreat
/-
  An atom drawn: the words; the walk of l2Draw.
-/
namespace Go.Proofs.YtokmmloakahkhaaGreat
open Go.RowKit

/-- What l2Draw keeps: r is the result's block, r + 1 the fact's. -/
structure AoRel (w wr : World) (g : Nat) (bs : List Nat) (p : Nat) (A : Option Addr) (c : Nat) (f : LFact) : Prop where
  res : Blk wr w.heap.size 33 #[.int .i64 0, .slice none 0 0]
  fact : Blk wr (w.heap.size + 1) 33 #[.int .i64 f.1, .slice A f.2.length c]
  own : wr.ownsRow (w.heap.size + 2) 3 1 (.slice A f.2.length c) f.2.length (f.2.map (Value.int .i64))
  rdr : Rdr wr g bs p
  only : Only g (g + 1) w wr

theorem AoRel.start {w : World} {g : Nat} {bs : List Nat} {p : Nat} (h : Rdr w g bs p) :
    AoRel w ((w.alloc (Obj.cells #[Value.int IntKind.i64 0, Value.slice none 0 0] 33)).alloc (Obj.cells #[Value.int IntKind.i64 0, Value.slice none 0 0] 33)) g bs p none 0 (0, []) :=
  ⟨(Blk.new w _ _).alloc _, by simpa using Blk.new (w.alloc (Obj.cells #[Value.int IntKind.i64 0, Value.slice none 0 0] 33)) 33 #[.int .i64 0, .slice none 0 0], World.ownsRow_nil _ _ _ _, h.below (below2 w _ _) h.lt, Only.of_below (below2 w _ _)⟩

/-- A pick keeps the rest. -/
theorem AoRel.pick {w wr w' : World} {g : Nat} {bs : List Nat} {p : Nat} {A : Option Addr} {c : Nat} {f : LFact} (h : AoRel w wr g bs p A c f) (hg : g < w.heap.size) (hk : Picked wr w' g bs p) : AoRel w w' g bs (p + 1) A c f :=
  ⟨h.res.only hk.2 (by omega), h.fact.only hk.2 (by omega), ownsRow_only h.own (fun b hb => hk.2.block b (h.own.lt b hb).2 (by have := (h.own.lt b hb).1; omega)), hk.1, h.only.trans hk.2⟩

/-- The predicate stored. -/
theorem AoRel.pred {w wr : World} {g : Nat} {bs : List Nat} {p : Nat} {A : Option Addr} {c : Nat} {f : LFact} (h : AoRel w wr g bs p A c f) (hg : g < w.heap.size) (x : Int) : AoRel w (wr.setCell ⟨w.heap.size + 1, 0, none⟩ (.int .i64 x)) g bs p A c (x, f.2) :=
  ⟨h.res.far (by show w.heap.size ≠ w.heap.size + 1; omega) _, h.fact.set_ 0 _, ownsRow_only h.own (fun b hb => Below.heap_setCell _ _ _ _ (by have := (h.own.lt b hb).1; show b ≠ w.heap.size + 1; omega)),
    h.rdr.same fun k hk => Below.heap_setCell _ _ _ _ (by show k ≠ w.heap.size + 1; omega),
    ⟨h.only.os, h.only.tape, h.only.output, by simpa using h.only.size, fun k hk hn => (Below.heap_setCell _ _ _ _ (by show k ≠ w.heap.size + 1; omega)).trans (h.only.block k hk hn)⟩⟩

/-- A new block keeps all. -/
theorem AoRel.alloc {w wr : World} {g : Nat} {bs : List Nat} {p : Nat} {A : Option Addr} {c : Nat} {f : LFact} (h : AoRel w wr g bs p A c f) (o : Obj) : AoRel w (wr.alloc o) g bs p A c f :=
  ⟨h.res.alloc o, h.fact.alloc o, h.own.alloc o, h.rdr.below (below1 wr o) h.rdr.lt, h.only.trans (Only.of_below (below1 wr o))⟩
theorem AoRel.drewN {w wr : World} {g : Nat} {bs : List Nat} {p : Nat} {A : Option Addr} {c : Nat} {f : LFact} (h : AoRel w wr g bs p A c f) (n : Nat) : AoRel w (wr.drewN n) g bs p A c f :=
  ⟨h.res, h.fact, h.own, h.rdr, ⟨h.only.os, h.only.tape, h.only.output, h.only.size, h.only.block⟩⟩

theorem AoRel.drew {w wr : World} {g : Nat} {bs : List Nat} {p : Nat} {A : Option Addr} {c : Nat} {f : LFact} (h : AoRel w wr g bs p A c f) : AoRel w wr.drew g bs p A c f :=
  ⟨h.res, h.fact, h.own, h.rdr, ⟨h.only.os, h.only.tape, h.only.output, h.only.size, h.only.block⟩⟩

theorem AoRel.push {w wr w4 : World} {g : Nat} {bs : List Nat} {p : Nat} {A : Option Addr} {c : Nat} {P : Int} {xs : List Int} (h : AoRel w wr g bs p A c (P, xs)) (hg : g < w.heap.size)
    (hgr : wr.grownBy w4 (Value.slice A xs.length c).ownBlock) {g2 cap : Nat} {x : Int} (hown : w4.ownsRow (w.heap.size + 2) 3 1 (.slice (some ⟨g2, 0, none⟩) (xs.length + 1) cap) (xs.length + 1) (xs.map (Value.int .i64) ++ [.int .i64 x])) :
    AoRel w (w4.setCell ⟨w.heap.size + 1, 1, none⟩ (.slice (some ⟨g2, 0, none⟩) (xs.length + 1) cap)) g bs p (some ⟨g2, 0, none⟩) cap (P, xs ++ [x]) := by
  have hs := h.fact.lt
  have hlow : ∀ b, b < w.heap.size + 2 → w4.heap[b]? = wr.heap[b]? := fun b hb => hgr.block b (by omega) (fun e => by have := (h.own.lt b e.symm).1; omega)
  have hlow2 : ∀ b, b < w.heap.size + 1 → (w4.setCell ⟨w.heap.size + 1, 1, none⟩ (.slice (some ⟨g2, 0, none⟩) (xs.length + 1) cap)).heap[b]? = wr.heap[b]? := fun b hb =>
    (Below.heap_setCell _ _ _ _ (by show b ≠ w.heap.size + 1; omega)).trans (hlow b (by omega))
  refine ⟨(hlow2 _ (by omega)).trans h.res, ?_, ?_, h.rdr.same fun k hk => hlow2 k (by omega), ⟨hgr.os.trans h.only.os, hgr.tape.trans h.only.tape, hgr.output.trans h.only.output, Nat.le_trans h.only.size (Nat.le_trans hgr.size (by simp)), fun k hk hn => (hlow2 k (by omega)).trans (h.only.block k hk hn)⟩⟩
  · have := (show Blk w4 (w.heap.size + 1) 33 _ from (hlow _ (by omega)).trans h.fact).set_ 1 (.slice (some ⟨g2, 0, none⟩) (xs.length + 1) cap)
    simpa using this
  · simpa using ownsRow_only hown (fun b hb => Below.heap_setCell _ _ _ _ (by have := (hown.lt b hb).1; show b ≠ w.heap.size + 1; omega))

theorem AoRel.keepFact {w wr w4 : World} {g : Nat} {bs : List Nat} {p : Nat} {A : Option Addr} {c : Nat} {f : LFact} (h : AoRel w wr g bs p A c f) (hgr : wr.grownBy w4 (Value.slice A f.2.length c).ownBlock) : Blk w4 (w.heap.size + 1) 33 #[.int .i64 f.1, .slice A f.2.length c] :=
  (hgr.block _ h.fact.lt (fun e => by have := (h.own.lt _ e.symm).1; omega)).trans h.fact

/-- A row of one or more begins at its block. -/
theorem AoRel.form {w W : World} {g : Nat} {bs : List Nat} {q : Nat} {A : Option Addr} {c : Nat} {f : LFact} (h : AoRel w W g bs q A c f) (hn : 0 < f.2.length) : ∃ g2, A = some ⟨g2, 0, none⟩ := by
  obtain ⟨g2, cap, e, _⟩ := h.own.form hn
  injection e with e1 _ _
  exact ⟨g2, e1⟩
theorem AoRel.head {w W : World} {g : Nat} {bs : List Nat} {q g2 c : Nat} {f : LFact} (h : AoRel w W g bs q (some ⟨g2, 0, none⟩) c f) (hn : 0 < f.2.length) : W.cell? ⟨g2, 0, none⟩ = some (.int .i64 (f.2[0]'hn)) ∧ W.frozen? ⟨g2, 0, none⟩ = false := by
  refine ⟨?_, h.own.frozenAt 0⟩
  rw [h.own.cellAt 0 (by omega)]
  simp [hn]
/-- The first place is set anew. -/
theorem AoRel.first {w W : World} {g : Nat} {bs : List Nat} {q g2 c : Nat} {f : LFact} (h : AoRel w W g bs q (some ⟨g2, 0, none⟩) c f) (hg : g < w.heap.size) (x : Int) :
    AoRel w (W.setCell ⟨g2, 0, none⟩ (.int .i64 x)) g bs q (some ⟨g2, 0, none⟩) c (f.1, f.2.set 0 x) := by
  have hb := (h.own.lt g2 rfl).1
  have hs := h.own.stored 0 (.int .i64 x)
  refine ⟨h.res.far (by show w.heap.size ≠ g2; omega) _, ?_, ?_, h.rdr.same fun k hk => Below.heap_setCell _ _ _ _ (by show k ≠ g2; omega),
    ⟨h.only.os, h.only.tape, h.only.output, by simpa using h.only.size, fun k hk hn => (Below.heap_setCell _ _ _ _ (by show k ≠ g2; omega)).trans (h.only.block k hk hn)⟩⟩
  · simpa using h.fact.far (p := ⟨g2, 0, none⟩) (by show w.heap.size + 1 ≠ g2; omega) (.int .i64 x)
  · have := hs.1
    rw [← List.map_set] at this
    simpa using this
/-- The result is laid. -/
theorem AoRel.done {w W : World} {g : Nat} {bs : List Nat} {q : Nat} {A : Option Addr} {c : Nat} {f : LFact} (h : AoRel w W g bs q A c f) (hg : g < w.heap.size) :
    ((W.setCell ⟨w.heap.size, 0, none⟩ (.int .i64 f.1)).setCell ⟨w.heap.size, 1, none⟩ (.slice A f.2.length c)).ownsRow (w.heap.size + 2) 3 1 (.slice A f.2.length c) f.2.length (f.2.map (Value.int .i64)) ∧
    Rdr ((W.setCell ⟨w.heap.size, 0, none⟩ (.int .i64 f.1)).setCell ⟨w.heap.size, 1, none⟩ (.slice A f.2.length c)) g bs q ∧
    Only g (g + 1) w ((W.setCell ⟨w.heap.size, 0, none⟩ (.int .i64 f.1)).setCell ⟨w.heap.size, 1, none⟩ (.slice A f.2.length c)) ∧
    Blk ((W.setCell ⟨w.heap.size, 0, none⟩ (.int .i64 f.1)).setCell ⟨w.heap.size, 1, none⟩ (.slice A f.2.length c)) w.heap.size 33 #[.int .i64 f.1, .slice A f.2.length c] := by
  have hb : ∀ k, k ≠ w.heap.size → ((W.setCell ⟨w.heap.size, 0, none⟩ (.int .i64 f.1)).setCell ⟨w.heap.size, 1, none⟩ (.slice A f.2.length c)).heap[k]? = W.heap[k]? := fun k hk =>
    (Below.heap_setCell _ _ _ _ (by show k ≠ w.heap.size; exact hk)).trans (Below.heap_setCell _ _ _ _ (by show k ≠ w.heap.size; exact hk))
  refine ⟨ownsRow_only h.own (fun b hb' => hb b (by have := (h.own.lt b hb').1; omega)), h.rdr.same fun k hk => hb k (by omega), ⟨h.only.os, h.only.tape, h.only.output, by simpa using h.only.size, fun k hk hn => (hb k (by omega)).trans (h.only.block k hk hn)⟩, ?_⟩
  have := (h.res.set_ 0 (.int .i64 f.1)).set_ 1 (.slice A f.2.length c)
  simpa using this


theorem AoRel.startAt {w : World} {g : Nat} {bs : List Nat} {p : Nat} (h : Rdr w g bs p) (x : Int) :
    AoRel w ((w.alloc (Obj.cells #[Value.int IntKind.i64 0, Value.slice none 0 0] 33)).alloc (Obj.cells #[Value.int IntKind.i64 x, Value.slice none 0 0] 33)) g bs p none 0 (x, []) :=
  ⟨(Blk.new w _ _).alloc _, by simpa using Blk.new (w.alloc (Obj.cells #[Value.int IntKind.i64 0, Value.slice none 0 0] 33)) 33 #[.int .i64 x, .slice none 0 0], World.ownsRow_nil _ _ _ _, h.below (below2 w _ _) h.lt, Only.of_below (below2 w _ _)⟩

set_option maxHeartbeats 4000000 in
set_option maxRecDepth 100000 in
theorem l2Draw_any (g : Nat) (bs : List Nat) (p lo hi j m n : Nat) (v : Value) (ar : List Int) (w : World) (h : Rdr w g bs p) (hp : p ≤ 1048576) (ha : OwnInts w lo hi v ar) (hg : g < lo) (hh : hi ≤ w.heap.size) (hj : j < ar.length) (hm : ar[j] = (m : Int)) (hm2 : m ≤ 2) (hl : ar.length ≤ 1048576) (hn : n ≤ 1048576) :
    Calls Tryz.prog 203 #[.pointer (some ⟨g, 0, none⟩), v, .int .i64 j, .int .i64 n] w fun e w' => ∃ (A : Option Addr) (c : Nat) (xs : List Int) (q : Nat), e = .returned (.agg #[.int .i64 j, .slice A xs.length c]) ∧ xs.length ≤ 2 ∧ q ≤ p + 6 ∧
      OwnInts w' w.heap.size w'.heap.size (.slice A xs.length c) xs ∧ Rdr w' g bs q ∧ Only g (g + 1) w w' := by
  obtain ⟨i0, hi0, hz0, hz1, hz2⟩ := info_parts Tryz.infoInt
  have hgl := h.lt
  have HOW := Lib.hid ha
  have HM := Lib.hid hm
  have HS := Lib.hid (AoRel.startAt h (j : Int))
  obtain ⟨A0, c0, hv0⟩ := ha.form
  subst hv0
  clear h ha hm
  go_enter Tryz.func203, Tryz.ntmps203
  go_wp2_with (fail)
  go_loopw [10] (fun i wr => ∃ (k : Nat) (A : Option Addr) (c : Nat) (xs : List Int) (q : Nat), k ≤ m ∧ i = .int .i64 k ∧ xs.length = k ∧ q ≤ p + 3 * k ∧ AoRel w wr g bs q A c ((j : Int), xs)) (fun i _ => m - (intOf i).toNat)
  case atStart => exact ⟨0, none, 0, [], p, Nat.zero_le _, rfl, rfl, by omega, HS.out⟩
  case round =>
    obtain ⟨k, A, c, xs, q, hk, rfl, hxl, hq, hfr⟩ := hrel
    have HXL := Lib.hid hxl
    have hxl2 : xs.length ≤ 2 := by omega
    have how := HOW.out.only hfr.only (.inr (by omega))
    obtain ⟨A', c', e0, hc', hcell⟩ := how.rd
    injection e0 with e1 e3 e2
    clear e3
    subst e1
    subst e2
    obtain ⟨b, o, rfl, hbB, hx⟩ := hcell (by omega)
    have k3 : wr.cell? ⟨b, o + j, none⟩ = some (.int .i64 (m : Int)) := by rw [hx j hj, HM.out]
    have HR := Lib.hid hfr
    clear hcell hx hfr how hxl
    by_cases hlt : k < m
    · go_wp2_with (fail)
      refine (pick_any g bs q 3 _ HR.out.rdr (by omega) (by omega)).mono ?_
      rintro e w1 ⟨⟨x1, rfl, _⟩, hp1⟩
      have H1 := Lib.hid (HR.out.pick hgl hp1)
      clear hp1
      by_cases hn0 : 0 < n
      · have hnb : decide ((0 : Int) < (n : Int)) = true := by simpa using hn0
        go_wp2_with (fail)
        refine (pick_any g bs (q + 1) 5 _ H1.out.rdr (by omega) (by omega)).mono ?_
        rintro e w2 ⟨⟨x2, rfl, _⟩, hp2⟩
        have H2 := Lib.hid (H1.out.pick hgl hp2)
        clear hp2
        by_cases hx2 : 0 < x2
        · have hxb : decide (0 < x2) = true := by simpa using hx2
          go_wp2_with (fail)
          refine (pick_any g bs (q + 1 + 1) n _ H2.out.rdr (by omega) (by omega)).mono ?_
          rintro e w3 ⟨⟨x3, rfl, hx3⟩, hp3⟩
          have hx3r : 0 ≤ x3 ∧ x3 < n := hx3.1 (by omega)
          obtain ⟨wS, rfl⟩ : ∃ wS, wS = w3 := ⟨_, rfl⟩
          have H3 := Lib.hid (H2.out.pick hgl hp3)
          have hw3 : IntKind.i64.wrap (-1 - x3) = -1 - x3 := by
            unfold IntKind.wrap
            simp [IntKind.bits, IntKind.signed] <;> omega
          clear hp3 hx3
          have a1 : wS.cell? ⟨w.heap.size + 1, 1, none⟩ = some (.slice A xs.length c) := H3.out.fact.cell 1
          go_wp2_with (at_builtin; refine wpList_append_lies _ rfl (.tmp 36) (.tmp 38) 31 rfl (w.heap.size + 2) 3 i0 (.int .i64 0) 1 8 Tryz.underlying31 hi0 hz0 hz1 hz2 rfl (by decide) (.slice A xs.length c) xs.length (xs.map (Value.int .i64)) rfl ?c1 ⟨wS.heap.size, 0, none⟩ 1 1 [.int .i64 (-1 - x3)] rfl rfl (cell_one_new _ _ _) ?c2 (by omega) (by unfold maxLen; omega) (by omega) ?c3 _ rfl ?_)
          case c1 => exact (H3.out.alloc _).own
          case c2 => intro u hu; simp at hu; subst hu; rfl
          case c3 => exact (H3.out.alloc _).fact.lt
          intro g2 cap w5 hown hgr _ _
          have HST := Lib.hid (AoRel.push (H3.out.alloc _) hgl hgr hown)
          have hkf := AoRel.keepFact (H3.out.alloc _) hgr
          have e1 : w5.cell? ⟨w.heap.size + 1, 1, none⟩ = some (.slice A xs.length c) := hkf.cell 1
          have e2 := hkf.frozen 1
          clear hkf hown hgr
          go_wp2_with (fail)
          go_roundw
          case rel => exact ⟨k + 1, _, _, xs ++ [(-1 - x3)], q + 1 + 1 + 1, by omega, by go_num, by simp; exact HXL.out, by omega, by simpa using HST.out⟩
          case measure => simp [intOf]; omega
        · have hxb : decide (0 < x2) = false := by simpa using hx2
          obtain ⟨wS, rfl⟩ : ∃ wS, wS = w2 := ⟨_, rfl⟩
          have a1 : wS.cell? ⟨w.heap.size + 1, 1, none⟩ = some (.slice A xs.length c) := H2.out.fact.cell 1
          go_wp2_with (at_builtin; refine wpList_append_lies _ rfl (.tmp 36) (.tmp 38) 31 rfl (w.heap.size + 2) 3 i0 (.int .i64 0) 1 8 Tryz.underlying31 hi0 hz0 hz1 hz2 rfl (by decide) (.slice A xs.length c) xs.length (xs.map (Value.int .i64)) rfl ?c1 ⟨wS.heap.size, 0, none⟩ 1 1 [.int .i64 x1] rfl rfl (cell_one_new _ _ _) ?c2 (by omega) (by unfold maxLen; omega) (by omega) ?c3 _ rfl ?_)
          case c1 => exact (H2.out.alloc _).own
          case c2 => intro u hu; simp at hu; subst hu; rfl
          case c3 => exact (H2.out.alloc _).fact.lt
          intro g2 cap w5 hown hgr _ _
          have HST := Lib.hid (AoRel.push (H2.out.alloc _) hgl hgr hown)
          have hkf := AoRel.keepFact (H2.out.alloc _) hgr
          have e1 : w5.cell? ⟨w.heap.size + 1, 1, none⟩ = some (.slice A xs.length c) := hkf.cell 1
          have e2 := hkf.frozen 1
          clear hkf hown hgr
          go_wp2_with (fail)
          go_roundw
          case rel => exact ⟨k + 1, _, _, xs ++ [x1], q + 1 + 1, by omega, by go_num, by simp; exact HXL.out, by omega, by simpa using HST.out⟩
          case measure => simp [intOf]; omega
      · have hnb : decide ((0 : Int) < (n : Int)) = false := by simpa using hn0
        obtain ⟨wS, rfl⟩ : ∃ wS, wS = w1 := ⟨_, rfl⟩
        have a1 : wS.cell? ⟨w.heap.size + 1, 1, none⟩ = some (.slice A xs.length c) := H1.out.fact.cell 1
        go_wp2_with (at_builtin; refine wpList_append_lies _ rfl (.tmp 36) (.tmp 38) 31 rfl (w.heap.size + 2) 3 i0 (.int .i64 0) 1 8 Tryz.underlying31 hi0 hz0 hz1 hz2 rfl (by decide) (.slice A xs.length c) xs.length (xs.map (Value.int .i64)) rfl ?c1 ⟨wS.heap.size, 0, none⟩ 1 1 [.int .i64 x1] rfl rfl (cell_one_new _ _ _) ?c2 (by omega) (by unfold maxLen; omega) (by omega) ?c3 _ rfl ?_)
        case c1 => exact (H1.out.alloc _).own
        case c2 => intro u hu; simp at hu; subst hu; rfl
        case c3 => exact (H1.out.alloc _).fact.lt
        intro g2 cap w5 hown hgr _ _
        have HST := Lib.hid (AoRel.push (H1.out.alloc _) hgl hgr hown)
        have hkf := AoRel.keepFact (H1.out.alloc _) hgr
        have e1 : w5.cell? ⟨w.heap.size + 1, 1, none⟩ = some (.slice A xs.length c) := hkf.cell 1
        have e2 := hkf.frozen 1
        clear hkf hown hgr
        go_wp2_with (fail)
        go_roundw
        case rel => exact ⟨k + 1, _, _, xs ++ [x1], q + 1, by omega, by go_num, by simp; exact HXL.out, by omega, by simpa using HST.out⟩
        case measure => simp [intOf]; omega
    · have hkn : xs.length = m := by have := HXL.out; omega
      have hf := HR.out
      have q0 : wr.cell? ⟨w.heap.size + 1, 0, none⟩ = some (.int .i64 (j : Int)) := hf.fact.cell 0
      have q1 : wr.cell? ⟨w.heap.size + 1, 1, none⟩ = some (.slice A xs.length c) := hf.fact.cell 1
      have j0 : wr.cell? ⟨w.heap.size, 0, none⟩ = some (.int .i64 0) := hf.res.cell 0
      have j1 : wr.cell? ⟨w.heap.size, 1, none⟩ = some (.slice none 0 0) := hf.res.cell 1
      have l0 := hf.res.frozen 0
      have l1 := hf.res.frozen 1
      obtain ⟨hd0, hd1, hd2, hd3⟩ := hf.done hgl
      have HD := Lib.hid (And.intro hd0 (And.intro hd1 hd2))
      obtain ⟨W, hW⟩ : ∃ W, W = (wr.setCell ⟨w.heap.size, 0, none⟩ (.int .i64 (j : Int))).setCell ⟨w.heap.size, 1, none⟩ (.slice A xs.length c) := ⟨_, rfl⟩
      have HD := Lib.hid (show W.ownsRow (w.heap.size + 2) 3 1 (.slice A xs.length c) xs.length (xs.map (Value.int .i64)) ∧ Rdr W g bs q ∧ Only g (g + 1) w W from by rw [hW]; exact HD.out)
      have d0 : W.cell? ⟨w.heap.size, 0, none⟩ = some (.int .i64 (j : Int)) := by rw [hW]; exact hd3.cell 0
      have d1 : W.cell? ⟨w.heap.size, 1, none⟩ = some (.slice A xs.length c) := by rw [hW]; exact hd3.cell 1
      have HW := Lib.hid hW
      clear hW hd0 hd1 hd2 hd3 hf hkn
      go_wp2_with (fail)
      rw [← HW.out]
      refine bodyPost_ret (v := .agg #[.int .i64 (j : Int), .slice A xs.length c]) (by simp [results, Tryz.results203, go_sem, d0, d1]) rfl ?_
      obtain ⟨h1, h2, h3⟩ := HD.out
      exact ⟨A, c, xs, rfl, hxl2, q, by omega, (show OwnInts _ _ _ _ _ from ⟨h1, fun b hb => (h1.lt b hb).2⟩).mono (Nat.le_add_right _ 2) (Nat.le_refl _), h2, h3⟩

end Go.Proofs.YtokmmloakahkhaaGreat
/-
  Words for facts (a number and a list of integers), and the walks of toAtom, eqAtom, szAtom.
-/
namespace Go.Proofs.YtokmmloakahkhaaGreat
open Go.RowKit

set_option maxHeartbeats 400000 in
theorem szAtom_any (v : Value) (f : LFact) (left : Int) (w : World) (h : RdFact w w.heap.size v f) (h0 : 0 ≤ left) (hl : left ≤ 1048576) (hn : f.2.length ≤ 9223372036854775807) :
    Calls Tryz.prog 113 #[v, .int .i64 left] w fun e w' => e = .returned (.int .i64 (szV left f.2.length)) ∧ Below w.heap.size w w' := by
  obtain ⟨a, rfl, A, c, rfl, hc, _⟩ := h
  have hcs := szV_cases left f.2.length
  go_enter Tryz.func113, Tryz.ntmps113
  go_wp2_with (fail)
  refine (szIntS_any _ _ _ _ _ h0 hl hn).mono ?_
  rintro e w1 ⟨rfl, rfl⟩
  rcases hcs with ⟨e1, _⟩ | ⟨e1, _⟩
  · rw [e1]
    have HV := Lib.hid e1
    clear e1
    go_wp2_with (fail)
    go_ret
    exact ⟨ret_int HV.out.symm, (Below.refl _ _).alloc (Nat.le_refl _) _⟩
  · have h1 : ¬ szV left f.2.length < 0 := by omega
    go_wp2_with (fail)
    go_ret
    exact ⟨rfl, (Below.refl _ _).alloc (Nat.le_refl _) _⟩

set_option maxHeartbeats 400000 in
theorem toAtom_any (v : Value) (f : LFact) (w : World) (h : RdFact w w.heap.size v f) (hn : f.2.length * 8 ≤ 140737488351232) :
    Calls Tryz.prog 117 #[v] w fun e w' => ∃ A' c', e = .returned (.agg #[.int .i64 f.1, .slice A' f.2.length c']) ∧ OwnInts w' w.heap.size w'.heap.size (.slice A' f.2.length c') f.2 ∧ Below w.heap.size w w' := by
  obtain ⟨a, rfl, h⟩ := h
  have H := Lib.hid h
  obtain ⟨A, c, rfl, hc, _⟩ := h
  go_enter Tryz.func117, Tryz.ntmps117
  go_wp2_with (fail)
  refine (toIntS_any _ f.2 _ (H.out.on (below3 _ _ _ _)) hn).mono ?_
  rintro e w4 ⟨A4, c4, rfl, ho, hb⟩
  have hB := bthen (below3 _ _ _ _) hb
  have b1 : Blk w4 (w.heap.size + 1) 33 #[.int .i64 0, .slice none 0 0] := ((by simpa using (Blk.new (w.alloc (Obj.cells #[Value.int IntKind.i64 f.fst, Value.slice A f.snd.length c] 99)) _ _).alloc _ : Blk _ _ _ _)).below hb (by simp)
  have b2 : Blk w4 (w.heap.size + 2) 33 #[.int .i64 f.1, .slice none 0 0] := ((by simpa using Blk.new ((w.alloc (Obj.cells #[Value.int IntKind.i64 f.fst, Value.slice A f.snd.length c] 99)).alloc (Obj.cells #[.int .i64 0, .slice none 0 0] 33)) _ _ : Blk _ _ _ _)).below hb (by simp)
  have b1c0 : w4.cell? ⟨w.heap.size + 1, 0, none⟩ = some (.int .i64 0) := b1.cell 0
  have b1c1 : w4.cell? ⟨w.heap.size + 1, 1, none⟩ = some (.slice none 0 0) := b1.cell 1
  have b2c0 : w4.cell? ⟨w.heap.size + 2, 0, none⟩ = some (.int .i64 f.1) := b2.cell 0
  have b2c1 : w4.cell? ⟨w.heap.size + 2, 1, none⟩ = some (.slice none 0 0) := b2.cell 1
  have b1f0 := b1.frozen 0
  have b1f1 := b1.frozen 1
  have b2f0 := b2.frozen 0
  have b2f1 := b2.frozen 1
  go_wp2_with (fail)
  refine bodyPost_ret (v := .agg #[.int .i64 f.1, .slice A4 f.2.length c4]) (by simp [results, Tryz.results117, go_sem, b1c0, b1c1]) rfl ⟨_, _, rfl, ?_, ?_⟩
  · exact (((ho.set (.inl (by simp)) _).set (.inl (by simp)) _).set (.inl (by simp)) _).mono (by simp; omega) (by simp)
  · exact ((hB.setCell (by simp <;> omega) _).setCell (by simp <;> omega) _).setCell (by simp <;> omega) _

set_option maxHeartbeats 400000 in
theorem eqAtom_any (v v2 : Value) (f g : LFact) (w : World) (h : RdFact w w.heap.size v f) (h2 : RdFact w w.heap.size v2 g) (hn : f.2.length * 8 ≤ 140737488351232) (hn2 : g.2.length * 8 ≤ 140737488351232) :
    Calls Tryz.prog 123 #[v, v2] w fun e w' => e = .returned (.bool (decide (f = g))) ∧ Below w.heap.size w w' := by
  obtain ⟨a, rfl, h⟩ := h
  have H := Lib.hid h
  obtain ⟨A, c, rfl, hc, _⟩ := h
  obtain ⟨a, rfl, h2⟩ := h2
  have H2 := Lib.hid h2
  obtain ⟨A2, c2, rfl, hc2, _⟩ := h2
  by_cases hp : f.1 = g.1
  · have hpb : (f.1 != g.1) = false := by simp [hp]
    have HE := Lib.hid (show decide (f = g) = decide (f.2 = g.2) by simp [Prod.ext_iff, hp])
    clear hp
    go_enter Tryz.func123, Tryz.ntmps123
    go_wp2_with (fail)
    refine (eqIntS_any _ _ f.2 g.2 _ (H.out.on (below2 _ _ _)) (H2.out.on (below2 _ _ _)) hn hn2).mono ?_
    rintro e w4 ⟨rfl, hb⟩
    have hB := bthen (below2 _ _ _) hb
    by_cases hd : f.2 = g.2
    · have hdb : decide (f.2 = g.2) = true := by simp [hd]
      have HD := Lib.hid hdb
      clear hd
      go_wp2_with (fail)
      go_ret
      exact ⟨ret_bool (by rw [HE.out, HD.out]), hB⟩
    · have hdb : decide (f.2 = g.2) = false := by simp [hd]
      have HD := Lib.hid hdb
      clear hd
      go_wp2_with (fail)
      go_ret
      exact ⟨ret_bool (by rw [HE.out, HD.out]), hB⟩
  · have hpb : (f.1 != g.1) = true := by simp [hp]
    have HE := Lib.hid (show decide (f = g) = false by simp [Prod.ext_iff, hp])
    clear hp
    go_enter Tryz.func123, Tryz.ntmps123
    go_wp2_with (fail)
    go_ret
    exact ⟨ret_bool HE.out.symm, below2 _ _ _⟩

end Go.Proofs.YtokmmloakahkhaaGreat
