/-
  Texts that the claim's last one imports, laid together: part 2 of 3. No condition of its own.
-/
import Derived.Deep.Quiet
import Derived.BigQuiet
import Derived.Shelf.SlSortCmp.WholeK
import Derived.Shelf.Spec.SlicesGrow
import Derived.Test.YtcoelmhlkfignaaChecked
import Derived.Lib.AppendZerosOnto
import Derived.Shelf.RegionOpenPlain
import Derived.Sort.Grow
import Derived.Laws.IdiomCopy
import Derived.Test.YtcoelmhlkfignaaMUs1
/-
  The walk of the specification's FactOrder.
-/
namespace Go.Proofs.Ytcoelmhlkfignaa
open Go.RowKit

set_option maxHeartbeats 1000000 in
set_option maxRecDepth 100000 in
theorem specFactOrder_any (v v2 : Value) (f g : LFact) (w : World) (h : RdFact w w.heap.size v f) (h2 : RdFact w w.heap.size v2 g) (hn : f.2.length ≤ 1048576) (hn2 : g.2.length ≤ 1048576) :
    Calls Try.prog 42 #[v, v2] w fun e w' => e = .returned (.int .i64 (factOrder f g)) ∧ Below w.heap.size w w' := by
  obtain ⟨p, xs⟩ := f
  obtain ⟨q, ys⟩ := g
  obtain ⟨a, rfl, A, c, rfl, hc, ha⟩ := h
  obtain ⟨a, rfl, A2, c2, rfl, hc2, hb⟩ := h2
  simp only at ha hb hn hn2 hc hc2
  by_cases hp : p = q
  · subst hp
    have hpb : (p != p) = false := by simp
    have HE := Lib.hid (show factOrder (p, xs) (p, ys) = cmpL xs ys by simp [factOrder])
    go_enter Try.func42, Try.ntmps42
    go_wp2_with (fail)
    obtain ⟨w1, hw1⟩ : ∃ w1, w1 = ((w.alloc (Obj.cells #[Value.int IntKind.i64 p, Value.slice A xs.length c] 44)).alloc (Obj.cells #[Value.int IntKind.i64 p, Value.slice A2 ys.length c2] 44)) := ⟨_, rfl⟩
    have B1 : Below w.heap.size w w1 := by rw [hw1]; exact below2 _ _ _
    have k0 : Blk w1 w.heap.size 44 #[.int .i64 p, .slice A xs.length c] := by rw [hw1]; exact (Blk.new w _ _).alloc _
    have k1 : Blk w1 (w.heap.size + 1) 44 #[.int .i64 p, .slice A2 ys.length c2] := by rw [hw1]; simpa using Blk.new (w.alloc (Obj.cells #[Value.int IntKind.i64 p, Value.slice A xs.length c] 44)) 44 #[.int .i64 p, .slice A2 ys.length c2]
    rw [← hw1]
    clear hw1
    go_loopw [5] (fun i wr => ∃ k : Nat, k ≤ xs.length ∧ k ≤ ys.length ∧ i = .int .i64 k ∧ CmpTo xs ys k ∧ Below w1.heap.size w1 wr) (fun i _ => xs.length - (intOf i).toNat)
    case atStart => exact ⟨0, Nat.zero_le _, Nat.zero_le _, rfl, rfl, Below.refl _ _⟩
    case round =>
      obtain ⟨k, hk, hk2, rfl, hs, hbe⟩ := hrel
      have c0 : wr.cell? ⟨w.heap.size, 1, none⟩ = some (.slice A xs.length c) := (k0.below hbe k0.lt).cell 1
      have c1 : wr.cell? ⟨w.heap.size + 1, 1, none⟩ = some (.slice A2 ys.length c2) := (k1.below hbe k1.lt).cell 1
      by_cases hlt : k < xs.length
      · have hd : decide ((k : Int) < (xs.length : Int)) = true := by simp; omega
        by_cases hlt2 : k < ys.length
        · obtain ⟨b, o, rfl, hbB, hx⟩ := ha (by omega)
          obtain ⟨b2, o2, rfl, hbB2, hx2⟩ := hb (by omega)
          have hB := bthen B1 hbe
          have hck : wr.cell? ⟨b, o + k, none⟩ = some (.int .i64 xs[k]) := (hB.cell (p := ⟨b, o + k, none⟩) hbB).trans (hx k hlt)
          have hck2 : wr.cell? ⟨b2, o2 + k, none⟩ = some (.int .i64 ys[k]) := (hB.cell (p := ⟨b2, o2 + k, none⟩) hbB2).trans (hx2 k hlt2)
          clear hx hx2 ha hb hB
          by_cases he : xs[k] = ys[k]
          · have HS := Lib.hid (show CmpTo xs ys (k + 1) by unfold CmpTo at hs ⊢; rw [hs, cmpL_at hlt hlt2, if_pos he])
            have h0 : (xs[k] != ys[k]) = false := by simp [he]
            clear he hs
            go_wp2_with (fail)
            go_quiet (fail)
            go_wp2_with (fail)
            go_roundw
            case rel => exact ⟨k + 1, by omega, by omega, by go_num, HS.out, bdrewN hbe _⟩
            case measure => simp [intOf]; omega
          · have HS := Lib.hid (show cmpL xs ys = cmpI xs[k] ys[k] by unfold CmpTo at hs; rw [hs, cmpL_at hlt hlt2, if_neg he])
            have h0 : (xs[k] != ys[k]) = true := by simp [he]
            clear he hs
            go_wp2_with (fail)
            go_quiet (fail)
            go_wp2_with (fail)
            go_quiet ((go_at_call 49; exact quiet_add_left (l1Way_any _ _ _)))
            go_wp2_with (fail)
            go_ret
            exact ⟨ret_int (by rw [HE.out, HS.out]), bthen B1 (bdrewN (bdrewN hbe _) _)⟩
        · have HS := Lib.hid (show cmpL xs ys = cmpI xs.length ys.length by
            unfold CmpTo at hs
            rw [hs, cmpL_long hlt (by omega), cmpI, if_neg (by omega), if_pos (by omega)])
          clear hs ha hb
          go_wp2_with (go_at_call 49; refine (l1Way_any _ _ _).mono ?_; rintro e w' ⟨rfl, rfl⟩)
          go_ret
          exact ⟨ret_int (by rw [HE.out, HS.out]), bthen B1 hbe⟩
      · have hd : decide ((k : Int) < (xs.length : Int)) = false := by simp; omega
        have HS := Lib.hid (show cmpL xs ys = cmpI xs.length ys.length by
          unfold CmpTo at hs
          by_cases h3 : xs.length < ys.length
          · rw [hs, cmpL_short (by omega) (by omega), cmpI, if_pos (by omega)]
          · rw [hs, cmpL_end (by omega) (by omega), cmpI, if_neg (by omega), if_neg (by omega)])
        clear hs ha hb
        go_wp2_with (go_at_call 49; refine (l1Way_any _ _ _).mono ?_; rintro e w' ⟨rfl, rfl⟩)
        go_ret
        exact ⟨ret_int (by rw [HE.out, HS.out]), bthen B1 hbe⟩
  · have hpb : (p != q) = true := by simp [hp]
    have HE := Lib.hid (show factOrder (p, xs) (q, ys) = cmpI p q by simp [factOrder, hp])
    clear hp ha hb
    go_enter Try.func42, Try.ntmps42
    go_wp2_with (go_at_call 49; refine (l1Way_any _ _ _).mono ?_; rintro e w' ⟨rfl, rfl⟩)
    go_ret
    exact ⟨ret_int HE.out.symm, below2 _ _ _⟩

end Go.Proofs.Ytcoelmhlkfignaa
/-
  The walks of FactsHas: the program's and the specification's.
-/
namespace Go.Proofs.Ytcoelmhlkfignaa
open Go.RowKit

/-- One fact of a list, as a walk reads it. -/
theorem RdFacts.get {w : World} {B c : Nat} {A : Option Addr} {fs : List LFact} (h : RdFacts w B (.slice A fs.length c) fs) {k : Nat} (hk : k < fs.length) : ∃ b o A3 c3, A = some ⟨b, o, none⟩ ∧ b < B ∧
    w.cell? ⟨b, o + k * 2, none⟩ = some (.int .i64 fs[k].1) ∧ w.cell? ⟨b, o + k * 2 + 1, none⟩ = some (.slice A3 fs[k].2.length c3) ∧ RdInts w B (.slice A3 fs[k].2.length c3) fs[k].2 := by
  obtain ⟨A', c', e, hc, h⟩ := h
  injection e with e1 e2 e3
  subst e1
  obtain ⟨b, o, rfl, hb, hx⟩ := h (by omega)
  obtain ⟨a, h1, h2, h3⟩ := hx k hk
  have h4 := h3
  obtain ⟨A3, c3, rfl, _⟩ := h3
  exact ⟨b, o, A3, c3, rfl, hb, h1, h2, h4⟩

def factsHas (fs : List LFact) (f : LFact) : Bool := fs.any fun g => factOrder g f == 0
/-- 'none of the first k is the same'. -/
def HasNot (fs : List LFact) (f : LFact) (k : Nat) : Prop := factsHas (fs.take k) f = false
theorem HasNot.step {fs : List LFact} {f : LFact} {k : Nat} (h : HasNot fs f k) (hk : k < fs.length) (e : factOrder fs[k] f ≠ 0) : HasNot fs f (k + 1) := by
  unfold HasNot factsHas at h ⊢
  rw [take_snoc fs k hk, List.any_append, h]
  simp [e]
theorem HasNot.done {fs : List LFact} {f : LFact} (h : HasNot fs f fs.length) : factsHas fs f = false := by
  unfold HasNot at h
  rwa [List.take_length] at h
theorem has_yes {fs : List LFact} {f : LFact} {k : Nat} (hk : k < fs.length) (e : factOrder fs[k] f = 0) : factsHas fs f = true := by
  unfold factsHas
  rw [List.any_eq_true]
  exact ⟨fs[k], List.getElem_mem hk, by simp [e]⟩

end Go.Proofs.Ytcoelmhlkfignaa
/-
  Marks on lists of facts: the words, and the walks of markFactS, markFact, heldFactS.
-/
namespace Go.Proofs.Ytcoelmhlkfignaa
open Go.RowKit

/-- The facts that marks from k on leave. -/
def markF : Int → List LFact → List LFact
  | _, [] => []
  | k, f :: fs => (k, seqI (k + 1) f.2.length) :: markF (k + 1 + (f.2.length : Int)) fs
/-- The mark behind the last one. -/
def endF (k : Int) (fs : List LFact) : Int := k + (fs.length : Int) + (tot fs : Int)

theorem tot_cons (f : LFact) (fs : List LFact) : tot (f :: fs) = f.2.length + tot fs := by simp [tot]
theorem tot_append (xs ys : List LFact) : tot (xs ++ ys) = tot xs + tot ys := by simp [tot]
theorem markF_length : ∀ (k : Int) (fs : List LFact), (markF k fs).length = fs.length
  | _, [] => rfl
  | k, f :: fs => by simp [markF, markF_length _ fs]
theorem markF_tot : ∀ (k : Int) (fs : List LFact), tot (markF k fs) = tot fs
  | _, [] => rfl
  | k, f :: fs => by simp [markF, tot_cons, seqI_length, markF_tot _ fs]
theorem markF_snoc : ∀ (k : Int) (fs : List LFact) (f : LFact), markF k (fs ++ [f]) = markF k fs ++ [(endF k fs, seqI (endF k fs + 1) f.2.length)]
  | k, [], f => by simp [markF, endF, tot]
  | k, g :: fs, f => by
    have h := markF_snoc (k + 1 + (g.2.length : Int)) fs f
    have e : endF (k + 1 + (g.2.length : Int)) fs = endF k (g :: fs) := by simp [endF, tot_cons]; omega
    rw [e] at h
    simp [markF, h]
def markedF (fs : List LFact) (k : Int) (j : Nat) : List LFact := markF k (fs.take j) ++ fs.drop j
theorem markedF_length {fs : List LFact} {k : Int} {j : Nat} (h : j ≤ fs.length) : (markedF fs k j).length = fs.length := by simp [markedF, markF_length]; omega
theorem markedF_at {fs : List LFact} {k : Int} {j : Nat} (h : j < fs.length) (h' : j < (markedF fs k j).length) : (markedF fs k j)[j] = fs[j] := by
  have hl : (markF k (fs.take j)).length = j := by rw [markF_length]; simp; omega
  have e : (markedF fs k j)[j]? = some fs[j] := by
    unfold markedF
    rw [List.getElem?_append_right (by omega), hl]
    simp [h]
  rw [List.getElem?_eq_getElem h'] at e
  exact Option.some.inj e
theorem markedF_step {fs : List LFact} {k : Int} {j : Nat} (h : j < fs.length) : (markedF fs k j).set j (endF k (fs.take j), seqI (endF k (fs.take j) + 1) fs[j].2.length) = markedF fs k (j + 1) := by
  have hl : (markF k (fs.take j)).length = j := by rw [markF_length]; simp; omega
  unfold markedF
  rw [List.drop_eq_getElem_cons h, List.set_append_right _ _ (by omega), hl, Nat.sub_self, List.set_cons_zero, take_snoc fs j h, markF_snoc]
  simp
theorem markedF_zero (fs : List LFact) (k : Int) : markedF fs k 0 = fs := by simp [markedF, markF]
theorem markedF_all (fs : List LFact) (k : Int) : markedF fs k fs.length = markF k fs := by simp [markedF]
theorem markF_at {fs : List LFact} {k : Int} {j : Nat} (h : j < fs.length) (h' : j < (markF k fs).length) : (markF k fs)[j] = (endF k (fs.take j), seqI (endF k (fs.take j) + 1) fs[j].2.length) := by
  have e : fs = fs.take (j + 1) ++ fs.drop (j + 1) := (List.take_append_drop _ _).symm
  have hl : (markF k (fs.take j)).length = j := by rw [markF_length]; simp; omega
  have hp : ∀ (xs ys : List LFact) (k : Int), ∃ zs, markF k (xs ++ ys) = markF k xs ++ zs := by
    intro xs
    induction xs with
    | nil => intro ys k; exact ⟨_, rfl⟩
    | cons x xs ih =>
      intro ys k
      obtain ⟨zs, hz⟩ := ih ys (k + 1 + (x.2.length : Int))
      exact ⟨zs, by simp [markF, hz]⟩
  obtain ⟨zs, hz⟩ := hp (fs.take (j + 1)) (fs.drop (j + 1)) k
  rw [← e, take_snoc fs j h, markF_snoc] at hz
  have : (markF k fs)[j]? = some (endF k (fs.take j), seqI (endF k (fs.take j) + 1) fs[j].2.length) := by
    rw [hz, List.append_assoc, List.getElem?_append_right (by omega), hl]
    simp
  rw [List.getElem?_eq_getElem h'] at this
  exact Option.some.inj this
theorem endF_zero (k : Int) (fs : List LFact) : endF k (fs.take 0) = k := by simp [endF, tot]
theorem endF_step {fs : List LFact} {k : Int} {j : Nat} (h : j < fs.length) : endF k (fs.take (j + 1)) = endF k (fs.take j) + 1 + (fs[j].2.length : Int) := by
  have := tot_take fs j h
  simp only [endF, List.length_take, this]
  omega
theorem tot_take_le (fs : List LFact) (j : Nat) : tot (fs.take j) ≤ tot fs := by
  have := tot_append (fs.take j) (fs.drop j)
  rw [List.take_append_drop] at this
  omega

/-- A row of facts of the call's own, its rows of integers named. -/
structure OwnFA (w : World) (lo hi : Nat) (v : Value) (fs : List LFact) (av : List Value) : Prop where
  args : OwnArgs w lo hi av (fs.map (·.2))
  row : w.ownsRow lo 44 2 v fs.length (flat fs av)
  lt : ∀ g, v.ownBlock = some g → g < hi
theorem OwnFA.own {w : World} {lo hi : Nat} {v : Value} {fs : List LFact} {av : List Value} (h : OwnFA w lo hi v fs av) : OwnFacts w lo hi v fs := ⟨av, h.args, h.row, h.lt⟩

theorem flat_set : ∀ (fs : List LFact) (av : List Value) (j : Nat) (f : LFact), av.length = fs.length → flat (fs.set j f) av = (flat fs av).set (j * 2) (.int .i64 f.1)
  | [], [], _, _, _ => rfl
  | [], a :: av, _, _, h => by simp at h
  | g :: fs, [], _, _, h => by simp at h
  | g :: fs, a :: av, 0, f, _ => by simp [flat]
  | g :: fs, a :: av, j + 1, f, h => by
    have := flat_set fs av j f (by simpa using h)
    simp [flat, Nat.add_mul, this]

/-- The block of a row of integers is no block of a row of facts. -/
theorem types_ne {w : World} {lo hi lo' g : Nat} {n : Nat} {v a : Value} {zs : List Value} {xs : List Int} (hr : w.ownsRow lo' 44 2 v n zs) (hv : v.ownBlock = some g) (ha : OwnInts w lo hi a xs) : a.ownBlock ≠ some g := by
  rcases hr.2 with ⟨rfl, _⟩ | ⟨g1, c1, cur1, rfl, _, h1, _⟩
  · cases hv
  · have e : g1 = g := by simpa [Value.ownBlock] using hv
    subst e
    rcases ha.1.2 with ⟨rfl, _⟩ | ⟨g2, c2, cur2, rfl, _, h2, _⟩
    · simp [Value.ownBlock]
    · intro e
      have e : g2 = g1 := by simpa [Value.ownBlock] using e
      subst e
      rw [h1] at h2
      injection h2 with h2
      injection h2 with _ h2
      exact absurd h2 (by decide)

theorem OwnFA.step {w w3 : World} {lo hi g j c : Nat} {fs : List LFact} {av : List Value} {p : Int} {ys : List Int} (h : OwnFA w lo hi (.slice (some ⟨g, 0, none⟩) fs.length c) fs av) (hj : j < fs.length) (hja : j < av.length)
    (hI : OwnInts w3 lo hi av[j] ys) (hg : (w.setCell ⟨g, j * 2, none⟩ (.int .i64 p)).grownBy w3 av[j].ownBlock) : OwnFA w3 lo hi (.slice (some ⟨g, 0, none⟩) fs.length c) (fs.set j (p, ys)) av := by
  obtain ⟨ha, hr, hlt⟩ := h
  have hlen : av.length = fs.length := by simpa using ha.len
  have hapart : ∀ i i' (hi' : i < av.length) (hi'' : i' < av.length), i ≠ i' → ∀ b, av[i].ownBlock = some b → av[i'].ownBlock ≠ some b := by
    intro i i' h1 h2 hne b hb hb'
    have hp := List.pairwise_iff_getElem.1 ha.apart
    rcases Nat.lt_or_gt_of_ne hne with hl | hl
    · exact hp i i' h1 h2 hl b hb hb'
    · exact hp i' i h2 h1 hl b hb' hb
  have hown : ∀ i (h1 : i < (fs.map (·.2)).length) (h2 : i < av.length), OwnInts w lo hi av[i] (fs.map (·.2))[i] := ha.own
  refine ⟨⟨by simp [hlen], fun i h1 h2 => ?_, ha.apart⟩, ?_, hlt⟩
  · by_cases e : i = j
    · subst e
      simpa using hI
    · have h0 := hown i (by simpa using h1) h2
      have hz : ((fs.set j (p, ys)).map (·.2))[i] = (fs.map (·.2))[i]'(by simpa using h1) := by
        simp [Ne.symm e]
      rw [hz]
      refine h0.kept fun b hb => ?_
      have hbg := types_ne hr rfl h0
      have hne : b ≠ g := fun e => hbg (by rw [hb, e])
      have hbl := h0.lt hb
      rw [hg.block b (by simpa using hbl.2.2) (fun e2 => hapart i j h2 hja e b hb e2.symm)]
      exact Below.heap_setCell _ _ _ _ hne
  · obtain ⟨hfl, hr2⟩ := hr
    have hgj := types_ne ⟨hfl, hr2⟩ rfl (hown j (by simpa using hj) hja)
    rcases hr2 with ⟨e, _⟩ | ⟨g', cap, cur, e, hbg, hgg, hn, hm, hs, ht⟩
    · cases e
    · injection e with e1 e2 e3
      injection e1 with e1
      injection e1 with e1 _ _
      subst e1
      subst e3
      have hgs := (Array.getElem?_eq_some_iff.1 hgg).1
      refine ⟨by rw [flat_set _ _ _ _ hlen]; simpa using hfl, .inr ⟨g, c, cur.setIfInBounds (j * 2) (.int .i64 p), by simp, hbg, ?_, by simpa using hn, hm, by simpa using hs, ?_⟩⟩
      · rw [hg.block g (by simpa using hgs) (fun e2 => hgj e2.symm)]
        simp [World.setCell, Array.getElem?_modify, hgg]
      · rw [flat_set _ _ _ _ hlen, List.length_set, Array.toList_setIfInBounds, List.take_set, ht]

theorem OwnFA.form {w : World} {lo hi : Nat} {v : Value} {fs : List LFact} {av : List Value} (h : OwnFA w lo hi v fs av) : ∃ A c, v = .slice A fs.length c ∧ (0 < fs.length → ∃ g, A = some ⟨g, 0, none⟩ ∧ lo ≤ g ∧ g < hi) := by
  rcases h.row.2 with ⟨rfl, h0⟩ | ⟨g, cap, _, rfl, hb, _⟩
  · exact ⟨none, 0, by rw [h0], fun hn => by omega⟩
  · exact ⟨_, _, rfl, fun _ => ⟨g, rfl, hb, h.lt g rfl⟩⟩
theorem OwnFacts.form {w : World} {lo hi : Nat} {v : Value} {fs : List LFact} (h : OwnFacts w lo hi v fs) : ∃ A c, v = .slice A fs.length c := by
  obtain ⟨av, h1, h2, h3⟩ := h
  obtain ⟨A, c, e, _⟩ := (OwnFA.mk h1 h2 h3).form
  exact ⟨A, c, e⟩
/-- What the walk reads of fact j. -/
theorem OwnFA.get {w : World} {lo hi g c j : Nat} {fs : List LFact} {av : List Value} (h : OwnFA w lo hi (.slice (some ⟨g, 0, none⟩) fs.length c) fs av) (hj : j < fs.length) (hja : j < av.length) :
    w.cell? ⟨g, j * 2, none⟩ = some (.int .i64 fs[j].1) ∧ w.frozen? ⟨g, j * 2, none⟩ = false ∧ w.cell? ⟨g, j * 2 + 1, none⟩ = some av[j] := by
  have hl : av.length = fs.length := by simpa using h.args.len
  have hcells := @World.ownsRow.cells w lo 44 2 _ fs.length (flat fs av) h.row g rfl
  have h1 := hcells _ _ (flat_at fs av hl j hj hja).1
  have h2 := hcells _ _ (flat_at fs av hl j hj hja).2
  rw [Go.WideShapes.add_plain, Nat.zero_add] at h1 h2
  refine ⟨h1, ?_, h2⟩
  rcases h.row.2 with ⟨e, _⟩ | ⟨g', cap, cur, e, _, hgg, _⟩
  · cases e
  · injection e with e1 _ _
    injection e1 with e1
    injection e1 with e1 _ _
    subst e1
    simp [World.frozen?, hgg]

set_option maxHeartbeats 1000000 in
set_option maxRecDepth 100000 in
theorem markFactS_any (v : Value) (fs : List LFact) (k : Int) (lo hi : Nat) (w : World) (h : OwnFacts w lo hi v fs) (hk0 : 0 ≤ k) (hk : k ≤ 4294967296) (hn : fs.length ≤ 1073741824) (ht : tot fs ≤ 1073741824) :
    Calls Try.prog 15 #[v, .int .i64 k] w fun e w' => e = .returned (.int .i64 (endF k fs)) ∧ OwnFacts w' lo hi v (markF k fs) ∧ Only lo hi w w' := by
  obtain ⟨av, h1, h2, h3⟩ := h
  have h : OwnFA w lo hi v fs av := ⟨h1, h2, h3⟩
  clear h1 h2 h3
  obtain ⟨A, c, hv, hform⟩ := h.form
  subst hv
  have hla : av.length = fs.length := by simpa using h.args.len
  have HLA := Lib.hid hla
  clear hla
  have H := Lib.hid h
  clear h
  go_enter Try.func15, Try.ntmps15
  go_wp2_with (fail)
  go_loopw [1, 5] (fun m i wr => ∃ (j : Nat) (q : Int), j ≤ fs.length ∧ i = .int .i64 j ∧ m = .int .i64 q ∧ q = endF k (fs.take j) ∧ OwnFA wr lo hi (.slice A fs.length c) (markedF fs k j) av ∧ Only lo hi w wr) (fun _ i _ => fs.length - (intOf i).toNat)
  case atStart => exact ⟨0, k, Nat.zero_le _, rfl, rfl, by rw [endF_zero], by rw [markedF_zero]; exact H.out, Only.refl _ _ _⟩
  case round =>
    obtain ⟨j, q, hj, rfl, rfl, hq, ho, hon⟩ := hrel
    by_cases hlt : j < fs.length
    · obtain ⟨g, rfl, hg1, hg2⟩ := hform (by omega)
      have hml := markedF_length (k := k) (Nat.le_of_lt hlt)
      have hja : j < av.length := by rw [HLA.out]; exact hlt
      have ho' : OwnFA wr lo hi (.slice (some ⟨g, 0, none⟩) (markedF fs k j).length c) (markedF fs k j) av := by rw [hml]; exact ho
      obtain ⟨c1, f1, c2⟩ := ho'.get (j := j) (by omega) hja
      have hI0 := ho.args.own j (by rw [List.length_map]; omega) hja
      have hat := markedF_at (k := k) hlt (by omega)
      rw [List.getElem_map, hat] at hI0
      rw [hat] at c1
      obtain ⟨A3, c3, hav⟩ := hI0.form
      rw [hav] at c2
      have hI1 := hI0.kept (w' := wr.setCell ⟨g, j * 2, none⟩ (.int .i64 q)) (fun b hb => Below.heap_setCell _ _ _ _ (fun e => types_ne ho'.row rfl hI0 (by rw [hb, e])))
      rw [hav] at hI1
      have hqb : 0 ≤ q ∧ q ≤ 8589934592 := by
        have h1 := tot_take_le fs j
        have h2 : (fs.take j).length ≤ fs.length := by rw [List.length_take]; omega
        subst hq
        simp only [endF] at *
        omega
      obtain ⟨hq0, hq1⟩ := hqb
      have hln := len_le_tot fs j hlt
      have HI := Lib.hid hI1
      have HO := Lib.hid (And.intro ho' (And.intro hml (And.intro hav hq)))
      clear hI0 hI1 ho ho' hml hat hq
      go_wp2_with (fail)
      refine (markIntS_any _ fs[j].2 (q + 1) lo hi _ HI.out (by omega) (by omega)).mono ?_
      rintro e w3 ⟨rfl, ho3, hg3⟩
      obtain ⟨hOF, hml, hav, hq⟩ := HO.out
      have hst := hOF.step (j := j) (by omega) hja (by rw [hav]; exact ho3) (by rw [hav]; exact hg3)
      rw [hml, hq, markedF_step hlt] at hst
      have hE := endF_step (k := k) hlt
      have hon3 : Only lo hi w w3 := (hon.setCell (p := ⟨g, j * 2, none⟩) ⟨hg1, hg2⟩ _).trans (Only.of_grown hg3 (fun b hb => by have := HI.out.lt hb; omega))
      have HS := Lib.hid (And.intro hst (show q + 1 + (fs[j].2.length : Int) = endF k (fs.take (j + 1)) by rw [hE, hq]))
      clear hst hOF hml hav hq hE
      go_wp2_with (fail)
      go_roundw
      case rel => exact ⟨j + 1, _, by omega, by go_num, rfl, HS.out.2, HS.out.1, hon3⟩
      case measure => simp [intOf]; omega
    · have hkn : j = fs.length := by omega
      have HO := Lib.hid (show OwnFacts wr lo hi (.slice A fs.length c) (markF k fs) by rw [← markedF_all, ← hkn]; rw [← hkn] at ho; exact ho.own)
      have HK := Lib.hid (show q = endF k fs by rw [hq, hkn, List.take_length])
      clear hkn ho hq
      go_wp2_with (fail)
      go_ret
      exact ⟨ret_int HK.out, HO.out, hon⟩

theorem endF_bound {fs : List LFact} {k : Int} (j : Nat) (hk0 : 0 ≤ k) (hk : k ≤ 4294967296) (hn : fs.length ≤ 1073741824) (ht : tot fs ≤ 1073741824) : 0 ≤ endF k (fs.take j) ∧ endF k (fs.take j) ≤ 8589934592 := by
  have h1 := tot_take_le fs j
  have h2 : (fs.take j).length ≤ fs.length := by rw [List.length_take]; omega
  simp only [endF]
  omega

set_option maxHeartbeats 1000000 in
set_option maxRecDepth 100000 in
theorem heldFactS_any (v : Value) (fs : List LFact) (k : Int) (w : World) (h : RdFacts w w.heap.size v (markF k fs)) (hk0 : 0 ≤ k) (hk : k ≤ 4294967296) (hn : fs.length ≤ 1073741824) (ht : tot fs ≤ 1073741824) :
    Calls Try.prog 16 #[v, .int .i64 k] w fun e w' => e = .returned (.int .i64 (endF k fs)) ∧ w = w' := by
  obtain ⟨A, c, rfl, hc, hcell⟩ := h
  rw [markF_length] at hc ⊢
  go_enter Try.func16, Try.ntmps16
  go_wp2_with (fail)
  go_loop [1, 5] (fun m i => ∃ (j : Nat) (q : Int), j ≤ fs.length ∧ i = .int .i64 j ∧ m = .int .i64 q ∧ q = endF k (fs.take j)) (fun _ i => fs.length - (intOf i).toNat)
  case atStart => exact ⟨0, k, Nat.zero_le _, rfl, rfl, by rw [endF_zero]⟩
  case round =>
    obtain ⟨j, q, hj, rfl, rfl, hq⟩ := hrel
    by_cases hlt : j < fs.length
    · obtain ⟨b, o, rfl, hbB, hx⟩ := hcell (by rw [markF_length]; omega)
      have hlm : j < (markF k fs).length := by rw [markF_length]; exact hlt
      obtain ⟨a, p1, p2, p3⟩ := hx j hlm
      rw [markF_at hlt hlm, ← hq] at p1 p3
      have h4 := p3
      obtain ⟨A3, c3, rfl, hc3, _⟩ := p3
      have h5 := (h4.more (Nat.le_refl _) : RdInts w w.heap.size _ (seqI (q + 1) fs[j].2.length))
      rw [seqI_length] at h5 p2
      have HR := Lib.hid h5
      have hqq := endF_bound (k := k) j hk0 hk hn ht
      rw [← hq] at hqq
      obtain ⟨hq0, hq1⟩ := hqq
      have hln := len_le_tot fs j hlt
      have hne : (q != q) = false := by simp
      have HE := Lib.hid (show q + 1 + (fs[j].2.length : Int) = endF k (fs.take (j + 1)) by rw [endF_step hlt, hq])
      clear hx hcell h4 h5 hq hc3 hlm
      go_wp2_with (fail)
      refine (heldIntS_any _ fs[j].2.length (q + 1) _ HR.out (by omega) (by omega)).mono ?_
      rintro e w3 ⟨rfl, rfl⟩
      have hneg : ¬ q + 1 + (fs[j].2.length : Int) < 0 := by omega
      go_wp2_with (fail)
      go_round
      case rel => exact ⟨j + 1, _, by omega, by go_num, rfl, HE.out⟩
      case measure => simp [intOf]; omega
    · have hkn : j = fs.length := by omega
      have HK := Lib.hid (show q = endF k fs by rw [hq, hkn, List.take_length])
      clear hkn hq hcell
      go_wp2_with (fail)
      go_ret
      exact ⟨ret_int HK.out, rfl⟩

end Go.Proofs.Ytcoelmhlkfignaa
/-
  The relation of a loop that collects facts.
-/
namespace Go.Proofs.Ytcoelmhlkfignaa
open Go.RowKit

/-- One fact more, behind append. -/
theorem OwnFA.push {wr w2 w4 : World} {lo hi : Nat} {v v' a : Value} {gs : List LFact} {av : List Value} {f : LFact} {o : Obj} (h : OwnFA wr lo hi v gs av) (hhi : hi ≤ wr.heap.size) (hlo : lo ≤ hi) (hb : Below wr.heap.size wr w2)
    (ha : OwnInts w2 wr.heap.size w2.heap.size a f.2) (hg : (w2.alloc o).grownBy w4 v.ownBlock) (hown : w4.ownsRow lo 44 2 v' (gs.length + 1) (flat gs av ++ [.int .i64 f.1, a])) : OwnFacts w4 lo w4.heap.size v' (gs ++ [f]) := by
  have hg' := grown_from_alloc hg
  have hlen : av.length = gs.length := by simpa using h.args.len
  have hrow2 := ownsRow_below h.row h.lt hb hhi
  have hargs2 : OwnArgs w2 lo w2.heap.size (av ++ [a]) (gs.map (·.2) ++ [f.2]) := ((h.args.below hb hhi).mono (Nat.le_refl _) hhi).snoc ha (by omega) hb.size
  refine ⟨av ++ [a], ⟨by simp [hlen], fun i h1 h2 => ?_, hargs2.apart⟩, ?_, fun g hg2 => (hown.lt g hg2).2⟩
  · have h0 := hargs2.own i (by simpa using h1) h2
    have hz : ((gs ++ [f]).map (·.2))[i] = (gs.map (·.2) ++ [f.2])[i]'(by simpa using h1) := by simp
    rw [hz]
    refine (h0.kept fun b hbk => hg'.block b (h0.lt hbk).2.2 (fun e => types_ne hrow2 e.symm h0 hbk)).mono (Nat.le_refl _) ?_
    exact hg'.size
  · rw [flat_snoc _ _ hlen, List.length_append, List.length_singleton]
    exact hown

/-- The relation of a loop that collects facts. -/
structure ColRel (w wr : World) (gs : List LFact) (A : Option Addr) (c : Nat) (av : List Value) : Prop where
  below : Below w.heap.size w wr
  own : OwnFA wr w.heap.size wr.heap.size (.slice A gs.length c) gs av

theorem ColRel.nil (w : World) : ColRel w w [] none 0 [] := ⟨Below.refl _ _, ⟨.nil, World.ownsRow_nil _ _ _ _, fun g hg => by cases hg⟩⟩

theorem ColRel.empty (w : World) : ColRel w (w.alloc (.cells #[] 44)) [] (some ⟨w.heap.size, 0, none⟩) 0 [] :=
  ⟨below1 _ _, ⟨.nil, World.ownsRow_made w #[] 0 (Nat.le_refl _) (by decide) rfl, fun g hg => by simp [Value.ownBlock] at hg; subst hg; simp⟩⟩

theorem news2 (w : World) (x y : Value) (t : TypeId) : ∀ j u, [x, y][j]? = some u → (w.alloc (.cells #[x, y] t)).cell? ((⟨w.heap.size, 0, none⟩ : Addr).add j) = some u := World.news_of_block (cs := #[x, y]) (heap_alloc_new w _)

/-- .. and one fact more in its relation. -/
theorem ColRel.push {w wr w2 w4 : World} {gs gs' : List LFact} {A : Option Addr} {c g cap : Nat} {av : List Value} {f : LFact} {a : Value} {o : Obj} (h : ColRel w wr gs A c av) (e : gs' = gs ++ [f]) (hb : Below wr.heap.size wr w2)
    (ha : OwnInts w2 wr.heap.size w2.heap.size a f.2) (hg : (w2.alloc o).grownBy w4 (Value.slice A gs.length c).ownBlock) (hown : w4.ownsRow w.heap.size 44 2 (.slice (some ⟨g, 0, none⟩) (gs.length + 1) cap) (gs.length + 1) (flat gs av ++ [.int .i64 f.1, a])) :
    ∃ av', ColRel w w4 gs' (some ⟨g, 0, none⟩) cap av' ∧ gs.length + 1 = gs'.length := by
  subst e
  obtain ⟨av', h1, h2, h3⟩ := h.own.push (Nat.le_refl _) h.below.size hb ha hg hown
  have hl : gs.length + 1 = (gs ++ [f]).length := by simp
  refine ⟨av', ⟨((bthen h.below hb).alloc (bthen h.below hb).size _).grown hg (by have := (bthen h.below hb).size; simp; omega) (fun k hk => (h.own.row.lt k hk).1), ?_⟩, hl⟩
  rw [← hl]
  exact ⟨h1, h2, h3⟩

/-- A world that only grew keeps the relation. -/
theorem ColRel.on {w wr w2 : World} {gs : List LFact} {A : Option Addr} {c : Nat} {av : List Value} (h : ColRel w wr gs A c av) (hb : Below wr.heap.size wr w2) : ColRel w w2 gs A c av :=
  ⟨bthen h.below hb, ⟨(h.own.args.below hb (Nat.le_refl _)).mono (Nat.le_refl _) hb.size, ownsRow_below h.own.row h.own.lt hb (Nat.le_refl _), fun g hg => Nat.lt_of_lt_of_le (h.own.lt g hg) hb.size⟩⟩

end Go.Proofs.Ytcoelmhlkfignaa
/-
  Regions that draw their order and whose callees return plain values and keep all that was there: one walk of the text's order serves every order. The class of worlds: those that keep what was there.
-/
namespace Go.Proofs.Ytcoelmhlkfignaa
open Go.RowKit

/-- A world that keeps all that was there in w0. -/
def Later (w0 : World) : Type := { W : World // Below w0.heap.size w0 W }

instance (w0 : World) : Nonempty (Later w0) := ⟨⟨w0, Below.refl _ _⟩⟩

theorem wp_region_later {P : Program} {id : Nat} {Q : Exit → Act → World → Prop} {a : Act} {w0 : World} {l : List Oper} (hm : P.follows .mixedOrders = true) (hB : Region.lexB .any l.toArray = true)
    (h : wpQuiet P l.toArray (fun w' => ∃ x : Later w0, w' = x.val) (fun a' => ∀ w', (∃ x : Later w0, w' = x.val) → Q .normal a' w') l a) : (Code.region id l.toArray true).wp P Q a w0 :=
  wp_region_quiet (C := fun w' => ∃ x : Later w0, w' = x.val) hm hB ⟨⟨_, (Below.refl _ _).drew⟩, rfl⟩ (by simpa using h)

theorem later_cell {w0 : World} {a : Addr} {v : Value} (h : w0.cell? a = some v) (x : Later w0) : x.val.cell? a = some v := (x.2.cell (World.block_lt_of_cell? _ _ h)).trans h
/-- A callee's contract, met in a later world. -/
theorem later_of {P : Program} {f : FuncId} {args : Array Value} {w0 : World} {x : Later w0} {v : Value} (h : Calls P f args x.val fun e w' => e = .returned v ∧ Below x.val.heap.size x.val w') :
    Calls P f args x.val fun e w'' => e = .returned v ∧ ∃ y : Later w0, w'' = y.val :=
  h.mono fun _ w' ⟨he, hb⟩ => ⟨he, ⟨w', bthen x.2 hb⟩, rfl⟩
theorem later_same {P : Program} {f : FuncId} {args : Array Value} {w0 : World} {x : Later w0} {v : Value} (h : Calls P f args x.val fun e w' => e = .returned v ∧ x.val = w') :
    Calls P f args x.val fun e w'' => e = .returned v ∧ ∃ y : Later w0, w'' = y.val :=
  h.mono fun _ _ ⟨he, hb⟩ => ⟨he, x, hb.symm⟩

end Go.Proofs.Ytcoelmhlkfignaa
/-
  The walk of the specification's FactsWith.
-/
namespace Go.Proofs.Ytcoelmhlkfignaa
open Go.RowKit

/-- append of one copied fact onto the row that a loop collects. -/
theorem wpList_push {ops : Array Oper} {rest : List Oper} {op : Oper} {a : Act} {Q : Exit → Act → World → Prop} (hgd : op.guard = none) (s x : Operand)
    (ho : op.op = .call { callee := .builtin .append, args := #[s, x], argTypes := #[29, 29] })
    {w wr w2 : World} {gs : List LFact} {A A4 : Option Addr} {c c4 : Nat} {av : List Value} {f : LFact} (h : ColRel w wr gs A c av) (hb : Below wr.heap.size wr w2) (ha : OwnInts w2 wr.heap.size w2.heap.size (.slice A4 f.2.length c4) f.2)
    {n : Nat} (hnl : n = gs.length) (hs : a.eval s = .slice A n c) (hx : a.eval x = .slice (some ⟨w2.heap.size, 0, none⟩) 1 1) (hn : gs.length ≤ 1073741824)
    (K : ∀ g cap w4 av', ColRel w w4 (gs ++ [f]) (some ⟨g, 0, none⟩) cap av' → w2.grownBy w4 (Value.slice A gs.length c).ownBlock → wpList Try.prog ops Q rest (a.put op.dst (.slice (some ⟨g, 0, none⟩) (n + 1) cap)) w4) :
    wpList Try.prog ops Q (op :: rest) a (w2.alloc (.cells #[.int .i64 f.1, .slice A4 f.2.length c4] 44)) := by
  subst hnl
  obtain ⟨i0, hi0, hz0, hz1, hz2⟩ := info_parts Try.infoFact
  refine wpList_append_lies _ hgd s x 29 ho w.heap.size 44 i0 (.agg #[.int .i64 0, .slice none 0 0]) 2 32 Try.underlying29 hi0 hz0 hz1 hz2 rfl (by decide) (.slice A gs.length c) gs.length (flat gs av) hs ?_ ⟨w2.heap.size, 0, none⟩ 1 1 [.int .i64 f.1, .slice A4 f.2.length c4] hx rfl (news2 _ _ _ _) ?_ (by omega) (by unfold maxLen; omega) (by omega) ?_ _ rfl ?_
  · exact (ownsRow_below h.own.row h.own.lt hb (Nat.le_refl _)).alloc _
  · intro u hu
    simp at hu
    rcases hu with rfl | rfl <;> rfl
  · have := h.below.size
    have := hb.size
    simp
    omega
  intro g cap w4 hown hg _ _
  obtain ⟨av', hcol, _⟩ := h.push rfl hb ha hg hown
  exact K g cap w4 av' hcol (grown_from_alloc hg)

def withStep (f : LFact) (s : List LFact × Bool) (g : LFact) : List LFact × Bool :=
  ((if s.2 = false ∧ factOrder f g ≤ 0 then s.1 ++ [f] else s.1) ++ (if factOrder f g = 0 then [] else [g]), s.2 || decide (factOrder f g ≤ 0))
def withTo (fs : List LFact) (f : LFact) (k : Nat) : List LFact × Bool := (fs.take k).foldl (withStep f) ([], false)
def factsWith (fs : List LFact) (f : LFact) : List LFact := if (withTo fs f fs.length).2 then (withTo fs f fs.length).1 else (withTo fs f fs.length).1 ++ [f]
theorem withTo_step {fs : List LFact} {f : LFact} {k : Nat} (h : k < fs.length) : withTo fs f (k + 1) = withStep f (withTo fs f k) fs[k] := by
  unfold withTo
  rw [take_snoc fs k h, List.foldl_append]
  rfl
theorem withTo_bound (fs : List LFact) (f : LFact) : ∀ k, k ≤ fs.length → (withTo fs f k).1.length ≤ k + (if (withTo fs f k).2 then 1 else 0) ∧ tot (withTo fs f k).1 ≤ tot (fs.take k) + (if (withTo fs f k).2 then f.2.length else 0)
  | 0, _ => by simp [withTo, tot]
  | k + 1, hk => by
    have ih := withTo_bound fs f k (by omega)
    rw [withTo_step (by omega), tot_take fs k (by omega)]
    obtain ⟨h1, h2⟩ := ih
    unfold withStep
    cases hp : (withTo fs f k).2 <;> by_cases h0 : factOrder f fs[k] = 0 <;> by_cases hle : factOrder f fs[k] ≤ 0 <;> simp [hp, h0, hle, tot_append, tot_cons] at h1 h2 ⊢ <;> simp [tot] at h2 ⊢ <;> omega

theorem factsWith_bound (fs : List LFact) (f : LFact) : (factsWith fs f).length ≤ fs.length + 1 ∧ tot (factsWith fs f) ≤ tot fs + f.2.length := by
  have h := withTo_bound fs f fs.length (Nat.le_refl _)
  rw [List.take_length] at h
  unfold factsWith
  cases hp : (withTo fs f fs.length).2 <;> simp [hp, tot_append, tot_cons] at h ⊢ <;> simp [tot] at h ⊢ <;> omega

end Go.Proofs.Ytcoelmhlkfignaa
/-
  The walk of the specification's FactsWith.
-/
namespace Go.Proofs.Ytcoelmhlkfignaa
open Go.RowKit

/-- What a loop of FactsWith knows at its head, k facts on. -/
structure WithRel (w1 wr : World) (fs : List LFact) (f : LFact) (k : Nat) (st : List LFact × Bool) (A : Option Addr) (c : Nat) (av : List Value) : Prop where
  col : ColRel w1 wr st.1 A c av
  st : st = withTo fs f k

theorem With.next {fs : List LFact} {f : LFact} {k : Nat} {st st' : List LFact × Bool} (h : st = withTo fs f k) (hk : k < fs.length) (e : st' = withStep f st fs[k]) : st' = withTo fs f (k + 1) := by rw [withTo_step hk, ← h, e]

set_option maxHeartbeats 2000000 in
set_option maxRecDepth 100000 in
theorem specFactsWith_any (v v2 : Value) (fs : List LFact) (f : LFact) (w : World) (h : RdFacts w w.heap.size v fs) (h2 : RdFact w w.heap.size v2 f) (hn : fs.length ≤ 1048576) (ht : tot fs ≤ 1048576) (hf : f.2.length ≤ 1048576) :
    Calls Try.prog 25 #[v, v2] w fun e w' => ∃ A' c', e = .returned (.slice A' (factsWith fs f).length c') ∧ OwnFacts w' w.heap.size w'.heap.size (.slice A' (factsWith fs f).length c') (factsWith fs f) ∧ Below w.heap.size w w' := by
  have H := Lib.hid h
  have H2 := Lib.hid h2
  obtain ⟨A, c, rfl, hc, _⟩ := h
  obtain ⟨a, rfl, A2, c2, rfl, hc2, _⟩ := h2
  go_enter Try.func25, Try.ntmps25
  go_wp2_with (fail)
  obtain ⟨w1, hw1⟩ : ∃ w1, w1 = (w.alloc (Obj.cells #[Value.int IntKind.i64 f.1, Value.slice A2 f.2.length c2] 44)) := ⟨_, rfl⟩
  have B1 : Below w.heap.size w w1 := by rw [hw1]; exact below1 _ _
  have k0 : Blk w1 w.heap.size 44 #[.int .i64 f.1, .slice A2 f.2.length c2] := by rw [hw1]; exact Blk.new w _ _
  have hz1 : w.heap.size + 1 = w1.heap.size := by rw [hw1]; simp
  rw [← hw1]
  clear hw1
  simp only [hz1]
  have HZ := Lib.hid hz1
  clear hz1
  go_loopw [5, 6, 7, 8] (fun o p i _ wr => ∃ (k : Nat) (st : List LFact × Bool) (A' : Option Addr) (c' : Nat) (av : List Value), k ≤ fs.length ∧ i = .int .i64 k ∧ p = .bool st.2 ∧ o = .slice A' st.1.length c' ∧ WithRel w1 wr fs f k st A' c' av) (fun _ _ i _ _ => fs.length - (intOf i).toNat)
  case atStart => exact ⟨0, ([], false), _, 0, [], Nat.zero_le _, rfl, rfl, rfl, ColRel.empty w1, rfl⟩
  case round =>
    obtain ⟨k, ⟨gs, pb⟩, A', c', av, hk, rfl, rfl, rfl, hcol, hst⟩ := hrel
    have hbd := withTo_bound fs f k hk
    rw [← hst] at hbd
    have hgl : gs.length ≤ 2097152 := by have := hbd.1; simp only at this; split at this <;> omega
    clear hbd
    have HST := Lib.hid hst
    clear hst
    by_cases hlt : k < fs.length
    · obtain ⟨b, o, A3, c3, rfl, hbB, k1, k2, k3⟩ := H.out.get hlt
      have hln := len_le_tot fs k hlt
      have K3 := Lib.hid (show RdFact w w.heap.size (.agg #[.int .i64 fs[k].1, .slice A3 fs[k].2.length c3]) fs[k] from ⟨_, rfl, k3⟩)
      have M1 : ∀ W, Below w.heap.size w W → W.cell? ⟨b, o + k * 2, none⟩ = some (.int .i64 fs[k].1) := fun W hW => (hW.cell (p := ⟨b, o + k * 2, none⟩) hbB).trans k1
      have M2 : ∀ W, Below w.heap.size w W → W.cell? ⟨b, o + k * 2 + 1, none⟩ = some (.slice A3 fs[k].2.length c3) := fun W hW => (hW.cell (p := ⟨b, o + k * 2 + 1, none⟩) hbB).trans k2
      have N1 : ∀ W, Below w1.heap.size w1 W → W.cell? ⟨w.heap.size, 0, none⟩ = some (.int .i64 f.1) := fun W hW => (k0.below hW k0.lt).cell 0
      have N2 : ∀ W, Below w1.heap.size w1 W → W.cell? ⟨w.heap.size, 1, none⟩ = some (.slice A2 f.2.length c2) := fun W hW => (k0.below hW k0.lt).cell 1
      have hB := bthen B1 hcol.below
      have L1 := later_cell (M1 _ hB)
      have L2 := later_cell (M2 _ hB)
      have L3 := later_cell (N1 _ hcol.below)
      have L4 := later_cell (N2 _ hcol.below)
      obtain ⟨q, hq⟩ : ∃ q, q = factOrder f fs[k] := ⟨_, rfl⟩
      have CO := Lib.hid (fun x : Later wr => (specFactOrder_any _ _ f fs[k] x.val ((H2.out.on hB).on x.2) ((K3.out.on hB).on x.2) hf (by omega)).mono fun e w' (hh : e = .returned (.int .i64 (factOrder f fs[k])) ∧ Below x.val.heap.size x.val w') => (⟨by rw [hh.1, hq], hh.2⟩ : e = .returned (.int .i64 q) ∧ Below x.val.heap.size x.val w'))
      have HQ := Lib.hid hq
      have HC := Lib.hid hcol
      have HM := Lib.hid (And.intro M1 (And.intro M2 (And.intro N1 N2)))
      clear hq hcol k1 k2 k3 M1 M2 N1 N2
      go_wp2_with (fail)
      refine wp_region_later (by kernel_rfl) (by kernel_rfl) ?_
      repeat (go_big_quiet_step ((go_at_call 42; exact later_of (CO.out _))))
      refine wpQuiet_nil ?_
      rintro _ ⟨xq, rfl⟩
      obtain ⟨w2, hw2⟩ : ∃ w2, w2 = xq.val := ⟨_, rfl⟩
      have hb2 : Below wr.heap.size wr w2 := by rw [hw2]; exact xq.2
      rw [← hw2]
      have HC2 := Lib.hid (HC.out.on hb2)
      clear hw2 L1 L2 L3 L4 CO
      obtain ⟨M1, M2, N1, N2⟩ := HM.out
      have P2 := HC2.out.below
      have hB2 := bthen B1 P2
      have m1 := M1 _ hB2
      have m2 := M2 _ hB2
      have n1 := N1 _ P2
      have n2 := N2 _ P2
      clear M1 M2 N1 N2
      cases pb with
      | true =>
        by_cases hq0 : q = 0
        · have t1 : (q != 0) = false := by simp [hq0]
          have HS := Lib.hid (show ((gs, true) : List LFact × Bool) = withStep f (gs, true) fs[k] by simp [withStep, ← HQ.out, hq0])
          clear hq0
          go_wp2_with (fail)
          go_roundw
          case rel => exact ⟨k + 1, (gs, true), _, _, _, by omega, by go_num, rfl, rfl, ⟨HC2.out, With.next HST.out hlt HS.out⟩⟩
          case measure => simp [intOf]; omega
        · have t1 : (q != 0) = true := by simp [hq0]
          have HS := Lib.hid (show ((gs ++ [fs[k]], true) : List LFact × Bool) = withStep f (gs, true) fs[k] by simp [withStep, ← HQ.out, hq0])
          clear hq0
          go_wp2_with (fail)
          refine (l1Copy_any _ fs[k] _ (K3.out.on hB2) (by omega)).mono ?_
          rintro e w3 ⟨A4, c4, rfl, ho4, hb4⟩
          go_wp2_with (at_builtin; refine wpList_push rfl (.tmp 35) (.tmp 41) rfl HC2.out hb4 ho4 rfl rfl rfl (by omega) ?_; intro g4 cap4 w4 av4 hcol4 hgr4)
          have HC4 := Lib.hid hcol4
          clear hcol4 hgr4
          go_roundw
          case rel => exact ⟨k + 1, (gs ++ [fs[k]], true), _, _, _, by omega, by go_num, rfl, by simp, ⟨HC4.out, With.next HST.out hlt HS.out⟩⟩
          case measure => simp [intOf]; omega
      | false =>
        rcases Int.lt_trichotomy q 0 with hq0 | hq0 | hq0
        · have t1 : (q != 0) = true := by simp; omega
          have t2 : decide (q ≤ 0) = true := by simp; omega
          have HS := Lib.hid (show (((gs ++ [f]) ++ [fs[k]], true) : List LFact × Bool) = withStep f (gs, false) fs[k] by
            have e1 : q ≠ 0 := by omega
            have e2 : q ≤ 0 := by omega
            simp [withStep, ← HQ.out, e1, e2])
          clear hq0
          go_wp2_with (fail)
          refine (l1Copy_any _ f _ (H2.out.on hB2) (by omega)).mono ?_
          rintro e w3 ⟨A4, c4, rfl, ho4, hb4⟩
          go_wp2_with (at_builtin; refine wpList_push rfl (.tmp 28) (.tmp 31) rfl HC2.out hb4 ho4 rfl rfl rfl (by omega) ?_; intro g4 cap4 w4 av4 hcol4 hgr4; have m3 := HM.out.1 _ (bthen B1 hcol4.below); have m4 := HM.out.2.1 _ (bthen B1 hcol4.below); have HC4 := Lib.hid hcol4; clear hcol4 hgr4)
          refine (l1Copy_any _ fs[k] _ (K3.out.on (bthen B1 HC4.out.below)) (by omega)).mono ?_
          rintro e w5 ⟨A6, c6, rfl, ho6, hb6⟩
          go_wp2_with (at_builtin; refine wpList_push rfl (.tmp 35) (.tmp 41) rfl HC4.out hb6 ho6 (by simp) rfl rfl (by simp; omega) ?_; intro g6 cap6 w6 av6 hcol6 hgr6; have HC6 := Lib.hid hcol6; clear hcol6 hgr6)
          go_roundw
          case rel => exact ⟨k + 1, ((gs ++ [f]) ++ [fs[k]], true), _, _, _, by omega, by go_num, rfl, by simp, ⟨HC6.out, With.next HST.out hlt HS.out⟩⟩
          case measure => simp [intOf]; omega
        · have t1 : (q != 0) = false := by simp [hq0]
          have t2 : decide (q ≤ 0) = true := by simp; omega
          have HS := Lib.hid (show ((gs ++ [f], true) : List LFact × Bool) = withStep f (gs, false) fs[k] by simp [withStep, ← HQ.out, hq0])
          clear hq0
          go_wp2_with (fail)
          refine (l1Copy_any _ f _ (H2.out.on hB2) (by omega)).mono ?_
          rintro e w3 ⟨A4, c4, rfl, ho4, hb4⟩
          go_wp2_with (at_builtin; refine wpList_push rfl (.tmp 28) (.tmp 31) rfl HC2.out hb4 ho4 rfl rfl rfl (by omega) ?_; intro g4 cap4 w4 av4 hcol4 hgr4; have HC4 := Lib.hid hcol4; clear hcol4 hgr4)
          go_roundw
          case rel => exact ⟨k + 1, (gs ++ [f], true), _, _, _, by omega, by go_num, rfl, by simp, ⟨HC4.out, With.next HST.out hlt HS.out⟩⟩
          case measure => simp [intOf]; omega
        · have t1 : (q != 0) = true := by simp; omega
          have t2 : decide (q ≤ 0) = false := by simp; omega
          have HS := Lib.hid (show ((gs ++ [fs[k]], false) : List LFact × Bool) = withStep f (gs, false) fs[k] by
            have e1 : q ≠ 0 := by omega
            have e2 : ¬ q ≤ 0 := by omega
            simp [withStep, ← HQ.out, e1, e2])
          clear hq0
          go_wp2_with (fail)
          refine (l1Copy_any _ fs[k] _ (K3.out.on hB2) (by omega)).mono ?_
          rintro e w3 ⟨A4, c4, rfl, ho4, hb4⟩
          go_wp2_with (at_builtin; refine wpList_push rfl (.tmp 35) (.tmp 41) rfl HC2.out hb4 ho4 rfl rfl rfl (by omega) ?_; intro g4 cap4 w4 av4 hcol4 hgr4; have HC4 := Lib.hid hcol4; clear hcol4 hgr4)
          go_roundw
          case rel => exact ⟨k + 1, (gs ++ [fs[k]], false), _, _, _, by omega, by go_num, rfl, by simp, ⟨HC4.out, With.next HST.out hlt HS.out⟩⟩
          case measure => simp [intOf]; omega
    · have hkn : fs.length = k := by omega
      have HB := Lib.hid (bthen B1 hcol.below)
      have hz1 : w.heap.size ≤ w1.heap.size := B1.size
      have n1 : wr.cell? ⟨w.heap.size, 0, none⟩ = some (.int .i64 f.1) := (k0.below hcol.below k0.lt).cell 0
      have n2 : wr.cell? ⟨w.heap.size, 1, none⟩ = some (.slice A2 f.2.length c2) := (k0.below hcol.below k0.lt).cell 1
      have HC := Lib.hid hcol
      cases pb with
      | true =>
        have HE := Lib.hid (show factsWith fs f = gs by unfold factsWith; rw [hkn, ← HST.out]; rfl)
        clear hcol hkn
        go_wp2_with (fail)
        go_ret
        rw [HE.out]
        exact ⟨_, _, rfl, HC.out.own.own.mono hz1 (Nat.le_refl _), HB.out⟩
      | false =>
        have HE := Lib.hid (show factsWith fs f = gs ++ [f] by unfold factsWith; rw [hkn, ← HST.out]; rfl)
        clear hcol hkn
        go_wp2_with (fail)
        refine (l1Copy_any _ f _ (H2.out.on HB.out) (by omega)).mono ?_
        rintro e w3 ⟨A4, c4, rfl, ho4, hb4⟩
        go_wp2_with (at_builtin; refine wpList_push rfl (.tmp 45) (.tmp 48) rfl HC.out hb4 ho4 rfl rfl rfl (by omega) ?_; intro g4 cap4 w4 av4 hcol4 hgr4; have HC4 := Lib.hid hcol4; clear hcol4 hgr4)
        go_ret
        rw [HE.out]
        exact ⟨some ⟨g4, 0, none⟩, cap4, by simp, HC4.out.own.own.mono hz1 (Nat.le_refl _), bthen B1 HC4.out.below⟩

end Go.Proofs.Ytcoelmhlkfignaa
/-
  Facts in order, plain mathematics: the order, lists that ascend, FactsWith on them, and that their members determine them.
-/
namespace Go.Proofs.Ytcoelmhlkfignaa

theorem cmpI_neg {a b : Int} : cmpI a b < 0 ↔ a < b := by
  unfold cmpI
  split
  · simp; assumption
  · split <;> simp <;> omega
theorem cmpI_pos {a b : Int} : 0 < cmpI a b ↔ b < a := by
  unfold cmpI
  split
  · simp; omega
  · split <;> simp <;> omega
theorem cmpL_eq : ∀ {xs ys : List Int}, cmpL xs ys = 0 → xs = ys
  | [], [], _ => rfl
  | [], _ :: _, h => by simp [cmpL] at h
  | _ :: _, [], h => by simp [cmpL] at h
  | x :: xs, y :: ys, h => by
    unfold cmpL at h
    split at h
    · rename_i e
      rw [e, cmpL_eq h]
    · exact absurd (cmpI_zero h) (by assumption)
theorem cmpL_refl : ∀ xs : List Int, cmpL xs xs = 0
  | [] => rfl
  | x :: xs => by simp [cmpL, cmpL_refl xs]
theorem cmpL_flip : ∀ {xs ys : List Int}, cmpL xs ys < 0 ↔ 0 < cmpL ys xs
  | [], [] => by simp [cmpL]
  | [], _ :: _ => by simp [cmpL]
  | _ :: _, [] => by simp [cmpL]
  | x :: xs, y :: ys => by
    unfold cmpL
    by_cases e : x = y
    · subst e
      simpa using cmpL_flip
    · rw [if_neg e, if_neg (fun h => e h.symm), cmpI_neg, cmpI_pos]
theorem cmpL_less : ∀ {xs ys zs : List Int}, cmpL xs ys < 0 → cmpL ys zs < 0 → cmpL xs zs < 0
  | [], [], _, h, _ => by simp [cmpL] at h
  | [], _ :: _, [], _, h => by simp [cmpL] at h
  | [], _ :: _, _ :: _, _, _ => by simp [cmpL]
  | _ :: _, [], _, h, _ => by simp [cmpL] at h
  | _ :: _, _ :: _, [], _, h => by simp [cmpL] at h
  | x :: xs, y :: ys, z :: zs, h1, h2 => by
    unfold cmpL at h1 h2 ⊢
    by_cases e1 : x = y
    · subst e1
      by_cases e2 : x = z
      · simp only [e2, if_true] at h1 h2 ⊢
        exact cmpL_less h1 h2
      · simpa [e2] using h2
    · by_cases e2 : y = z
      · subst e2
        simpa [e1] using h1
      · rw [if_neg e1] at h1
        rw [if_neg e2] at h2
        rw [cmpI_neg] at h1 h2
        rw [if_neg (by omega), cmpI_neg]
        omega

theorem order_eq {f g : LFact} (h : factOrder f g = 0) : f = g := by
  unfold factOrder at h
  split at h
  · exact Prod.ext (by assumption) (cmpL_eq h)
  · exact absurd (cmpI_zero h) (by assumption)
theorem order_refl (f : LFact) : factOrder f f = 0 := by simp [factOrder, cmpL_refl]
theorem order_flip {f g : LFact} : factOrder f g < 0 ↔ 0 < factOrder g f := by
  unfold factOrder
  by_cases e : f.1 = g.1
  · rw [if_pos e, if_pos e.symm]
    exact cmpL_flip
  · rw [if_neg e, if_neg (fun h => e h.symm), cmpI_neg, cmpI_pos]
theorem order_less {f g h : LFact} (h1 : factOrder f g < 0) (h2 : factOrder g h < 0) : factOrder f h < 0 := by
  unfold factOrder at h1 h2 ⊢
  by_cases e1 : f.1 = g.1
  · by_cases e2 : g.1 = h.1
    · rw [if_pos e1] at h1
      rw [if_pos e2] at h2
      rw [if_pos (e1.trans e2)]
      exact cmpL_less h1 h2
    · rw [if_neg e2] at h2
      rw [if_neg (fun e => e2 (e1.symm.trans e)), e1]
      exact h2
  · by_cases e2 : g.1 = h.1
    · rw [if_neg e1] at h1
      rw [if_neg (fun e => e1 (e.trans e2.symm)), ← e2]
      exact h1
    · rw [if_neg e1, cmpI_neg] at h1
      rw [if_neg e2, cmpI_neg] at h2
      rw [if_neg (by omega), cmpI_neg]
      omega
theorem order_cases (f g : LFact) : factOrder f g < 0 ∨ f = g ∨ factOrder g f < 0 := by
  rcases Int.lt_trichotomy (factOrder f g) 0 with h | h | h
  · exact .inl h
  · exact .inr (.inl (order_eq h))
  · exact .inr (.inr (order_flip.2 h))

/-- The list ascends, each fact once. -/
def Asc (l : List LFact) : Prop := l.Pairwise fun f g => factOrder f g < 0

/-- Lists that ascend and have the same members are the same. -/
theorem Asc.unique : ∀ {l m : List LFact}, Asc l → Asc m → (∀ f, f ∈ l ↔ f ∈ m) → l = m
  | [], [], _, _, _ => rfl
  | [], g :: m, _, _, h => absurd ((h g).2 (List.mem_cons_self ..)) (by simp)
  | f :: l, [], _, _, h => absurd ((h f).1 (List.mem_cons_self ..)) (by simp)
  | f :: l, g :: m, hl, hm, h => by
    have hl' := List.pairwise_cons.1 hl
    have hm' := List.pairwise_cons.1 hm
    have e : f = g := by
      rcases List.mem_cons.1 ((h f).1 (List.mem_cons_self ..)) with e | e
      · exact e
      rcases List.mem_cons.1 ((h g).2 (List.mem_cons_self ..)) with e' | e'
      · exact e'.symm
      have h1 := hm'.1 f e
      have h2 := hl'.1 g e'
      have := order_less h1 h2
      rw [order_refl] at this
      omega
    subst e
    refine congrArg (f :: ·) (Asc.unique hl'.2 hm'.2 fun x => ⟨fun hx => ?_, fun hx => ?_⟩)
    · rcases List.mem_cons.1 ((h x).1 (List.mem_cons_of_mem _ hx)) with e | e
      · subst e
        have := hl'.1 x hx
        rw [order_refl] at this
        omega
      · exact e
    · rcases List.mem_cons.1 ((h x).2 (List.mem_cons_of_mem _ hx)) with e | e
      · subst e
        have := hm'.1 x hx
        rw [order_refl] at this
        omega
      · exact e

/-- Insertion. -/
def ins (f : LFact) : List LFact → List LFact
  | [] => [f]
  | g :: l => if factOrder f g < 0 then f :: g :: l else if factOrder f g = 0 then f :: l else g :: ins f l

theorem ins_mem (f : LFact) : ∀ (l : List LFact) (x : LFact), x ∈ ins f l ↔ x = f ∨ x ∈ l
  | [], x => by simp [ins]
  | g :: l, x => by
    unfold ins
    split
    · simp
    · split
      · have e := order_eq (by assumption : factOrder f g = 0)
        subst e
        simp
      · simp [ins_mem f l x]
        constructor
        · rintro (h | h | h) <;> simp [h]
        · rintro (h | h | h) <;> simp [h]
theorem Asc.ins {f : LFact} : ∀ {l : List LFact}, Asc l → Asc (ins f l)
  | [], _ => by simp [Go.Proofs.Ytcoelmhlkfignaa.ins, Asc]
  | g :: l, h => by
    have h' := List.pairwise_cons.1 h
    unfold Go.Proofs.Ytcoelmhlkfignaa.ins
    split
    · rename_i hlt
      refine List.pairwise_cons.2 ⟨fun x hx => ?_, h⟩
      rcases List.mem_cons.1 hx with e | e
      · rw [e]; exact hlt
      · exact order_less hlt (h'.1 x e)
    · split
      · have e := order_eq (by assumption : factOrder f g = 0)
        subst e
        exact h
      · refine List.pairwise_cons.2 ⟨fun x hx => ?_, Asc.ins h'.2⟩
        rcases (ins_mem f l x).1 hx with e | e
        · subst e
          rcases order_cases x g with h1 | h1 | h1
          · exact absurd h1 (by assumption)
          · subst h1
            exact absurd (order_refl x) (by assumption)
          · exact h1
        · exact h'.1 x e

/-- FactsWith's fold, from a state where the fact is placed already and the rest ascends behind it. -/
theorem withStep_placed (f : LFact) : ∀ (l : List LFact) (out : List LFact), (∀ g ∈ l, factOrder f g ≠ 0) → l.foldl (withStep f) (out, true) = (out ++ l, true)
  | [], out, _ => by simp
  | g :: l, out, h => by
    have h0 := h g (List.mem_cons_self ..)
    simp only [List.foldl_cons, withStep]
    simp [h0]
    rw [withStep_placed f l (out ++ [g]) fun x hx => h x (List.mem_cons_of_mem _ hx)]
    simp

def endW (f : LFact) (s : List LFact × Bool) : List LFact := if s.2 then s.1 else s.1 ++ [f]
theorem withStep_fold (f : LFact) : ∀ (l : List LFact) (out : List LFact), Asc l → endW f (l.foldl (withStep f) (out, false)) = out ++ ins f l
  | [], out, _ => by simp [ins, endW]
  | g :: l, out, h => by
    have h' := List.pairwise_cons.1 h
    simp only [List.foldl_cons]
    rcases Int.lt_trichotomy (factOrder f g) 0 with h1 | h1 | h1
    · have e : withStep f (out, false) g = (out ++ [f] ++ [g], true) := by
        simp [withStep, show factOrder f g ≤ 0 by omega, show factOrder f g ≠ 0 by omega]
      rw [e, withStep_placed f l _ fun x hx => by have := order_less h1 (h'.1 x hx); omega]
      simp [ins, h1, endW]
    · have e : withStep f (out, false) g = (out ++ [f], true) := by
        simp [withStep, h1]
      have e2 := order_eq h1
      subst e2
      rw [e, withStep_placed f l _ fun x hx => by have := h'.1 x hx; omega]
      simp [ins, order_refl, endW]
    · have e : withStep f (out, false) g = (out ++ [g], false) := by
        simp [withStep, show ¬ factOrder f g ≤ 0 by omega, show factOrder f g ≠ 0 by omega]
      rw [e, withStep_fold f l _ h'.2]
      simp [ins, show ¬ factOrder f g < 0 by omega, show factOrder f g ≠ 0 by omega]

/-- FactsWith on a list that ascends is insertion. -/
theorem Asc.with_ {l : List LFact} (h : Asc l) (f : LFact) : factsWith l f = Go.Proofs.Ytcoelmhlkfignaa.ins f l := by
  have := withStep_fold f l [] h
  unfold endW at this
  unfold factsWith withTo
  rw [List.take_length]
  simpa using this

/-- Facts laid into a list, one after another. -/
def setOf (l : List LFact) : List LFact := l.foldl factsWith []
theorem foldWith : ∀ (l : List LFact) (out : List LFact), Asc out → Asc (l.foldl factsWith out) ∧ ∀ x, x ∈ l.foldl factsWith out ↔ x ∈ out ∨ x ∈ l
  | [], out, h => by simpa using h
  | f :: l, out, h => by
    have h1 : Asc (factsWith out f) := by rw [h.with_ f]; exact h.ins
    obtain ⟨h2, h3⟩ := foldWith l _ h1
    refine ⟨h2, fun x => ?_⟩
    rw [List.foldl_cons, h3 x, h.with_ f, ins_mem]
    simp only [List.mem_cons]
    constructor
    · rintro ((h | h) | h) <;> simp [h]
    · rintro (h | h | h) <;> simp [h]
theorem setOf_asc (l : List LFact) : Asc (setOf l) := (foldWith l [] List.Pairwise.nil).1
theorem setOf_mem (l : List LFact) (x : LFact) : x ∈ setOf l ↔ x ∈ l := by
  rw [setOf, (foldWith l [] List.Pairwise.nil).2 x]
  simp

/-- The list ascends, a fact perhaps more than once. -/
def Up (l : List LFact) : Prop := l.Pairwise fun f g => factOrder f g ≤ 0
/-- Of equal neighbours the last one. -/
def compactL : List LFact → List LFact
  | [] => []
  | [f] => [f]
  | f :: g :: l => if factOrder f g = 0 then compactL (g :: l) else f :: compactL (g :: l)
theorem compactL_mem : ∀ (l : List LFact) (x : LFact), x ∈ compactL l ↔ x ∈ l
  | [], x => by simp [compactL]
  | [f], x => by simp [compactL]
  | f :: g :: l, x => by
    unfold compactL
    split
    · have e := order_eq (by assumption : factOrder f g = 0)
      subst e
      rw [compactL_mem (f :: l) x]
      simp
    · rw [List.mem_cons, compactL_mem (g :: l) x]
      simp
theorem Up.asc : ∀ {l : List LFact}, Up l → Asc (compactL l)
  | [], _ => List.Pairwise.nil
  | [f], _ => by simp [compactL, Asc]
  | f :: g :: l, h => by
    have h' := List.pairwise_cons.1 h
    unfold compactL
    split
    · exact Up.asc h'.2
    · refine List.pairwise_cons.2 ⟨fun x hx => ?_, Up.asc h'.2⟩
      rw [compactL_mem] at hx
      have hfg : factOrder f g < 0 := by
        have := h'.1 g (List.mem_cons_self ..)
        omega
      rcases List.mem_cons.1 hx with e | e
      · rw [e]; exact hfg
      · have h2 := (List.pairwise_cons.1 h'.2).1 x e
        rcases Int.lt_trichotomy (factOrder g x) 0 with h3 | h3 | h3
        · exact order_less hfg h3
        · rw [← order_eq h3]; exact hfg
        · omega

/-- Sorted and compacted, and laid one after another: the same. -/
theorem compact_setOf {s l : List LFact} (h : Up s) (hm : ∀ x, x ∈ s ↔ x ∈ l) : compactL s = setOf l :=
  h.asc.unique (setOf_asc l) fun x => by rw [compactL_mem, setOf_mem, hm]
theorem compact_filter {s l : List LFact} (h : Up s) (hm : ∀ x, x ∈ s ↔ x ∈ l) (p : LFact → Bool) : (compactL s).filter p = setOf (l.filter p) :=
  Asc.unique (h.asc.filter p) (setOf_asc _) fun x => by rw [List.mem_filter, compactL_mem, setOf_mem, List.mem_filter, hm]

end Go.Proofs.Ytcoelmhlkfignaa
/-
  The specification's FactsEither and l1Pick: facts laid into a list one after another.
-/
namespace Go.Proofs.Ytcoelmhlkfignaa
open Go.RowKit

theorem foldWith_bound : ∀ (l out : List LFact), (l.foldl factsWith out).length ≤ out.length + l.length ∧ tot (l.foldl factsWith out) ≤ tot out + tot l
  | [], out => by simp [tot]
  | f :: l, out => by
    have h1 := factsWith_bound out f
    have h2 := foldWith_bound l (factsWith out f)
    rw [tot_cons]
    simp only [List.foldl_cons, List.length_cons]
    omega
theorem setOf_bound (l : List LFact) : (setOf l).length ≤ l.length ∧ tot (setOf l) ≤ tot l := by
  have := foldWith_bound l []
  unfold setOf
  simpa [tot] using this
theorem setOf_snoc (l : List LFact) (f : LFact) : setOf (l ++ [f]) = factsWith (setOf l) f := by simp [setOf, List.foldl_append]

end Go.Proofs.Ytcoelmhlkfignaa
/-
  ProofUses: the plain mathematics, and the walk of the specification's.
-/
namespace Go.Proofs.Ytcoelmhlkfignaa
open Go.RowKit

/-- The facts of the steps that are given. -/
def givenL (ss : List LStep) : List LFact := (ss.filter fun s => s.2.1 == -1).map (·.1)
def usesL (ss : List LStep) : List LFact := setOf (givenL ss)
theorem givenL_append (xs ys : List LStep) : givenL (xs ++ ys) = givenL xs ++ givenL ys := by simp [givenL]
theorem givenL_yes {ss : List LStep} {k : Nat} (h : k < ss.length) (e : ss[k].2.1 = -1) : givenL (ss.take (k + 1)) = givenL (ss.take k) ++ [ss[k].1] := by
  rw [take_snoc ss k h, givenL_append]
  congr 1
  simp [givenL, e]
theorem givenL_no {ss : List LStep} {k : Nat} (h : k < ss.length) (e : ss[k].2.1 ≠ -1) : givenL (ss.take (k + 1)) = givenL (ss.take k) := by
  rw [take_snoc ss k h, givenL_append, show givenL [ss[k]] = [] by simp [givenL, e], List.append_nil]
theorem givenL_bound : ∀ (ss : List LStep), (givenL ss).length ≤ ss.length ∧ tot (givenL ss) ≤ totS ss
  | [] => by simp [givenL, tot, totS]
  | s :: ss => by
    have h := givenL_bound ss
    have hs : s.1.2.length ≤ szSt s := by unfold szSt; omega
    rw [totS_cons]
    by_cases e : s.2.1 = -1
    · have e1 : givenL (s :: ss) = s.1 :: givenL ss := by simp [givenL, e]
      rw [e1]
      have e2 : tot (s.1 :: givenL ss) = s.1.2.length + tot (givenL ss) := by simp [tot]
      rw [e2]
      simp only [List.length_cons]
      omega
    · have e1 : givenL (s :: ss) = givenL ss := by simp [givenL, e]
      rw [e1]
      simp only [List.length_cons]
      omega
theorem givenL_take (ss : List LStep) (k : Nat) : (givenL (ss.take k)).length ≤ ss.length ∧ tot (givenL (ss.take k)) ≤ totS ss := by
  have h := givenL_bound (ss.take k)
  have h2 := totS_append (ss.take k) (ss.drop k)
  rw [List.take_append_drop] at h2
  have h3 : (ss.take k).length ≤ ss.length := by rw [List.length_take]; omega
  omega
theorem usesL_bound (ss : List LStep) (k : Nat) : (setOf (givenL (ss.take k))).length ≤ ss.length ∧ tot (setOf (givenL (ss.take k))) ≤ totS ss := by
  have h := givenL_take ss k
  have h2 := setOf_bound (givenL (ss.take k))
  omega

set_option maxHeartbeats 1000000 in
set_option maxRecDepth 100000 in
theorem specProofUses_any (v : Value) (ss : List LStep) (w : World) (h : RdSteps w w.heap.size v ss) (hl : ss.length ≤ 1048576) (ht : totS ss ≤ 1048576) :
    Calls Try.prog 11 #[v] w fun e w' => ∃ A' c', e = .returned (.slice A' (usesL ss).length c') ∧ OwnFacts w' w.heap.size w'.heap.size (.slice A' (usesL ss).length c') (usesL ss) ∧ Below w.heap.size w w' := by
  have H := Lib.hid h
  obtain ⟨A, c, rfl, hc, _⟩ := h
  go_enter Try.func11, Try.ntmps11
  go_wp2_with (fail)
  have C0 := Lib.hid (show OwnFacts (w.alloc (.cells #[] 44)) w.heap.size (w.alloc (.cells #[] 44)).heap.size (.slice (some ⟨w.heap.size, 0, none⟩) 0 0) (setOf (givenL (ss.take 0))) from (ColRel.empty w).own.own)
  go_loopw [3, 4] (fun o i wr => ∃ (k : Nat) (A' : Option Addr) (c' : Nat), k ≤ ss.length ∧ i = .int .i64 k ∧ o = .slice A' (setOf (givenL (ss.take k))).length c' ∧ OwnFacts wr w.heap.size wr.heap.size (.slice A' (setOf (givenL (ss.take k))).length c') (setOf (givenL (ss.take k))) ∧ Below w.heap.size w wr) (fun _ i _ => ss.length - (intOf i).toNat)
  case atStart => exact ⟨0, _, 0, Nat.zero_le _, rfl, rfl, C0.out, below1 _ _⟩
  case round =>
    obtain ⟨k, A', c', hk, rfl, rfl, ho, hbe⟩ := hrel
    by_cases hlt : k < ss.length
    · obtain ⟨b, o, A1, c1, A2, c2, A3, c3, rfl, hbB, ⟨k0, k1, k2, k3, k4⟩, r1, r2, r3⟩ := (H.out.on hbe).get hlt
      have hln := szSt_le_totS ss k hlt
      unfold szSt at hln
      have hbd := usesL_bound ss k
      have HR := Lib.hid r1
      have HO := Lib.hid ho
      have HBE := Lib.hid hbe
      clear r1 r2 r3 ho
      by_cases he : ss[k].2.1 = -1
      · have heb : (ss[k].2.1 == -1) = true := by simp [he]
        have HS := Lib.hid (show factsWith (setOf (givenL (ss.take k))) ss[k].1 = setOf (givenL (ss.take (k + 1))) by rw [givenL_yes hlt he, setOf_snoc])
        obtain ⟨R, hR⟩ : ∃ R, R = setOf (givenL (ss.take k)) := ⟨_, rfl⟩
        rw [← hR] at HS HO hbd ⊢
        clear he hR
        go_wp2_with (fail)
        refine (specFactsWith_any _ _ R ss[k].1 _ HO.out.rd ⟨_, rfl, HR.out⟩ (by omega) (by omega) (by omega)).mono ?_
        rintro e w2 ⟨A4, c4, rfl, ho4, hb4⟩
        rw [HS.out] at ho4 ⊢
        have HN := Lib.hid (And.intro (ho4.mono HBE.out.size (Nat.le_refl _)) (bthen HBE.out hb4))
        clear ho4 hb4
        go_wp2_with (fail)
        go_roundw
        case rel => exact ⟨k + 1, _, _, by omega, by go_num, rfl, HN.out.1, HN.out.2⟩
        case measure => simp [intOf]; omega
      · have heb : (ss[k].2.1 == -1) = false := by simp [he]
        have HS := Lib.hid (givenL_no hlt he)
        clear he
        go_wp2_with (fail)
        go_roundw
        case rel => exact ⟨k + 1, _, _, by omega, by go_num, by rw [HS.out], by rw [HS.out]; exact HO.out, HBE.out⟩
        case measure => simp [intOf]; omega
    · have hkn : k = ss.length := by omega
      have HN := Lib.hid (show OwnFacts wr w.heap.size wr.heap.size (.slice A' (usesL ss).length c') (usesL ss) ∧ setOf (givenL (ss.take k)) = usesL ss from by
        have e : ss.take k = ss := by rw [hkn, List.take_length]
        rw [e] at ho ⊢
        exact ⟨ho, rfl⟩)
      rw [HN.out.2]
      clear hkn ho
      go_wp2_with (fail)
      go_ret
      exact ⟨_, _, rfl, HN.out.1, hbe⟩

end Go.Proofs.Ytcoelmhlkfignaa
/-
  Two functions of the library, laid at this program: the numbers of their functions and types. No condition.
-/
namespace Go.Proofs
open Go.Shelf
def Try.sortFact_ren : Go.Shelf.Ren := ⟨fun | 6 => 45 | 15 => 51 | 14 => 50 | 28 => 63 | 29 => 64 | 20 => 55 | 21 => 56 | 22 => 57 | 23 => 58 | 24 => 59 | 25 => 60 | 26 => 61 | 27 => 62 | 46 => 66 | 47 => 67 | 48 => 68 | 49 => 69 | 50 => 70 | 57 => 71 | n => n, fun | 22 => 29 | 24 => 44 | 25 => 63 | 3 => 3 | 39 => 69 | 0 => 0 | 53 => 81 | 55 => 83 | 4 => 4 | 46 => 74 | 45 => 73 | 50 => 78 | 5 => 5 | 9 => 9 | 66 => 85 | 70 => 89 | 76 => 91 | 77 => 92 | n => n, fun | n => n⟩
theorem Try.sortFact : Go.Proofs.SlLaysF0.n6 Try.prog Try.sortFact_ren := {
  mixed := by kernel_rfl
  f6 := ⟨Try.f45.name, by decide, Try.func45.trans (congrArg some (by kernel_rfl))⟩
  f14 := ⟨Try.f50.name, by decide, Try.func50.trans (congrArg some (by kernel_rfl))⟩
  f15 := Try.func51.trans (congrArg some (by kernel_rfl))
  f20 := ⟨Try.f55.name, by decide, Try.func55.trans (congrArg some (by kernel_rfl))⟩
  f21 := ⟨Try.f56.name, by decide, Try.func56.trans (congrArg some (by kernel_rfl))⟩
  f22 := ⟨Try.f57.name, by decide, Try.func57.trans (congrArg some (by kernel_rfl))⟩
  f23 := ⟨Try.f58.name, by decide, Try.func58.trans (congrArg some (by kernel_rfl))⟩
  f24 := ⟨Try.f59.name, by decide, Try.func59.trans (congrArg some (by kernel_rfl))⟩
  f25 := ⟨Try.f60.name, by decide, Try.func60.trans (congrArg some (by kernel_rfl))⟩
  f26 := ⟨Try.f61.name, by decide, Try.func61.trans (congrArg some (by kernel_rfl))⟩
  f27 := ⟨Try.f62.name, by decide, Try.func62.trans (congrArg some (by kernel_rfl))⟩
  f28 := Try.func63.trans (congrArg some (by kernel_rfl))
  f29 := Try.func64.trans (congrArg some (by kernel_rfl))
  f46 := ⟨Try.f66.name, by decide, Try.func66.trans (congrArg some (by kernel_rfl))⟩
  f47 := Try.func67.trans (congrArg some (by kernel_rfl))
  f48 := Try.func68.trans (congrArg some (by kernel_rfl))
  f49 := ⟨Try.f69.name, by decide, Try.func69.trans (congrArg some (by kernel_rfl))⟩
  f50 := ⟨Try.f70.name, by decide, Try.func70.trans (congrArg some (by kernel_rfl))⟩
  f57 := ⟨Try.f71.name, by decide, Try.func71.trans (congrArg some (by kernel_rfl))⟩
  t0 := Try.underlying0
  a0 := Try.isAgg0
  z0 := Try.sizeOf0
  v0 := Try.zeroValue0
  t3 := Try.underlying3
  a3 := Try.isAgg3
  z3 := Try.sizeOf3
  v3 := Try.zeroValue3
  t4 := Try.underlying4
  a4 := Try.isAgg4
  z4 := Try.sizeOf4
  v4 := Try.zeroValue4
  t5 := Try.underlying5
  a5 := Try.isAgg5
  z5 := Try.sizeOf5
  v5 := Try.zeroValue5
  t9 := Try.underlying9
  a9 := Try.isAgg9
  z9 := Try.sizeOf9
  v9 := Try.zeroValue9
  t22 := Try.underlying29
  a22 := Try.isAgg29
  z22 := Try.sizeOf29
  v22 := Try.zeroValue29
  t25 := Try.underlying63
  a25 := Try.isAgg63
  z25 := Try.sizeOf63
  v25 := Try.zeroValue63
  t39 := Try.underlying69
  a39 := Try.isAgg69
  z39 := Try.sizeOf69
  v39 := Try.zeroValue69
  t45 := Try.underlying73
  a45 := Try.isAgg73
  z45 := Try.sizeOf73
  v45 := Try.zeroValue73
  t46 := Try.underlying74
  a46 := Try.isAgg74
  z46 := Try.sizeOf74
  v46 := Try.zeroValue74
  t50 := Try.underlying78
  a50 := Try.isAgg78
  z50 := Try.sizeOf78
  v50 := Try.zeroValue78
  t53 := Try.underlying81
  a53 := Try.isAgg81
  z53 := Try.sizeOf81
  v53 := Try.zeroValue81
  t55 := Try.underlying83
  a55 := Try.isAgg83
  z55 := Try.sizeOf83
  v55 := Try.zeroValue83
  t66 := Try.underlying85
  a66 := Try.isAgg85
  z66 := Try.sizeOf85
  v66 := Try.zeroValue85
  t70 := Try.underlying89
  a70 := Try.isAgg89
  z70 := Try.sizeOf89
  v70 := Try.zeroValue89
  t76 := Try.underlying91
  a76 := Try.isAgg91
  z76 := Try.sizeOf91
  v76 := Try.zeroValue91
  t77 := Try.underlying92
  a77 := Try.isAgg92
  z77 := Try.sizeOf92
  v77 := Try.zeroValue92 }
end Go.Proofs
/-
  append of a slice of facts that is read, nil and empty let in, onto a row of the call's own: the headers are shared.
-/
namespace Go.Proofs.Ytcoelmhlkfignaa
open Go.RowKit

/-- The headers av read as the facts' rows. -/
def RdArgs (w : World) (B : Nat) (av : List Value) (fs : List LFact) : Prop := av.length = fs.length ∧ ∀ k (_ : k < fs.length) (h' : k < av.length) (h : k < fs.length), RdInts w B av[k] fs[k].2
theorem RdArgs.nil (w : World) (B : Nat) : RdArgs w B [] [] := ⟨rfl, fun k h => absurd h (by simp)⟩
theorem RdArgs.on {w w' : World} {av : List Value} {fs : List LFact} (h : RdArgs w w.heap.size av fs) (hb : Below w.heap.size w w') : RdArgs w' w'.heap.size av fs := ⟨h.1, fun k h1 h2 h3 => (h.2 k h1 h2 h3).on hb⟩
theorem RdArgs.append {w : World} {B : Nat} {av av2 : List Value} {fs fs2 : List LFact} (h : RdArgs w B av fs) (h2 : RdArgs w B av2 fs2) : RdArgs w B (av ++ av2) (fs ++ fs2) := by
  refine ⟨by simp [h.1, h2.1], fun k _ h' hk => ?_⟩
  by_cases e : k < fs.length
  · have e' : k < av.length := by rw [h.1]; exact e
    rw [List.getElem_append_left e', List.getElem_append_left e]
    exact h.2 k e e' e
  · have e' : ¬ k < av.length := by rw [h.1]; exact e
    have l1 := h.1
    simp only [List.length_append] at h' hk
    rw [List.getElem_append_right (by omega), List.getElem_append_right (by omega)]
    have := h2.2 (k - fs.length) (by omega) (by omega) (by omega)
    simpa [l1] using this
theorem flat_append : ∀ (fs : List LFact) (av : List Value) (_ : av.length = fs.length) (fs2 : List LFact) (av2 : List Value), flat (fs ++ fs2) (av ++ av2) = flat fs av ++ flat fs2 av2
  | [], [], _, _, _ => by simp [flat]
  | [], _ :: _, h, _, _ => by simp at h
  | _ :: _, [], h, _, _ => by simp at h
  | f :: fs, a :: av, h, fs2, av2 => by simp [flat, flat_append fs av (by simpa using h) fs2 av2]

/-- What is read at a slice of facts, cell by cell. -/
def CellsAt (w : World) (A : Option Addr) (cs : List Value) : Prop := (A = none → cs = []) ∧ ∀ ad, A = some ad → ∀ j u, cs[j]? = some u → w.cell? (ad.add j) = some u

theorem flat_get (fs : List LFact) (av : List Value) (h : av.length = fs.length) (j : Nat) (u : Value) (hu : (flat fs av)[j]? = some u) :
    ∃ k, ∃ (hk : k < fs.length) (hk' : k < av.length), (j = k * 2 ∧ u = .int .i64 fs[k].1) ∨ (j = k * 2 + 1 ∧ u = av[k]) := by
  have hl := flat_length fs av h
  have hj : j < fs.length * 2 := by
    rcases Nat.lt_or_ge j (fs.length * 2) with h1 | h1
    · exact h1
    · rw [List.getElem?_eq_none (by omega)] at hu
      cases hu
  have hk : j / 2 < fs.length := by omega
  obtain ⟨c0, c1⟩ := flat_at fs av h (j / 2) hk (by omega)
  refine ⟨j / 2, hk, by omega, ?_⟩
  by_cases e : j % 2 = 0
  · left
    have e1 : j = j / 2 * 2 := by omega
    refine ⟨e1, ?_⟩
    rw [e1, c0] at hu
    exact (Option.some.inj hu).symm
  · right
    have e1 : j = j / 2 * 2 + 1 := by omega
    refine ⟨e1, ?_⟩
    rw [e1, c1] at hu
    exact (Option.some.inj hu).symm

theorem RdFacts.heads {w : World} {B : Nat} {v : Value} {fs : List LFact} (h : RdFacts w B v fs) : ∃ A c av, v = .slice A fs.length c ∧ RdArgs w B av fs ∧ CellsAt w A (flat fs av) := by
  obtain ⟨A, c, rfl, hc, h⟩ := h
  rcases Nat.eq_zero_or_pos fs.length with h0 | h0
  · have : fs = [] := List.eq_nil_of_length_eq_zero h0
    subst this
    exact ⟨A, c, [], rfl, RdArgs.nil _ _, fun _ => rfl, fun ad _ j u hu => by simp [flat] at hu⟩
  · obtain ⟨b, o, rfl, hb, hx⟩ := h h0
    let av : List Value := (List.finRange fs.length).map fun k => (hx k.1 k.2).choose
    have hl : av.length = fs.length := by simp [av]
    have hav : ∀ k (h : k < fs.length) (h' : k < av.length), av[k] = (hx k h).choose := fun k h h' => by simp [av]
    refine ⟨_, c, av, rfl, ⟨hl, fun k _ h' hk => ?_⟩, fun e => (by cases e), fun ad e j u hu => ?_⟩
    · rw [hav k hk h']
      exact (hx k hk).choose_spec.2.2
    · injection e with e
      subst e
      obtain ⟨k, hk, hk', h1⟩ := flat_get fs av hl j u hu
      rw [Go.WideShapes.add_plain]
      rcases h1 with ⟨rfl, rfl⟩ | ⟨rfl, rfl⟩
      · exact (hx k hk).choose_spec.1
      · rw [hav k hk hk']
        exact (hx k hk).choose_spec.2.1

theorem flat_one (fs : List LFact) (av : List Value) {w : World} {B : Nat} (h : RdArgs w B av fs) : ∀ u ∈ flat fs av, u.oneCell' = true := by
  intro u hu
  obtain ⟨j, hj, e⟩ := List.getElem_of_mem hu
  obtain ⟨k, hk, hk', h1⟩ := flat_get fs av h.1 j u (by rw [List.getElem?_eq_getElem hj, e])
  rcases h1 with ⟨_, rfl⟩ | ⟨_, rfl⟩
  · rfl
  · obtain ⟨A, c, e, _⟩ := h.2 k hk hk' hk
    rw [e]
    rfl

theorem run_append_facts {P : Program} (w : World) (base : Nat) (t ty e : TypeId) (i : TypeInfo) (z : Value) (bytes : Nat) (ht : P.underlying t = some (.slice e)) (hi : P.info? e = some i) (hz : i.zero = some z)
    (hsize : i.size = 2) (hby : i.bytes = bytes) (hzs : z.cells.size = 2)
    (v : Value) (n : Nat) (xs : List Value) (hown : w.ownsRow base e 2 v n xs) (A : Option Addr) (c : Nat) (fs : List LFact) (av : List Value) (B : Nat) (ha : RdArgs w B av fs) (hx : CellsAt w A (flat fs av))
    (h63 : n + fs.length ≤ maxLen) (hbytes : (n + fs.length) * bytes ≤ 140737488355328) (hbase : base ≤ w.heap.size) :
    ∃ A' c' w', (Builtin.append_ #[t, t] ty #[v, .slice A fs.length c]).run P w = .ok (.slice A' (n + fs.length) c') w' ∧ w'.ownsRow base e 2 (.slice A' (n + fs.length) c') (n + fs.length) (xs ++ flat fs av) ∧ w.grownBy w' v.ownBlock ∧
      ((Value.slice A' (n + fs.length) c').ownBlock = v.ownBlock ∨ (Value.slice A' (n + fs.length) c').ownBlock = some w.heap.size) := by
  have hform : ∀ {w' : World} {v' : Value} {m : Nat} {zs : List Value}, w'.ownsRow base e 2 v' m zs → ∃ A c, v' = .slice A m c := by
    intro w' v' m zs h
    rcases h.2 with ⟨rfl, h0⟩ | ⟨g, cap, _, rfl, _⟩
    · exact ⟨none, 0, by rw [h0]⟩
    · exact ⟨_, _, rfl⟩
  rcases A with _ | ad
  · have h0 := hx.1 rfl
    have hl := flat_length fs av ha.1
    rw [h0] at hl
    have hfs : fs = [] := List.eq_nil_of_length_eq_zero (by simp at hl; omega)
    subst hfs
    obtain ⟨A', c', hv⟩ := hform hown
    refine ⟨A', c', w, ?_, by simpa [flat, ← hv] using hown, World.grownBy.refl w _, .inl (by simp only [List.length_nil, Nat.add_zero]; rw [hv])⟩
    simp only [List.length_nil, Nat.add_zero]
    rw [← hv]
    exact run_append_nilsrc w base t ty e i 2 ht hi v n xs hown c
  · obtain ⟨v', w', hrun, h2, h3, _, h5⟩ := run_append_own_at (P := P) w base t ty e i z 2 bytes ht hi hz hsize hby hzs (by decide) v n xs hown ad fs.length c (flat fs av) (flat_length fs av ha.1) (hx.2 ad rfl)
      (flat_one fs av ha) h63 hbytes hbase
    obtain ⟨A', c', hv⟩ := hform h2
    subst hv
    exact ⟨A', c', w', hrun, h2, h3, h5⟩

theorem wpList_append_facts {P : Program} {w : World} {ops : Array Oper} {rest : List Oper} {o : Oper} {a : Act} {Q : Exit → Act → World → Prop} (hgd : o.guard = none) (s x : Operand) (t : TypeId)
    (ho : o.op = .call { callee := .builtin .append, args := #[s, x], argTypes := #[t, t] })
    (base : Nat) (e : TypeId) (i : TypeInfo) (z : Value) (bytes : Nat) (ht : P.underlying t = some (.slice e)) (hi : P.info? e = some i) (hz : i.zero = some z)
    (hsize : i.size = 2) (hby : i.bytes = bytes) (hzs : z.cells.size = 2)
    (v : Value) (n : Nat) (xs : List Value) (hs : a.eval s = v) (hown : w.ownsRow base e 2 v n xs) (A : Option Addr) (c : Nat) (fs : List LFact) (av : List Value) (B : Nat) (hx : a.eval x = .slice A fs.length c) (ha : RdArgs w B av fs) (hc : CellsAt w A (flat fs av))
    (h63 : n + fs.length ≤ maxLen) (hbytes : (n + fs.length) * bytes ≤ 140737488355328) (hbase : base ≤ w.heap.size)
    (h : ∀ A' c' w', w'.ownsRow base e 2 (.slice A' (n + fs.length) c') (n + fs.length) (xs ++ flat fs av) → w.grownBy w' v.ownBlock →
      ((Value.slice A' (n + fs.length) c').ownBlock = v.ownBlock ∨ (Value.slice A' (n + fs.length) c').ownBlock = some w.heap.size) → wpList P ops Q rest (a.put o.dst (.slice A' (n + fs.length) c')) w') : wpList P ops Q (o :: rest) a w := by
  refine wpList_plain hgd fun _ hK => ?_
  obtain ⟨A', c', w', hrun, h2, h3, h4⟩ := run_append_facts (P := P) w base t o.type e i z bytes ht hi hz hsize hby hzs v n xs hown A c fs av B ha hc h63 hbytes hbase
  unfold Oper.wp execOp
  simp only [ho, resolve, invoke, builtin, Sem.run_bind, Sem.run_pure, Result.andThen_ok, List.map_toArray, List.map_cons, List.map_nil, hs, hx, hrun]
  exact hK _ _ (h A' c' w' h2 h3 h4)

end Go.Proofs.Ytcoelmhlkfignaa
/-
  slices.Clone at facts: a row of the call's own whose headers are the given ones.
-/
namespace Go.Proofs.Ytcoelmhlkfignaa
open Go.RowKit

theorem CellsAt.on {w w' : World} {A : Option Addr} {cs : List Value} (h : CellsAt w A cs) (hb : Below w.heap.size w w') : CellsAt w' A cs :=
  ⟨h.1, fun ad e j u hu => (hb.cell (World.block_lt_of_cell? _ _ (h.2 ad e j u hu))).trans (h.2 ad e j u hu)⟩

/-- A row of the call's own, from base on, that holds facts whose headers are av; they read in w. -/
structure RowF (w : World) (base : Nat) (A : Option Addr) (c : Nat) (fs : List LFact) (av : List Value) : Prop where
  row : w.ownsRow base 44 2 (.slice A fs.length c) fs.length (flat fs av)
  rd : RdArgs w w.heap.size av fs

theorem RowF.on {w w' : World} {base : Nat} {A : Option Addr} {c : Nat} {fs : List LFact} {av : List Value} (h : RowF w base A c fs av) (hb : Below w.heap.size w w') : RowF w' base A c fs av :=
  ⟨ownsRow_below h.row (fun g hg => (h.row.lt g hg).2) hb (Nat.le_refl _), h.rd.on hb⟩
theorem RowF.mono {w : World} {base base' : Nat} {A : Option Addr} {c : Nat} {fs : List LFact} {av : List Value} (h : RowF w base A c fs av) (hb : base' ≤ base) : RowF w base' A c fs av := ⟨ownsRow_mono h.row hb, h.rd⟩
theorem RowF.facts {w : World} {base : Nat} {A : Option Addr} {c : Nat} {fs : List LFact} {av : List Value} (h : RowF w base A c fs av) : RdFacts w w.heap.size (.slice A fs.length c) fs := by
  have hcells := @World.ownsRow.cells w base 44 2 (.slice A fs.length c) fs.length (flat fs av) h.row
  have hlt := h.row.lt
  have hl := h.rd.1
  rcases h.row.2 with ⟨e, h0⟩ | ⟨g, cap, cur, e, hb, hgg, hn, _⟩
  · injection e with e1 _ e3
    subst e1
    subst e3
    exact ⟨none, 0, rfl, by omega, fun hp => by omega⟩
  · injection e with e1 _ e3
    subst e1
    subst e3
    refine ⟨_, _, rfl, hn, fun _ => ⟨g, 0, rfl, (hlt g rfl).2, fun k hk => ?_⟩⟩
    obtain ⟨c0, c1⟩ := flat_at fs av hl k hk (by omega)
    have d0 := hcells (g := g) rfl _ _ c0
    have d1 := hcells (g := g) rfl _ _ c1
    rw [Go.WideShapes.add_plain] at d0 d1
    exact ⟨_, d0, d1, h.rd.2 k hk (by omega) hk⟩

theorem facts_eqlSome (ad : Addr) (n c : Nat) (w : World) : (binOp .eql 29 (.slice (some ad) n c) (.slice none 0 0)).run Try.prog w = .ok (.bool false) w := by kernel_rfl
theorem facts_eqlNil (n c : Nat) (w : World) : (binOp .eql 29 (.slice none n c) (.slice none 0 0)).run Try.prog w = .ok (.bool true) w := by kernel_rfl

set_option maxHeartbeats 400000 in
set_option maxRecDepth 100000 in
theorem clone_any (v : Value) (fs : List LFact) (w : World) (h : RdFacts w w.heap.size v fs) (hl : fs.length ≤ 4194304) :
    Calls Try.prog 44 #[v] w fun e w' => ∃ A' c' av, e = .returned (.slice A' fs.length c') ∧ RowF w' w.heap.size A' c' fs av ∧ Below w.heap.size w w' := by
  obtain ⟨i0, hi0, hz0, hz1, hz2⟩ := info_parts Try.infoFact
  obtain ⟨A, c, av, rfl, ha, hc⟩ := h.heads
  clear h
  have hE := facts_eqlSome
  have hN := facts_eqlNil
  rcases A with _ | ad
  · have h0 := hc.1 rfl
    have hfl := flat_length fs av ha.1
    rw [h0] at hfl
    have hfs : fs = [] := List.eq_nil_of_length_eq_zero (by simp at hfl; omega)
    subst hfs
    clear hfl h0 ha hc
    go_enter Try.func44, Try.ntmps44
    go_wp2_with (fail)
    go_ret
    exact ⟨none, 0, [], rfl, ⟨World.ownsRow_nil _ _ _ _, RdArgs.nil _ _⟩, Below.refl _ _⟩
  · have HA := Lib.hid ha
    have HC := Lib.hid hc
    clear ha hc
    go_enter Try.func44, Try.ntmps44
    go_wp2_with (at_builtin; refine wpList_append_facts rfl (.tmp 5) (.tmp 6) 29 rfl w.heap.size 44 i0 (.agg #[.int .i64 0, .slice none 0 0]) 32 Try.underlying29 hi0 hz0 hz1 hz2 rfl (.slice (some ⟨w.heap.size, 0, none⟩) 0 0) 0 [] rfl ?c1 (some ad) c fs av _ rfl (HA.out.on (below1 _ _)) ?c2 (by unfold maxLen; omega) (by omega) (by simp) ?_)
    case c1 => exact World.ownsRow_made w #[] 0 (Nat.le_refl _) (by decide) rfl
    case c2 => exact HC.out.on (below1 _ _)
    intro A' c' w' hown hgr hob
    have hB : Below w.heap.size w w' := (below1 w _).grown hgr (by simp) (fun b hb => by simp [Value.ownBlock] at hb; omega)
    have HR := Lib.hid (show RowF w' w.heap.size A' c' fs av from ⟨hown, HA.out.on hB⟩)
    have HB := Lib.hid hB
    clear hown hgr hob hB
    go_wp2_with (fail)
    go_ret
    exact ⟨A', c', av, rfl, HR.out, HB.out⟩

end Go.Proofs.Ytcoelmhlkfignaa
/-
  slices.Grow of the nil slice, slices.Clone, slices.Concat of two slices: at facts.
-/
namespace Go.Proofs.Ytcoelmhlkfignaa
open Go.RowKit

theorem size_zeroPairs (n : Nat) : (Builtin.zeroCells #[Value.int IntKind.i64 0, Value.slice none 0 0] n).size = n * 2 := by simp [Builtin.zeroCells]

set_option maxHeartbeats 400000 in
set_option maxRecDepth 100000 in
/-- slices.Clone, the headers known. -/
theorem clone_av (A : Option Addr) (c : Nat) (fs : List LFact) (av : List Value) (w : World) (ha : RdArgs w w.heap.size av fs) (hc : CellsAt w A (flat fs av)) (hl : fs.length ≤ 4194304) :
    Calls Try.prog 44 #[.slice A fs.length c] w fun e w' => ∃ A' c', e = .returned (.slice A' fs.length c') ∧ RowF w' w.heap.size A' c' fs av ∧ Below w.heap.size w w' := by
  obtain ⟨i0, hi0, hz0, hz1, hz2⟩ := info_parts Try.infoFact
  have hE := facts_eqlSome
  have hN := facts_eqlNil
  rcases A with _ | ad
  · have h0 := hc.1 rfl
    have hfl := flat_length fs av ha.1
    rw [h0] at hfl
    have hfs : fs = [] := List.eq_nil_of_length_eq_zero (by simp at hfl; omega)
    have hav : av = [] := List.eq_nil_of_length_eq_zero (by rw [ha.1, hfs]; rfl)
    subst hfs hav
    clear hfl h0 ha hc
    go_enter Try.func44, Try.ntmps44
    go_wp2_with (fail)
    go_ret
    exact ⟨none, 0, rfl, ⟨World.ownsRow_nil _ _ _ _, RdArgs.nil _ _⟩, Below.refl _ _⟩
  · have HA := Lib.hid ha
    have HC := Lib.hid hc
    clear ha hc
    go_enter Try.func44, Try.ntmps44
    go_wp2_with (at_builtin; refine wpList_append_facts rfl (.tmp 5) (.tmp 6) 29 rfl w.heap.size 44 i0 (.agg #[.int .i64 0, .slice none 0 0]) 32 Try.underlying29 hi0 hz0 hz1 hz2 rfl (.slice (some ⟨w.heap.size, 0, none⟩) 0 0) 0 [] rfl ?c1 (some ad) c fs av _ rfl (HA.out.on (below1 _ _)) ?c2 (by unfold maxLen; omega) (by omega) (by simp) ?_)
    case c1 => exact World.ownsRow_made w #[] 0 (Nat.le_refl _) (by decide) rfl
    case c2 => exact HC.out.on (below1 _ _)
    intro A' c' w' hown hgr hob
    have hB : Below w.heap.size w w' := (below1 w _).grown hgr (by simp) (fun b hb => by simp [Value.ownBlock] at hb; omega)
    have HR := Lib.hid (show RowF w' w.heap.size A' c' fs av from ⟨hown, HA.out.on hB⟩)
    have HB := Lib.hid hB
    clear hown hgr hob hB
    go_wp2_with (fail)
    go_ret
    exact ⟨A', c', rfl, HR.out, HB.out⟩

/-- What has been laid behind each other after k of two slices. -/
def joinF (xs ys : List LFact) (k : Nat) : List LFact := if k = 0 then [] else if k = 1 then xs else xs ++ ys
def joinV (xs ys : List Value) (k : Nat) : List Value := if k = 0 then [] else if k = 1 then xs else xs ++ ys
def joinN (n m k : Nat) : Nat := if k = 0 then 0 else if k = 1 then n else n + m

end Go.Proofs.Ytcoelmhlkfignaa
/-
  FactOrder's contract with its worlds written out: draws on, and blocks behind.
-/
namespace Go.Proofs.Ytcoelmhlkfignaa
open Go.RowKit Go.Sort

/-- W is w some draws on, with blocks laid behind it. -/
def Gr (w W : World) : Prop := ∃ q os, W = grow (w.drewN q) os
theorem Gr.refl (w : World) : Gr w w := ⟨0, #[], by simp [grow, World.drewN]⟩
theorem Gr.alloc {w W : World} (h : Gr w W) (o : Obj) : Gr w (W.alloc o) := by
  obtain ⟨q, os, rfl⟩ := h
  exact ⟨q, os.push o, by simp [grow, World.alloc]⟩
theorem Gr.drew {w W : World} (h : Gr w W) : Gr w W.drew := by
  obtain ⟨q, os, rfl⟩ := h
  exact ⟨q + 1, os, rfl⟩
theorem Gr.drewN {w W : World} (h : Gr w W) (n : Nat) : Gr w (W.drewN n) := by
  obtain ⟨q, os, rfl⟩ := h
  exact ⟨q + n, os, by simp [grow, World.drewN, Nat.add_assoc]⟩
theorem Gr.trans {w w1 W : World} (h : Gr w w1) (k : Gr w1 W) : Gr w W := by
  obtain ⟨q, os, rfl⟩ := h
  obtain ⟨q', os', rfl⟩ := k
  exact ⟨q + q', os ++ os', by simp [grow, World.drewN, Nat.add_assoc, Array.append_assoc]⟩
theorem Gr.below {w W : World} (h : Gr w W) : Below w.heap.size w W := by
  obtain ⟨q, os, rfl⟩ := h
  exact ⟨rfl, rfl, rfl, by simp [grow, World.drewN], fun k hk => by simp [grow, World.drewN, Array.getElem?_append, hk]⟩

set_option maxHeartbeats 400000 in
set_option maxRecDepth 100000 in
theorem implFactOrder_grow (v v2 : Value) (f g : LFact) (w : World) (h : RdFact w w.heap.size v f) (h2 : RdFact w w.heap.size v2 g) (hn : f.2.length ≤ 1048576) (hn2 : g.2.length ≤ 1048576) :
    Calls Try.prog 46 #[v, v2] w fun e w' => e = .returned (.int .i64 (factOrder f g)) ∧ Gr w w' := by
  obtain ⟨a, rfl, h⟩ := h
  have H := Lib.hid h
  obtain ⟨A, c, rfl, hc, _⟩ := h
  obtain ⟨a, rfl, h2⟩ := h2
  have H2 := Lib.hid h2
  obtain ⟨A2, c2, rfl, hc2, _⟩ := h2
  have HF := Lib.hid (factOrder_or f g)
  go_enter Try.func46, Try.ntmps46
  go_wp2_with (fail)
  obtain ⟨w1, hw1⟩ : ∃ w1, w1 = ((w.alloc (Obj.cells #[Value.int IntKind.i64 f.1, Value.slice A f.2.length c] 44)).alloc (Obj.cells #[Value.int IntKind.i64 g.1, Value.slice A2 g.2.length c2] 44)) := ⟨_, rfl⟩
  have B1 : Gr w w1 := by rw [hw1]; exact ((Gr.refl _).alloc _).alloc _
  have k0 : Blk w1 w.heap.size 44 #[.int .i64 f.1, .slice A f.2.length c] := by rw [hw1]; exact (Blk.new w _ _).alloc _
  have k1 : Blk w1 (w.heap.size + 1) 44 #[.int .i64 g.1, .slice A2 g.2.length c2] := by rw [hw1]; simpa using Blk.new (w.alloc (Obj.cells #[Value.int IntKind.i64 f.1, Value.slice A f.2.length c] 44)) 44 #[.int .i64 g.1, .slice A2 g.2.length c2]
  rw [← hw1]
  clear hw1
  have HS0 := Lib.hid (show ∀ W, Gr w1 W → (Gr w1 W ∧ W.cell? ⟨w.heap.size, 0, none⟩ = some (.int .i64 f.1) ∧ W.cell? ⟨w.heap.size, 1, none⟩ = some (.slice A f.2.length c) ∧ W.cell? ⟨w.heap.size + 1, 0, none⟩ = some (.int .i64 g.1) ∧ W.cell? ⟨w.heap.size + 1, 1, none⟩ = some (.slice A2 g.2.length c2)) from
    fun W hW => ⟨hW, (k0.below hW.below k0.lt).cell 0, (k0.below hW.below k0.lt).cell 1, (k1.below hW.below k1.lt).cell 0, (k1.below hW.below k1.lt).cell 1⟩)
  go_region_held3 (fun W => Gr w1 W ∧ W.cell? ⟨w.heap.size, 0, none⟩ = some (.int .i64 f.1) ∧ W.cell? ⟨w.heap.size, 1, none⟩ = some (.slice A f.2.length c) ∧ W.cell? ⟨w.heap.size + 1, 0, none⟩ = some (.int .i64 g.1) ∧ W.cell? ⟨w.heap.size + 1, 1, none⟩ = some (.slice A2 g.2.length c2))
    (first | assumption | exact HS0.out _ (Gr.refl _) | exact HS0.out _ ((Gr.refl _).alloc _).drew | exact HS0.out _ (Gr.refl _).drew | exact HS0.out _ ((And.left (by assumption) : Gr w1 _).alloc _) | exact HS0.out _ (And.left (by assumption) : Gr w1 _).drew | (refine HS0.out _ ?_; go_goals; fail))
    (first
      | (go_at_call 53; refine (cmpCompare_any _ _ _).mono ?_; rintro e w' ⟨rfl, rfl⟩)
      | (go_at_call 54; refine (slicesCompare_any _ _ f.2 g.2 _ ?_ ?_ (by omega) (by omega)).mono ?_; exact H.out.on (bthen B1.below (And.left (by assumption) : Gr w1 _).below); exact H2.out.on (bthen B1.below (And.left (by assumption) : Gr w1 _).below); rintro e w' ⟨rfl, rfl⟩)
      | (go_at_call 52; refine (cmpOr_any _ (cmpI f.1 g.1) (cmpL f.2 g.2) _ ?_).mono ?_; exact rdInts_pair _ _ _; rintro e w' ⟨rfl, rfl⟩))
  all_goals
    go_wp2_with (fail)
    go_ret
    exact ⟨ret_int HF.out, B1.trans (And.left (by assumption))⟩

end Go.Proofs.Ytcoelmhlkfignaa
/-
  slices.SortFunc at facts by FactOrder: a permutation, ascending.
-/
namespace Go.Proofs.Ytcoelmhlkfignaa
open Go.RowKit Go.Sort

/-- An element of the row: a fact, its header, which reads in blocks below g. -/
def El (w : World) (g : Nat) : Type := { x : LFact × Value // RdInts w g x.2 x.1.2 ∧ x.1.2.length ≤ 1048576 }
instance (w : World) (g : Nat) : Inhabited (El w g) := ⟨⟨((0, []), .slice none 0 0), ⟨none, 0, rfl, by simp, fun h => absurd h (by simp)⟩, by simp⟩⟩
def encE {w : World} {g : Nat} (x : El w g) : List Value := [.int .i64 x.1.1.1, x.1.2]
def cfE {w : World} {g : Nat} (x y : El w g) : Int := factOrder x.1.1 y.1.1

section
variable {w : World} {g : Nat}
theorem ltE (x y : El w g) : ltOf cfE x y = decide (factOrder x.1.1 y.1.1 < 0) := rfl
theorem swoE : SWO (ltOf (cfE (w := w) (g := g))) where
  irrefl x := by rw [ltE, order_refl]; rfl
  trans x y z h1 h2 := by
    rw [ltE] at *
    exact decide_eq_true (order_less (of_decide_eq_true h1) (of_decide_eq_true h2))
  ntrans x y z h1 h2 := by
    rw [ltE] at *
    refine decide_eq_false fun h3 => ?_
    have h1 := of_decide_eq_false h1
    have h2 := of_decide_eq_false h2
    rcases order_cases x.1.1 y.1.1 with h | h | h
    · exact h1 h
    · rw [h] at h3
      exact h2 h3
    · exact h2 (order_less h h3)

theorem below_sortWorld {α : Type} [Inhabited α] (enc : α → List Value) (m : Nat) (dk : Array α) (os : Array Obj) : Only g (g + 1) w (sortWorldK enc 2 w g 0 m dk os) := by
  refine ⟨rfl, rfl, rfl, ?_, fun k hk ho => ?_⟩
  · simp [sortWorldK, putRowK, putRow, mapBlock, Sort.grow, Sort.ahead]
  · have hne : ¬ g = k := by omega
    simp only [sortWorldK, putRowK, putRow, mapBlock, Sort.grow, Sort.ahead, Array.getElem?_append, Array.size_modify, Array.getElem?_modify, hne, if_false]
    rw [if_pos hk]

theorem flatE : ∀ (l : List (El w g)), (flatK encE 2 l.toArray).toList = flat (l.map (·.1.1)) (l.map (·.1.2)) := by
  intro l
  have hl : (l.map fun x : El w g => x.1.2).length = (l.map fun x : El w g => x.1.1).length := by simp
  have hfl := flat_length (l.map fun x : El w g => x.1.1) (l.map fun x : El w g => x.1.2) hl
  simp only [List.length_map] at hfl
  have hsz : (flatK encE 2 l.toArray).size = l.length * 2 := by simp
  apply List.ext_getElem
  · rw [Array.length_toList, hsz, hfl]
  · intro t h1 h2
    rw [Array.length_toList, hsz] at h1
    have hk : t / 2 < l.length := by omega
    obtain ⟨c0, c1⟩ := flat_at (l.map fun x : El w g => x.1.1) (l.map fun x : El w g => x.1.2) hl (t / 2) (by simpa using hk) (by simpa using hk)
    have hget : (flatK encE 2 l.toArray)[t]'(by rw [hsz]; exact h1) = (encE l[t / 2])[t % 2]! := by
      have := get_flatK (encE (w := w) (g := g)) 2 l.toArray t (by simpa using h1)
      rw [getElem!_pos _ _ (by rw [hsz]; exact h1)] at this
      rw [this]
      congr 2
      rw [getElem!_pos _ _ (by simpa using hk)]
      simp
    rw [Array.getElem_toList, hget]
    apply Option.some.inj
    rw [← List.getElem?_eq_getElem h2]
    rcases (show t % 2 = 0 ∨ t % 2 = 1 by omega) with e | e
    · have et : t = t / 2 * 2 := by omega
      rw [e]
      conv => rhs; rw [et, c0]
      simp [encE]
    · have et : t = t / 2 * 2 + 1 := by omega
      rw [e]
      conv => rhs; rw [et, c1]
      simp [encE]

theorem elems {fs : List LFact} {av : List Value} (h : RdArgs w g av fs) (hl : ∀ k (hk : k < fs.length), fs[k].2.length ≤ 1048576) : ∃ l : List (El w g), l.map (·.1.1) = fs ∧ l.map (·.1.2) = av := by
  let F : Fin fs.length → El w g := fun i => ⟨(fs[i.1], av[i.1]'(by have := i.2; have := h.1; omega)), h.2 i.1 i.2 _ i.2, hl i.1 i.2⟩
  refine ⟨List.ofFn F, ?_, ?_⟩
  · apply List.ext_getElem
    · rw [List.length_map, List.length_ofFn]
    · intro k k1 k2
      rw [List.getElem_map, List.getElem_ofFn]
  · apply List.ext_getElem
    · rw [List.length_map, List.length_ofFn, h.1]
    · intro k k1 k2
      rw [List.getElem_map, List.getElem_ofFn]

theorem rdE (l : List (El w g)) : RdArgs w g (l.map (·.1.2)) (l.map (·.1.1)) := ⟨by simp, fun k _ h2 h3 => by simpa using (l[k]'(by simpa using h3)).2.1⟩
end

theorem RdArgs.below {w w' : World} {B B' : Nat} {av : List Value} {fs : List LFact} (h : RdArgs w B av fs) (hb : Below B' w w') (hB : B ≤ B') : RdArgs w' B av fs := ⟨h.1, fun k h1 h2 h3 => (h.2 k h1 h2 h3).below hb hB⟩
theorem RdArgs.more {w : World} {B B' : Nat} {av : List Value} {fs : List LFact} (h : RdArgs w B av fs) (hB : B ≤ B') : RdArgs w B' av fs := ⟨h.1, fun k h1 h2 h3 => (h.2 k h1 h2 h3).more hB⟩

/-- The row at block g, from its start, holds facts with these headers. -/
def AtRow (w : World) (g cap : Nat) (fs : List LFact) (av : List Value) : Prop :=
  ∃ cur, w.heap[g]? = some (.cells cur 44 (0, 0)) ∧ fs.length ≤ cap ∧ cap ≤ maxLen ∧ cur.size = cap * 2 ∧ cur.toList.take (fs.length * 2) = flat fs av
theorem AtRow.lt {w : World} {g cap : Nat} {fs : List LFact} {av : List Value} (h : AtRow w g cap fs av) : g < w.heap.size := by
  obtain ⟨cur, hg, _⟩ := h
  exact Blk.lt hg
theorem RowF.at_ {w : World} {base c : Nat} {A : Option Addr} {fs : List LFact} {av : List Value} (h : RowF w base A c fs av) (hn : 0 < fs.length) : ∃ g, A = some ⟨g, 0, none⟩ ∧ base ≤ g ∧ AtRow w g c fs av := by
  rcases h.row.2 with ⟨_, h0⟩ | ⟨g, cap, cur, e, hb, hgg, r1, r2, r3, r4⟩
  · omega
  · injection e with e1 _ e3
    subst e1
    subst e3
    exact ⟨g, rfl, hb, cur, hgg, r1, r2, r3, r4⟩
theorem AtRow.row {w : World} {base g c : Nat} {fs : List LFact} {av : List Value} (h : AtRow w g c fs av) (hl : av.length = fs.length) (hb : base ≤ g) : w.ownsRow base 44 2 (.slice (some ⟨g, 0, none⟩) fs.length c) fs.length (flat fs av) := by
  obtain ⟨cur, hg, h1, h2, h3, h4⟩ := h
  exact ⟨flat_length _ _ hl, .inr ⟨g, c, cur, rfl, hb, hg, h1, h2, h3, h4⟩⟩
theorem AtRow.cell {w : World} {g c : Nat} {fs : List LFact} {av : List Value} (h : AtRow w g c fs av) {j : Nat} (hj : j < fs.length * 2) : w.cell? ⟨g, j, none⟩ = (flat fs av)[j]? := by
  obtain ⟨cur, hg, h1, h2, h3, h4⟩ := h
  rw [Blk.cell hg, ← h4, List.getElem?_take_of_lt hj, Array.getElem?_toList]
theorem AtRow.frozen {w : World} {g c : Nat} {fs : List LFact} {av : List Value} (h : AtRow w g c fs av) (j : Nat) : w.frozen? ⟨g, j, none⟩ = false := by
  obtain ⟨cur, hg, _⟩ := h
  exact Blk.frozen hg j

set_option maxHeartbeats 1000000 in
theorem sortF_any (g c : Nat) (fs : List LFact) (av : List Value) (w : World) (hrow : AtRow w g c fs av) (hrd : RdArgs w g av fs) (hn : fs.length ≤ 4194304) (hl : ∀ k (hk : k < fs.length), fs[k].2.length ≤ 1048576) :
    Calls Try.prog 45 #[.slice (some ⟨g, 0, none⟩) fs.length c, .func (.func 46) #[] #[]] w fun e w' =>
      e = .returned (.tuple #[]) ∧ ∃ fs' av', fs'.Perm fs ∧ Up fs' ∧ AtRow w' g c fs' av' ∧ RdArgs w' g av' fs' ∧ Only g (g + 1) w w' := by
  obtain ⟨l, rfl, rfl⟩ := elems hrd hl
  have hg := hrow.lt
  have eg : ∀ args w, (callFunc 46 args).run Try.prog w = .ok (.enter 46 args) w := enters_of Try.func46 (by kernel_rfl) rfl
  have hcmp : CmpLays Try.prog 46 #[] (encE (w := w) (g := g)) 2 cfE g 0 l.toArray.size w := fun m os dk _ x y => by
    have ho := below_sortWorld (w := w) (g := g) (encE (w := w) (g := g)) m dk os
    have hb : Below g w (sortWorldK encE 2 w g 0 m dk os) := ho.below (Nat.le_refl _) (Nat.le_of_lt hg)
    exact implFactOrder_grow _ _ x.1.1 y.1.1 _ ⟨_, rfl, (x.2.1.below hb (Nat.le_refl _)).more (Nat.le_trans (Nat.le_of_lt hg) ho.size)⟩ ⟨_, rfl, (y.2.1.below hb (Nat.le_refl _)).more (Nat.le_trans (Nat.le_of_lt hg) ho.size)⟩ x.2.2 y.2.2
  have hH : HoldsK (encE (w := w) (g := g)) 2 w g 0 l.toArray := fun j hj => by
    have hj2 : j < l.length * 2 := by simpa using hj
    refine ⟨?_, hrow.frozen _⟩
    rw [Nat.zero_add, hrow.cell (by simpa using hj2), ← flatE l, Array.getElem?_toList, Array.getElem?_eq_getElem hj]
    rw [getElem!_pos (flatK encE 2 l.toArray) j hj]
    rfl
  have hcon := AnyQ.slices_SortFunc Try.sortFact 2 Try.isAgg44 Try.sizeOf44 (encE (w := w) (g := g)) (fun _ => rfl) (fun x v hv => by
      simp only [encE, List.mem_cons, List.not_mem_nil, or_false] at hv
      rcases hv with rfl | rfl
      · rfl
      · obtain ⟨A, c, e, _⟩ := x.2.1
        rw [e]
        rfl) cfE swoE 46 #[] g 0 c l.toArray w eg hcmp hH hg (by simp at hn ⊢; omega)
  rw [show (List.map (fun x : El w g => x.1.1) l).length = l.toArray.size by simp]
  refine Calls.mono hcon ?_
  rintro e w' ⟨rfl, d', n, os, ⟨hsz, _, hperm⟩, hsort, rfl⟩
  have hp : d'.toList.Perm l := by
    have e1 : d'.extract 0 l.toArray.size = d' := by rw [← hsz]; simp
    have e2 : l.toArray.extract 0 l.toArray.size = l.toArray := by simp
    rw [e1, e2] at hperm
    simpa using hperm
  have ho := below_sortWorld (w := w) (g := g) (encE (w := w) (g := g)) n d' os
  have hszl : d'.toList.length = l.length := by rw [Array.length_toList, hsz]; simp
  refine ⟨rfl, d'.toList.map (·.1.1), d'.toList.map (·.1.2), hp.map _, ?_, ?_, (rdE d'.toList).below (ho.below (Nat.le_refl _) (Nat.le_of_lt hg)) (Nat.le_refl _), ho⟩
  · refine List.pairwise_map.2 (List.pairwise_iff_getElem.2 fun i j hi hj hij => ?_)
    rw [Array.length_toList] at hi hj
    have h := hsort i j (Nat.zero_le _) hij (by rw [← hsz]; exact hj)
    rw [ltE, getElem!_pos d' i hi, getElem!_pos d' j hj] at h
    have h := of_decide_eq_false h
    have h2 := @order_flip d'[j].1.1 d'[i].1.1
    simp only [Array.getElem_toList]
    omega
  · obtain ⟨cur, hgg, h1, h2, h3, h4⟩ := hrow
    have hlen : (d'.toList.map fun x : El w g => x.1.1).length = l.length := by rw [List.length_map, hszl]
    refine ⟨putCells id 0 (flatK encE 2 d') cur, ?_, by rw [hlen]; simpa using h1, h2, by simp [putCells, h3], ?_⟩
    · simp only [sortWorldK, putRowK, putRow, mapBlock, Sort.grow, Sort.ahead]
      rw [Array.getElem?_append, Array.size_modify, if_pos hg, Array.getElem?_modify, if_pos rfl, hgg]
      rfl
    · have hfe := flatE d'.toList
      rw [Array.toArray_toList] at hfe
      rw [← hfe, hlen]
      have hfs : (flatK encE 2 d').size = l.length * 2 := by rw [size_flatK, hsz]; simp
      have hcl : l.length * 2 ≤ cur.size := by rw [h3]; simp at h1; omega
      apply List.ext_getElem
      · simp [putCells, hfs]
        omega
      · intro t t1 t2
        rw [Array.length_toList, hfs] at t2
        rw [List.getElem_take, Array.getElem_toList, Array.getElem_toList]
        simp only [putCells, Array.getElem_mapIdx, id]
        rw [if_pos ⟨Nat.zero_le _, by rw [hfs]; omega⟩, Nat.sub_zero, getElem!_pos (flatK encE 2 d') t (by rw [hfs]; exact t2)]

end Go.Proofs.Ytcoelmhlkfignaa
/-
  sameFact.
-/
namespace Go.Proofs.Ytcoelmhlkfignaa
open Go.RowKit Go.Sort

set_option maxHeartbeats 400000 in
set_option maxRecDepth 100000 in
theorem sameFact_grow (v v2 : Value) (f g : LFact) (w : World) (h : RdFact w w.heap.size v f) (h2 : RdFact w w.heap.size v2 g) (hn : f.2.length ≤ 1048576) (hn2 : g.2.length ≤ 1048576) :
    Calls Try.prog 48 #[v, v2] w fun e w' => e = .returned (.bool (factOrder f g == 0)) ∧ Gr w w' := by
  obtain ⟨a, rfl, h⟩ := h
  have H := Lib.hid h
  obtain ⟨A, c, rfl, hc, _⟩ := h
  obtain ⟨a, rfl, h2⟩ := h2
  have H2 := Lib.hid h2
  obtain ⟨A2, c2, rfl, hc2, _⟩ := h2
  go_enter Try.func48, Try.ntmps48
  go_wp2_with (fail)
  refine (implFactOrder_grow _ _ f g _ ⟨_, rfl, H.out.on (below2 _ _ _)⟩ ⟨_, rfl, H2.out.on (below2 _ _ _)⟩ hn hn2).mono ?_
  rintro e w1 ⟨rfl, hg1⟩
  have HG := Lib.hid ((((Gr.refl w).alloc _).alloc _).trans hg1)
  clear hg1
  go_wp2_with (fail)
  go_ret
  exact ⟨rfl, HG.out⟩

end Go.Proofs.Ytcoelmhlkfignaa
/-
  Compacting, plain mathematics; a row of facts under stores.
-/
namespace Go.Proofs.Ytcoelmhlkfignaa
open Go.RowKit Go.Sort

theorem same_iff (f g : LFact) : (factOrder f g == 0) = decide (f = g) := by
  by_cases h : f = g
  · subst h
    simp [order_refl]
  · rw [decide_eq_false h]
    simpa using fun e => h (order_eq e)

theorem compactL_snoc : ∀ (l : List LFact) (a b : LFact), compactL (l ++ [a, b]) = if a = b then compactL (l ++ [a]) else compactL (l ++ [a]) ++ [b]
  | [], a, b => by
    by_cases h : a = b
    · subst h
      simp [compactL, order_refl]
    · have : factOrder a b ≠ 0 := fun e => h (order_eq e)
      simp [compactL, this, h]
  | [x], a, b => by
    have ih := compactL_snoc [] a b
    simp only [List.nil_append] at ih
    show compactL (x :: a :: [b]) = _
    by_cases hx : factOrder x a = 0
    · rw [compactL, if_pos hx]
      show compactL [a, b] = _
      rw [ih, show compactL ([x] ++ [a]) = compactL [a] by simp [compactL, hx]]
    · rw [compactL, if_neg hx]
      show x :: compactL [a, b] = _
      rw [ih, show compactL ([x] ++ [a]) = x :: compactL [a] by simp [compactL, hx]]
      split <;> rfl
  | x :: y :: l, a, b => by
    have ih := compactL_snoc (y :: l) a b
    have e1 : x :: y :: l ++ [a, b] = x :: (y :: (l ++ [a, b])) := rfl
    have e2 : x :: y :: l ++ [a] = x :: (y :: (l ++ [a])) := rfl
    have e3 : y :: l ++ [a, b] = y :: (l ++ [a, b]) := rfl
    have e4 : y :: l ++ [a] = y :: (l ++ [a]) := rfl
    rw [e3, e4] at ih
    rw [e1, e2]
    by_cases hx : factOrder x y = 0
    · rw [compactL, if_pos hx, ih, compactL, if_pos hx]
    · rw [compactL, if_neg hx, ih, compactL, if_neg hx]
      split <;> rfl
/-- One more place. -/
theorem compact_step {fs : List LFact} {j : Nat} (h : j + 1 < fs.length) : compactL (fs.take (j + 2)) = if fs[j] = fs[j + 1] then compactL (fs.take (j + 1)) else compactL (fs.take (j + 1)) ++ [fs[j + 1]] := by
  have e1 : fs.take (j + 2) = fs.take j ++ [fs[j], fs[j + 1]] := by
    rw [take_snoc fs (j + 1) h, take_snoc fs j (by omega), List.append_assoc]
    rfl
  have e2 : fs.take (j + 1) = fs.take j ++ [fs[j]] := take_snoc fs j (by omega)
  rw [e1, e2]
  exact compactL_snoc _ _ _
theorem compactL_length_le : ∀ l : List LFact, (compactL l).length ≤ l.length
  | [] => by simp [compactL]
  | [f] => by simp [compactL]
  | f :: g :: l => by
    have := compactL_length_le (g :: l)
    unfold compactL
    split <;> simp at this ⊢ <;> omega

theorem flat_set_v : ∀ (fs : List LFact) (av : List Value) (j : Nat) (a : Value), av.length = fs.length → j < fs.length → flat fs (av.set j a) = (flat fs av).set (j * 2 + 1) a
  | [], _, j, _, _, h => absurd h (by simp)
  | _ :: _, [], _, _, h, _ => by simp at h
  | f :: fs, b :: av, 0, a, _, _ => by simp [flat]
  | f :: fs, b :: av, j + 1, a, h, hj => by
    have := flat_set_v fs av j a (by simpa using h) (by simpa using hj)
    rw [show (j + 1) * 2 + 1 = j * 2 + 1 + 1 + 1 by omega]
    simp [flat, this]

section
variable {w w' : World} {g c : Nat} {fs : List LFact} {av : List Value}
theorem AtRow.keep (h : AtRow w g c fs av) (hk : w'.heap[g]? = w.heap[g]?) : AtRow w' g c fs av := by
  obtain ⟨cur, hg, r⟩ := h
  exact ⟨cur, hk.trans hg, r⟩
theorem AtRow.below {B : Nat} (h : AtRow w g c fs av) (hb : Below B w w') (hB : g < B) : AtRow w' g c fs av := h.keep (hb.block g hB)
theorem AtRow.len (h : AtRow w g c fs av) : fs.length ≤ c := by
  obtain ⟨cur, _, h1, _⟩ := h
  exact h1
/-- A fact laid at a place. -/
theorem AtRow.set (h : AtRow w g c fs av) (hl : av.length = fs.length) {k : Nat} (hk : k < fs.length) (f : LFact) (a : Value) : AtRow ((w.setCell ⟨g, k * 2, none⟩ (.int .i64 f.1)).setCell ⟨g, k * 2 + 1, none⟩ a) g c (fs.set k f) (av.set k a) := by
  obtain ⟨cur, hg, h1, h2, h3, h4⟩ := h
  have s1 := Blk.set_ (show Blk w g 44 cur from hg) (k * 2) (.int .i64 f.1)
  have s2 := s1.set_ (k * 2 + 1) a
  refine ⟨_, s2, by simpa using h1, h2, by simpa using h3, ?_⟩
  rw [flat_set_v (fs.set k f) av k a (by simpa using hl) (by simpa using hk), flat_set fs av k f hl, ← h4]
  apply List.ext_getElem?
  intro j
  simp only [List.length_set, List.getElem?_take, Array.getElem?_toList, Array.getElem?_setIfInBounds, List.getElem?_set, Array.size_setIfInBounds, List.length_take, Array.length_toList]
  have hb : fs.length * 2 ≤ cur.size := by omega
  by_cases e1 : k * 2 + 1 = j
  · subst e1
    have : k * 2 + 1 < fs.length * 2 := by omega
    have h5 : k * 2 + 1 < cur.size := by omega
    simp [this, h5]
    omega
  · by_cases e2 : k * 2 = j
    · subst e2
      have : k * 2 < fs.length * 2 := by omega
      have h5 : k * 2 < cur.size := by omega
      simp [this, h5]
      omega
    · by_cases h6 : j < fs.length * 2
      · simp [e1, e2, h6]
      · simp [e1, e2, h6]
/-- The first m alone. -/
theorem AtRow.take (h : AtRow w g c fs av) (hl : av.length = fs.length) {m : Nat} (hm : m ≤ fs.length) : AtRow w g c (fs.take m) (av.take m) := by
  obtain ⟨cur, hg, h1, h2, h3, h4⟩ := h
  refine ⟨cur, hg, by simp; omega, h2, h3, ?_⟩
  have hlm : (fs.take m).length = m := by simp; omega
  rw [hlm]
  have e : flat fs av = flat (fs.take m) (av.take m) ++ flat (fs.drop m) (av.drop m) := by
    rw [← flat_append _ _ (by simp [hl]), List.take_append_drop, List.take_append_drop]
  have hfl := flat_length (fs.take m) (av.take m) (by simp [hl])
  rw [hlm] at hfl
  rw [e] at h4
  have := congrArg (List.take (m * 2)) h4
  rw [List.take_take, show min (m * 2) (fs.length * 2) = m * 2 by omega, List.take_append_of_le_length (by omega), ← hfl, List.take_length] at this
  rw [← hfl]
  exact this
end

theorem setCells_heap (g : Nat) : ∀ (vs : List Value) (o : Nat) (w : World) (cur : Array Value) (t : TypeId), w.heap[g]? = some (.cells cur t (0, 0)) →
    ∃ cur', (w.setCells g o vs).heap[g]? = some (.cells cur' t (0, 0)) ∧ cur'.size = cur.size ∧ (∀ j, j < o → cur'[j]? = cur[j]?) ∧ Only g (g + 1) w (w.setCells g o vs)
  | [], _, w, cur, t, h => ⟨cur, h, rfl, fun _ _ => rfl, Only.refl _ _ _⟩
  | v :: vs, o, w, cur, t, h => by
    obtain ⟨cur', h1, h2, h3, h4⟩ := setCells_heap g vs (o + 1) (w.setCell ⟨g, o, none⟩ v) _ t (Blk.set_ (show Blk w g t cur from h) o v)
    refine ⟨cur', h1, by simpa using h2, fun j hj => ?_, (Only.setCell (p := ⟨g, o, none⟩) (Only.refl g (g + 1) w) ⟨Nat.le_refl g, Nat.lt_succ_self g⟩ v).trans h4⟩
    rw [h3 j (by omega), Array.getElem?_setIfInBounds]
    rw [if_neg (by omega)]

/-- clear of the places from k on. -/
theorem run_clear_facts {w : World} {g c : Nat} {fs : List LFact} {av : List Value} (h : AtRow w g c fs av) {k : Nat} (hk : k < fs.length) (d : Nat) :
    ∃ W, (∀ ty, (Builtin.clear_ #[29] ty #[.slice (some ⟨g, k * 2, none⟩) (fs.length - k) d]).run Try.prog w = .ok (.tuple #[]) W) ∧ Only g (g + 1) w W ∧ ((av.length = fs.length) → AtRow W g c (fs.take k) (av.take k)) := by
  obtain ⟨cur, hg, h1, h2, h3, h4⟩ := h
  have hz : ∀ W, (zeroValue 44).run Try.prog W = .ok (.agg #[.int .i64 0, .slice none 0 0]) W := Try.zeroValue44
  obtain ⟨zc, hzc⟩ : ∃ zc, zc = (Builtin.zeroCells #[Value.int IntKind.i64 0, Value.slice none 0 0] (fs.length - k)).toList := ⟨_, rfl⟩
  have hzl : zc.length = (fs.length - k) * 2 := by rw [hzc, Array.length_toList, size_zeroPairs]
  have hz1 : ∀ v ∈ zc, v.oneCell' = true := by
    intro v hv
    rw [hzc] at hv
    simp [Builtin.zeroCells] at hv
    obtain ⟨i, _, hi⟩ := hv
    rcases (show i % 2 = 0 ∨ i % 2 = 1 by omega) with e | e
    · rw [e] at hi
      simp at hi
      rw [← hi]
      rfl
    · rw [e] at hi
      simp at hi
      rw [← hi]
      rfl
  have hst := run_storeCells_cells (P := Try.prog) g (k * 2) zc 0 w (fun j hj => by
      rw [Blk.cell hg, Array.getElem?_eq_getElem (by omega)]
      rfl) (fun j _ => Blk.frozen hg _) hz1
  rw [Nat.add_zero] at hst
  obtain ⟨cur', g1, g2, g3, g4⟩ := setCells_heap g zc (k * 2) w cur _ hg
  refine ⟨w.setCells g (k * 2) zc, fun ty => ?_, g4, fun hl => ?_⟩
  · obtain ⟨m, hm⟩ : ∃ m, fs.length - k = m + 1 := ⟨fs.length - k - 1, by omega⟩
    rw [hm] at hzc ⊢
    simp only [Builtin.clear_]
    simp [run_underlying Try.underlying29, hz, Value.cells, ← hzc, hst]
  · have hA : AtRow w g c fs av := ⟨cur, hg, h1, h2, h3, h4⟩
    obtain ⟨_, hg', _, _, _, h4'⟩ := hA.take hl (Nat.le_of_lt hk)
    rw [hg] at hg'
    injection hg' with hg'
    injection hg' with hg' _ _
    subst hg'
    refine ⟨cur', g1, by simp; omega, h2, by rw [g2]; exact h3, ?_⟩
    rw [← h4']
    have hlk : (fs.take k).length = k := by simp; omega
    rw [hlk]
    apply List.ext_getElem?
    intro j
    rw [List.getElem?_take, List.getElem?_take]
    split
    · rw [Array.getElem?_toList, Array.getElem?_toList]
      exact g3 j (by omega)
    · rfl

end Go.Proofs.Ytcoelmhlkfignaa
/-
  slices.CompactFunc at facts by sameFact.
-/
namespace Go.Proofs.Ytcoelmhlkfignaa
open Go.RowKit Go.Sort

/-- What a call of sameFact asks, at two places of a row, in any later world. -/
theorem same_at {w0 : World} {g c : Nat} {fs : List LFact} {av : List Value} (hrow : AtRow w0 g c fs av) (hrd : RdArgs w0 g av fs) (hl : ∀ k (hk : k < fs.length), fs[k].2.length ≤ 1048576) {i j : Nat} (hi : i < fs.length) (hj : j < fs.length)
    (hi' : i < av.length) (hj' : j < av.length) (x : Later w0) :
    Calls Try.prog 48 #[.agg #[.int .i64 fs[i].1, av[i]], .agg #[.int .i64 fs[j].1, av[j]]] x.val fun e w' => e = .returned (.bool (decide (fs[i] = fs[j]))) ∧ Below x.val.heap.size x.val w' := by
  have hg := Nat.le_of_lt hrow.lt
  have h1 := ((hrd.2 i hi hi' hi).more hg).on x.2
  have h2 := ((hrd.2 j hj hj' hj).more hg).on x.2
  refine (sameFact_grow _ _ fs[i] fs[j] x.val ⟨_, rfl, h1⟩ ⟨_, rfl, h2⟩ (hl i hi) (hl j hj)).mono fun e w' ⟨he, hG⟩ => ⟨by rw [he, same_iff], hG.below⟩

theorem AtRow.cells {w : World} {g c : Nat} {fs : List LFact} {av : List Value} (h : AtRow w g c fs av) (hl : av.length = fs.length) {k : Nat} (hk : k < fs.length) (hk' : k < av.length) :
    w.cell? ⟨g, k * 2, none⟩ = some (.int .i64 fs[k].1) ∧ w.cell? ⟨g, k * 2 + 1, none⟩ = some av[k] := by
  obtain ⟨c0, c1⟩ := flat_at fs av hl k hk hk'
  exact ⟨by rw [h.cell (by omega), c0], by rw [h.cell (by omega), c1]⟩

set_option maxHeartbeats 4000000 in
set_option maxRecDepth 100000 in
theorem compactF_any (g c : Nat) (fs : List LFact) (av : List Value) (w : World) (hrow : AtRow w g c fs av) (hrd : RdArgs w g av fs) (hn : fs.length ≤ 4194304) (hl : ∀ k (hk : k < fs.length), fs[k].2.length ≤ 1048576) :
    Calls Try.prog 47 #[.slice (some ⟨g, 0, none⟩) fs.length c, .func (.func 48) #[] #[]] w fun e w' =>
      ∃ av', e = .returned (.slice (some ⟨g, 0, none⟩) (compactL fs).length c) ∧ AtRow w' g c (compactL fs) av' ∧ RdArgs w' g av' (compactL fs) ∧ Only g (g + 1) w w' := by
  have hlc := hrow.len
  have hcm : c ≤ maxLen := by obtain ⟨_, _, _, h, _⟩ := hrow; exact h
  have hcm2 : c ≤ 9223372036854775807 := by unfold maxLen at hcm; omega
  by_cases h2 : fs.length < 2
  · have HE := Lib.hid (show compactL fs = fs by
      match fs, h2 with
      | [], _ => rfl
      | [f], _ => rfl)
    have h2I : (fs.length : Int) < 2 := by omega
    have HR := Lib.hid (And.intro hrow hrd)
    clear hrow hrd h2
    go_enter Try.func47, Try.ntmps47
    go_wp2_with (fail)
    go_ret
    rw [HE.out]
    exact ⟨av, rfl, HR.out.1, HR.out.2, Only.refl _ _ _⟩
  · have h2I : ¬ (fs.length : Int) < 2 := by omega
    have hg := hrow.lt
    have hav := hrd.1
    have HR := Lib.hid (And.intro hrow hrd)
    have HAV := Lib.hid hav
    clear hrow hrd h2 hav
    go_enter Try.func47, Try.ntmps47
    go_wp2_with (fail)
    go_loopw [5] (fun i wr => ∃ j : Nat, j + 1 ≤ fs.length ∧ i = .int .i64 ((j + 1 : Nat) : Int) ∧ compactL (fs.take (j + 1)) = fs.take (j + 1) ∧ Below w.heap.size w wr) (fun i _ => fs.length - (intOf i).toNat)
    case atStart => exact ⟨0, by omega, rfl, by
      rw [take_snoc fs 0 (by omega)]
      rfl, Below.refl _ _⟩
    case round =>
      obtain ⟨j, hj, rfl, hcp, hbe⟩ := hrel
      have hrow := HR.out.1.below hbe hg
      have hrd := HR.out.2.below hbe (Nat.le_of_lt hg)
      by_cases hlt : j + 1 < fs.length
      · have hj1 : j < fs.length := by omega
        have hja : j < av.length := by have := HAV.out; omega
        have hja1 : j + 1 < av.length := by have := HAV.out; omega
        obtain ⟨a0, a1⟩ := hrow.cells HAV.out hlt hja1
        obtain ⟨b0, b1⟩ := hrow.cells HAV.out hj1 hja
        have A0 := later_cell a0
        have A1 := later_cell a1
        have B0 := later_cell b0
        have B1 := later_cell b1
        have CS := Lib.hid (same_at hrow hrd hl hlt hj1 hja1 hja)
        have HC := Lib.hid hcp
        have HST := Lib.hid (compact_step hlt)
        have HRR := Lib.hid (And.intro hrow hrd)
        obtain ⟨va, hva⟩ : ∃ va, va = av[j + 1] := ⟨_, rfl⟩
        obtain ⟨vb, hvb⟩ : ∃ vb, vb = av[j] := ⟨_, rfl⟩
        rw [← hva] at A1 CS
        rw [← hvb] at B1 CS
        obtain ⟨Aa, ca, hfa, _⟩ := hrd.2 (j + 1) hlt hja1 hlt
        obtain ⟨Ab, cb, hfb, _⟩ := hrd.2 j hj1 hja hj1
        rw [← hva] at hfa
        rw [← hvb] at hfb
        subst hfa hfb
        clear hcp hrow hrd a0 a1 b0 b1 hva hvb
        by_cases he : fs[j + 1] = fs[j]
        · -- the first two that are the same
          have hd : decide (fs[j + 1] = fs[j]) = true := decide_eq_true he
          rw [hd] at CS
          have HE := Lib.hid he
          clear he hd
          go_wp2_with (fail)
          refine wp_region_later (by kernel_rfl) (by kernel_rfl) ?_
          repeat (go_big_quiet_step ((go_at_call 48; exact later_of (CS.out _))))
          refine wpQuiet_nil ?_
          rintro _ ⟨xq, rfl⟩
          go_wp2_with (fail)
          have HLN := Lib.hid (show compactL (fs.take (j + 1 + 1)) = fs.take (j + 1) by
            rw [show j + 1 + 1 = j + 2 from rfl, HST.out, if_pos HE.out.symm, HC.out])
          have HAll := Lib.hid (show ∀ f ∈ fs, f.2.length ≤ 1048576 from fun f hf => by
            obtain ⟨q, hq, rfl⟩ := List.getElem_of_mem hf
            exact hl q hq)
          clear A0 A1 B0 B1
          go_loopw [5, 7] (fun m k wr => ∃ (i m' : Nat) (fw : List LFact) (aw : List Value), i + 1 ≤ fs.length - (j + 1) ∧ k = .int .i64 ((i + 1 : Nat) : Int) ∧ m = .int .i64 (m' : Nat) ∧ m' ≤ j + 1 + i ∧ fw.length = fs.length ∧ fw.take m' = compactL (fs.take (j + 1 + i + 1)) ∧ m' = (compactL (fs.take (j + 1 + i + 1))).length ∧ fw.drop (j + 1 + i) = fs.drop (j + 1 + i) ∧
              (∀ f ∈ fw, f.2.length ≤ 1048576) ∧ AtRow wr g c fw aw ∧ RdArgs wr g aw fw ∧ Only g (g + 1) w wr) (fun _ k _ => fs.length - (intOf k).toNat)
          case atStart =>
            exact ⟨0, j + 1, fs, av, by omega, rfl, rfl, by omega, rfl, HLN.out.symm, by rw [HLN.out, List.length_take]; omega, rfl, HAll.out, HRR.out.1.keep (xq.2.block g (Nat.lt_of_lt_of_le hg hbe.size)), HRR.out.2.below xq.2 (Nat.le_trans (Nat.le_of_lt hg) hbe.size), (Only.of_below hbe).trans (Only.of_below xq.2)⟩
          case round =>
            obtain ⟨i, m, fw, aw, hi, rfl, rfl, hm, hfl, htk, hml, hdr, hal, hrow, hrd, hon⟩ := hrel
            have hgr := hrow.lt
            have haw := hrd.1
            by_cases hlt2 : i + 1 < fs.length - (j + 1)
            · have hq1 : j + 1 + i + 1 < fs.length := by omega
              have hq0 : j + 1 + i < fs.length := by omega
              have hq1f : j + 1 + i + 1 < fw.length := by omega
              have hq0f : j + 1 + i < fw.length := by omega
              have hq1a : j + 1 + i + 1 < aw.length := by omega
              have hq0a : j + 1 + i < aw.length := by omega
              have hma : m < aw.length := by omega
              have hmf : m < fw.length := by omega
              have e0 : fw[j + 1 + i] = fs[j + 1 + i] := by
                have h1 := congrArg (fun l => l[0]?) hdr
                simpa [hq0, hq0f] using h1
              have e1 : fw[j + 1 + i + 1] = fs[j + 1 + i + 1] := by
                have h1 := congrArg (fun l => l[1]?) hdr
                simpa [hq1, hq1f] using h1
              obtain ⟨a0, a1⟩ := hrow.cells haw hq1f hq1a
              obtain ⟨b0, b1⟩ := hrow.cells haw hq0f hq0a
              obtain ⟨d0, d1⟩ := hrow.cells haw hmf hma
              rw [show (j + 1 + i + 1) * 2 = (j + 1) * 2 + (i + 1) * 2 by omega] at a0 a1
              rw [show (j + 1 + i) * 2 = (j + 1) * 2 + i * 2 by omega] at b0 b1
              have CS2 := Lib.hid (same_at hrow hrd (fun k hk => hal _ (List.getElem_mem hk)) hq1f hq0f hq1a hq0a)
              have HST2 := Lib.hid (compact_step hq1)
              obtain ⟨va, hva⟩ : ∃ va, va = aw[j + 1 + i + 1] := ⟨_, rfl⟩
              obtain ⟨vb, hvb⟩ : ∃ vb, vb = aw[j + 1 + i] := ⟨_, rfl⟩
              obtain ⟨Aa, ca, hfa, hfx⟩ := hrd.2 (j + 1 + i + 1) hq1f hq1a hq1f
              obtain ⟨Ab, cb, hfb, _⟩ := hrd.2 (j + 1 + i) hq0f hq0a hq0f
              have RA := hrd.2 (j + 1 + i + 1) hq1f hq1a hq1f
              rw [← hva] at a1 CS2 hfa RA
              rw [← hvb] at b1 CS2 hfb
              subst hfa hfb
              rw [e1] at a0 a1 CS2 RA
              rw [e0] at b0 b1 CS2
              have A0 := later_cell a0
              have A1 := later_cell a1
              have B0 := later_cell b0
              have B1 := later_cell b1
              have HQ := Lib.hid (And.intro hrow (And.intro hrd (And.intro hon (And.intro htk (And.intro hml (And.intro hdr RA))))))
              have HAL := Lib.hid hal
              have HF := Lib.hid (And.intro hfl haw)
              clear hva hvb a0 a1 b0 b1 e0 e1 hrow hrd hon htk hml hdr RA hal hfx
              by_cases he2 : fs[j + 1 + i + 1] = fs[j + 1 + i]
              · have hd2 : decide (fs[j + 1 + i + 1] = fs[j + 1 + i]) = true := decide_eq_true he2
                rw [hd2] at CS2
                have HN := Lib.hid (show compactL (fs.take (j + 1 + (i + 1) + 1)) = compactL (fs.take (j + 1 + i + 1)) by
                  rw [show j + 1 + (i + 1) + 1 = j + 1 + i + 2 by omega, HST2.out, if_pos he2.symm])
                clear he2 hd2 d0 d1
                go_wp2_with (fail)
                refine wp_region_later (by kernel_rfl) (by kernel_rfl) ?_
                repeat (go_big_quiet_step ((go_at_call 48; exact later_of (CS2.out _))))
                refine wpQuiet_nil ?_
                rintro _ ⟨xr, rfl⟩
                go_wp2_with (fail)
                go_roundw
                case rel =>
                  obtain ⟨h1, h2, h3, h4, h5, h6, h7⟩ := HQ.out
                  refine ⟨i + 1, m, fw, aw, by omega, by go_num, rfl, by omega, HF.out.1, by rw [HN.out]; exact h4, by rw [HN.out]; exact h5, ?_, HAL.out, h1.keep (xr.2.block g hgr), h2.below xr.2 (Nat.le_of_lt hgr), h3.trans (Only.of_below xr.2)⟩
                  have := congrArg (List.drop 1) h6
                  rwa [List.drop_drop, List.drop_drop] at this
                case measure => simp [intOf]; omega
              · have hd2 : decide (fs[j + 1 + i + 1] = fs[j + 1 + i]) = false := decide_eq_false he2
                rw [hd2] at CS2
                have HN := Lib.hid (show compactL (fs.take (j + 1 + (i + 1) + 1)) = compactL (fs.take (j + 1 + i + 1)) ++ [fs[j + 1 + i + 1]] by
                  rw [show j + 1 + (i + 1) + 1 = j + 1 + i + 2 by omega, HST2.out, if_neg (fun e => he2 e.symm)])
                clear he2 hd2
                go_wp2_with (fail)
                refine wp_region_later (by kernel_rfl) (by kernel_rfl) ?_
                repeat (go_big_quiet_step ((go_at_call 48; exact later_of (CS2.out _))))
                refine wpQuiet_nil ?_
                rintro _ ⟨xr, rfl⟩
                have D0 := later_cell d0 xr
                have D1 := later_cell d1 xr
                have hrx := HQ.out.1.keep (xr.2.block g hgr)
                have F0 := hrx.frozen (m * 2)
                have F1 := hrx.frozen (m * 2 + 1)
                have hset := hrx.set HF.out.2 hmf fs[j + 1 + i + 1] (.slice Aa fs[j + 1 + i + 1].2.length ca)
                have HSET := Lib.hid hset
                have hbx := xr.2
                obtain ⟨Vd, hVd⟩ : ∃ Vd, Vd = aw[m] := ⟨_, rfl⟩
                rw [← hVd] at D1
                clear hset hrx d0 d1 hVd
                go_wp2_with (fail)
                go_roundw
                case rel =>
                  obtain ⟨h1, h2, h3, h4, h5, h6, h7⟩ := HQ.out
                  have o1 : Only g (g + 1) xr.val ((xr.val.setCell ⟨g, m * 2, none⟩ (.int .i64 fs[j + 1 + i + 1].1)).setCell ⟨g, m * 2 + 1, none⟩ (.slice Aa fs[j + 1 + i + 1].2.length ca)) :=
                    Only.setCell (p := ⟨g, m * 2 + 1, none⟩) (Only.setCell (p := ⟨g, m * 2, none⟩) (Only.refl g (g + 1) xr.val) ⟨Nat.le_refl g, Nat.lt_succ_self g⟩ _) ⟨Nat.le_refl g, Nat.lt_succ_self g⟩ _
                  have o2 := (h3.trans (Only.of_below xr.2)).trans o1
                  refine ⟨i + 1, m + 1, fw.set m fs[j + 1 + i + 1], aw.set m (.slice Aa fs[j + 1 + i + 1].2.length ca), by omega, by go_num, by go_num, by omega, by rw [List.length_set]; exact HF.out.1, ?_, ?_, ?_, ?_, HSET.out, ?_, o2⟩
                  · rw [HN.out, ← h4, List.take_set, take_snoc fw m hmf, List.set_append_right _ _ (by simp; omega)]
                    simp [Nat.min_eq_left (Nat.le_of_lt hmf)]
                  · rw [HN.out, List.length_append, ← h5]
                    rfl
                  · rw [List.drop_set_of_lt (by omega)]
                    have := congrArg (List.drop 1) h6
                    rwa [List.drop_drop, List.drop_drop] at this
                  · intro f hf
                    rcases List.mem_or_eq_of_mem_set hf with hf | rfl
                    · exact HAL.out f hf
                    · exact hl _ hq1
                  · have hbw : Below g wr ((xr.val.setCell ⟨g, m * 2, none⟩ (.int .i64 fs[j + 1 + i + 1].1)).setCell ⟨g, m * 2 + 1, none⟩ (.slice Aa fs[j + 1 + i + 1].2.length ca)) := ((Only.of_below xr.2).trans o1).below (Nat.le_refl _) (Nat.le_of_lt hgr)
                    have h2b := h2.below hbw (Nat.le_refl _)
                    refine ⟨by simp [h2.1], fun q q1 q2 q3 => ?_⟩
                    by_cases eq : m = q
                    · subst eq
                      simpa using h7.below hbw (Nat.le_refl _)
                    · have := h2b.2 q (by simpa using q1) (by simpa using q2) (by simpa using q3)
                      simpa [List.getElem_set_ne eq] using this
                case measure => simp [intOf]; omega
            · have hn1 : j + 1 + i + 1 = fs.length := by omega
              have hmn : m < fw.length := by omega
              obtain ⟨WC, hcl, hoc, hac⟩ := run_clear_facts hrow hmn (c - m)
              rw [hfl] at hcl
              have HX := Lib.hid (show fw.take m = compactL fs ∧ m = (compactL fs).length by
                rw [hn1, List.take_length] at htk hml
                exact ⟨htk, hml⟩)
              have HQ := Lib.hid (And.intro (hac haw) (And.intro hrd (And.intro (hon.trans hoc) (hoc.below (Nat.le_refl _) (Nat.le_of_lt hgr)))))
              have hmn2 : m ≤ fs.length := by omega
              have hmc : m ≤ c := by omega
              clear hrow hrd hon htk hml hdr hal hoc hac
              go_wp2_with (simp only [hcl])
              go_ret
              obtain ⟨h1, h2, h3, h4⟩ := HQ.out
              rw [← HX.out.1] at *
              refine ⟨aw.take m, ?_, h1, ?_, h3⟩
              · congr 2
                simp
                omega
              · have h2b := h2.below h4 (Nat.le_refl _)
                refine ⟨by simp [h2.1], fun q q1 q2 q3 => ?_⟩
                simp at q1 q2 q3
                have := h2b.2 q (by omega) (by omega) (by omega)
                simpa using this
        · have hd : decide (fs[j + 1] = fs[j]) = false := decide_eq_false he
          rw [hd] at CS
          have HN := Lib.hid (show compactL (fs.take (j + 1 + 1)) = fs.take (j + 1 + 1) by
            rw [show j + 1 + 1 = j + 2 from rfl, HST.out, if_neg (fun e => he e.symm), HC.out, ← take_snoc fs (j + 1) hlt])
          clear he hd
          go_wp2_with (fail)
          refine wp_region_later (by kernel_rfl) (by kernel_rfl) ?_
          repeat (go_big_quiet_step ((go_at_call 48; exact later_of (CS.out _))))
          refine wpQuiet_nil ?_
          rintro _ ⟨xq, rfl⟩
          go_wp2_with (fail)
          go_roundw
          case rel => exact ⟨j + 1, by omega, by go_num, HN.out, bthen hbe xq.2⟩
          case measure => simp [intOf]; omega
      · have HE := Lib.hid (show compactL fs = fs by
          have e : fs.take (j + 1) = fs := by rw [show j + 1 = fs.length by omega, List.take_length]
          rw [e] at hcp
          exact hcp)
        have HRR := Lib.hid (And.intro hrow hrd)
        clear hcp hrow hrd
        go_wp2_with (fail)
        go_ret
        rw [HE.out]
        exact ⟨av, rfl, HRR.out.1, HRR.out.2, Only.of_below hbe⟩

end Go.Proofs.Ytcoelmhlkfignaa
