/-
  Texts that the claim's last one imports, laid together: part 3 of 15. No condition of its own.
-/
import Derived.Deep.RegionHeld3
import Derived.Laws.BitsAllLaws
import Derived.StillTailTactics
import Derived.Deep.QuietTactic
import Derived.BigQuiet
import Derived.Test.YtmnolnmpglanfaaGreatDoorMMb1
import Derived.Test.YtmnolnmpglanfaaGreatDoorMMb2
namespace Go.Proofs.YtmnolnmpglanfaaGreatDoor
open Go.RowKit
def markF : Int -> List LFact -> List LFact
 | _, [] => []
 | k, f :: fs => (k, seqI (k + 1) f.2.length) :: markF (k + 1 + (f.2.length : Int)) fs
def endF (k : Int) (fs : List LFact) : Int := k + (fs.length : Int) + (tot fs : Int)
theorem tot_cons (f : LFact) (fs : List LFact) : tot (f :: fs) = f.2.length + tot fs := by simp [tot]
theorem tot_append (xs ys : List LFact) : tot (xs ++ ys) = tot xs + tot ys := by simp [tot]
theorem markF_length : ∀ (k : Int) (fs : List LFact), (markF k fs).length = fs.length
 | _, [] => rfl
 | k, f :: fs => by simp [markF, markF_length _ fs]
theorem markF_snoc : ∀ (k : Int) (fs : List LFact) (f : LFact), markF k (fs ++ [f]) = markF k fs ++ [(endF k fs, seqI (endF k fs + 1) f.2.length)]
 | k, [], f => by simp [markF, endF, tot]
 | k, g :: fs, f => by
  have h := markF_snoc (k + 1 + (g.2.length : Int)) fs f
  have e : endF (k + 1 + (g.2.length : Int)) fs = endF k (g :: fs) := by simp [endF, tot_cons]; omega
  rw [e] at h
  simp [markF, h]
def markedF (fs : List LFact) (k : Int) (j : Nat) : List LFact := markF k (fs.take j) ++ fs.drop j
theorem markedF_length {fs : List LFact} {k : Int} {j : Nat} (h : j <= fs.length) : (markedF fs k j).length = fs.length := by simp [markedF, markF_length]; omega
theorem markedF_at {fs : List LFact} {k : Int} {j : Nat} (h : j < fs.length) (h' : j < (markedF fs k j).length) : (markedF fs k j)[j] = fs[j] := by
 have hl : (markF k (fs.take j)).length = j := by rw [markF_length]; simp; omega
 have e : (markedF fs k j)[j]? = some fs[j] := by
  unfold markedF
  rw [List.getElem?_append_right (by omega), hl]
  simp [h]
 rw [List.getElem?_eq_getElem h'] at e
 exact Option.some.inj e
theorem markedF_step {fs : List LFact} {k : Int} {j : Nat} (h : j < fs.length) : (markedF fs k j).set j (endF k (fs.take j), seqI (endF k (fs.take j) + 1) fs[j].2.length) = markedF fs k (j + 1) := by
 have hl : (markF k (fs.take j)).length = j := by rw [markF_length]; simp; omega
 unfold markedF
 rw [List.drop_eq_getElem_cons h, List.set_append_right _ _ (by omega), hl, Nat.sub_self, List.set_cons_zero, take_snoc fs j h, markF_snoc]
 simp
theorem markedF_zero (fs : List LFact) (k : Int) : markedF fs k 0 = fs := by simp [markedF, markF]
theorem markedF_all (fs : List LFact) (k : Int) : markedF fs k fs.length = markF k fs := by simp [markedF]
theorem markF_at {fs : List LFact} {k : Int} {j : Nat} (h : j < fs.length) (h' : j < (markF k fs).length) : (markF k fs)[j] = (endF k (fs.take j), seqI (endF k (fs.take j) + 1) fs[j].2.length) := by
 have e : fs = fs.take (j + 1) ++ fs.drop (j + 1) := (List.take_append_drop _ _).symm
 have hl : (markF k (fs.take j)).length = j := by rw [markF_length]; simp; omega
 have hp : ∀ (xs ys : List LFact) (k : Int), ∃ zs, markF k (xs ++ ys) = markF k xs ++ zs := by
  intro xs
  induction xs with
  | nil => intro ys k; exact ⟨_, rfl⟩
  | cons x xs ih =>
   intro ys k
   obtain ⟨zs, hz⟩ := ih ys (k + 1 + (x.2.length : Int))
   exact ⟨zs, by simp [markF, hz]⟩
 obtain ⟨zs, hz⟩ := hp (fs.take (j + 1)) (fs.drop (j + 1)) k
 rw [<- e, take_snoc fs j h, markF_snoc] at hz
 have : (markF k fs)[j]? = some (endF k (fs.take j), seqI (endF k (fs.take j) + 1) fs[j].2.length) := by
  rw [hz, List.append_assoc, List.getElem?_append_right (by omega), hl]
  simp
 rw [List.getElem?_eq_getElem h'] at this
 exact Option.some.inj this
theorem endF_zero (k : Int) (fs : List LFact) : endF k (fs.take 0) = k := by simp [endF, tot]
theorem endF_step {fs : List LFact} {k : Int} {j : Nat} (h : j < fs.length) : endF k (fs.take (j + 1)) = endF k (fs.take j) + 1 + (fs[j].2.length : Int) := by
 have := tot_take fs j h
 simp only [endF, List.length_take, this]
 omega
theorem tot_take_le (fs : List LFact) (j : Nat) : tot (fs.take j) <= tot fs := by
 have := tot_append (fs.take j) (fs.drop j)
 rw [List.take_append_drop] at this
 omega
structure OwnFA (w : World) (lo hi : Nat) (v : Value) (fs : List LFact) (av : List Value) : Prop where
 args : OwnArgs w lo hi av (fs.map (·.2))
 row : w.ownsRow lo 66 2 v fs.length (flat fs av)
 lt : ∀ g, v.ownBlock = some g -> g < hi
theorem OwnFA.own {w : World} {lo hi : Nat} {v : Value} {fs : List LFact} {av : List Value} (h : OwnFA w lo hi v fs av) : OwnFacts w lo hi v fs := ⟨av, h.args, h.row, h.lt⟩
theorem flat_set : ∀ (fs : List LFact) (av : List Value) (j : Nat) (f : LFact), av.length = fs.length -> flat (fs.set j f) av = (flat fs av).set (j * 2) (.int .i64 f.1)
 | [], [], _, _, _ => rfl
 | [], a :: av, _, _, h => by simp at h
 | g :: fs, [], _, _, h => by simp at h
 | g :: fs, a :: av, 0, f, _ => by simp [flat]
 | g :: fs, a :: av, j + 1, f, h => by
  have := flat_set fs av j f (by simpa using h)
  simp [flat, Nat.add_mul, this]
theorem types_ne {w : World} {lo hi lo' g : Nat} {n : Nat} {v a : Value} {zs : List Value} {xs : List Int} (hr : w.ownsRow lo' 66 2 v n zs) (hv : v.ownBlock = some g) (ha : OwnInts w lo hi a xs) : a.ownBlock ≠ some g := by
 rcases hr.2 with ⟨rfl, _⟩ | ⟨g1, c1, cur1, rfl, _, h1, _⟩
 ·cases hv
 ·have e : g1 = g := by simpa [Value.ownBlock] using hv
  subst e
  rcases ha.1.2 with ⟨rfl, _⟩ | ⟨g2, c2, cur2, rfl, _, h2, _⟩
  ·simp [Value.ownBlock]
  ·intro e
   have e : g2 = g1 := by simpa [Value.ownBlock] using e
   subst e
   rw [h1] at h2
   injection h2 with h2
   injection h2 with _ h2
   exact absurd h2 (by decide)
theorem OwnFA.step {w w3 : World} {lo hi g j c : Nat} {fs : List LFact} {av : List Value} {p : Int} {ys : List Int} (h : OwnFA w lo hi (.slice (some ⟨g, 0, none⟩) fs.length c) fs av) (hj : j < fs.length) (hja : j < av.length)
 (hI : OwnInts w3 lo hi av[j] ys) (hg : (w.setCell ⟨g, j * 2, none⟩ (.int .i64 p)).grownBy w3 av[j].ownBlock) : OwnFA w3 lo hi (.slice (some ⟨g, 0, none⟩) fs.length c) (fs.set j (p, ys)) av := by
 obtain ⟨ha, hr, hlt⟩ := h
 have hlen : av.length = fs.length := by simpa using ha.len
 have hapart : ∀ i i' (hi' : i < av.length) (hi'' : i' < av.length), i ≠ i' -> ∀ b, av[i].ownBlock = some b -> av[i'].ownBlock ≠ some b := by
  intro i i' h1 h2 hne b hb hb'
  have hp := List.pairwise_iff_getElem.1 ha.apart
  rcases Nat.lt_or_gt_of_ne hne with hl | hl
  ·exact hp i i' h1 h2 hl b hb hb'
  ·exact hp i' i h2 h1 hl b hb' hb
 have hown : ∀ i (h1 : i < (fs.map (·.2)).length) (h2 : i < av.length), OwnInts w lo hi av[i] (fs.map (·.2))[i] := ha.own
 refine ⟨⟨by simp [hlen], fun i h1 h2 => ?_, ha.apart⟩, ?_, hlt⟩
 ·by_cases e : i = j
  ·subst e
   simpa using hI
  ·have h0 := hown i (by simpa using h1) h2
   have hz : ((fs.set j (p, ys)).map (·.2))[i] = (fs.map (·.2))[i]'(by simpa using h1) := by
    simp [Ne.symm e]
   rw [hz]
   refine h0.kept fun b hb => ?_
   have hbg := types_ne hr rfl h0
   have hne : b ≠ g := fun e => hbg (by rw [hb, e])
   have hbl := h0.lt hb
   rw [hg.block b (by simpa using hbl.2.2) (fun e2 => hapart i j h2 hja e b hb e2.symm)]
   exact Below.heap_setCell _ _ _ _ hne
 ·obtain ⟨hfl, hr2⟩ := hr
  have hgj := types_ne ⟨hfl, hr2⟩ rfl (hown j (by simpa using hj) hja)
  rcases hr2 with ⟨e, _⟩ | ⟨g', cap, cur, e, hbg, hgg, hn, hm, hs, ht⟩
  ·cases e
  ·injection e with e1 e2 e3
   injection e1 with e1
   injection e1 with e1 _ _
   subst e1
   subst e3
   have hgs := (Array.getElem?_eq_some_iff.1 hgg).1
   refine ⟨by rw [flat_set _ _ _ _ hlen]; simpa using hfl, .inr ⟨g, c, cur.setIfInBounds (j * 2) (.int .i64 p), by simp, hbg, ?_, by simpa using hn, hm, by simpa using hs, ?_⟩⟩
   ·rw [hg.block g (by simpa using hgs) (fun e2 => hgj e2.symm)]
    simp [World.setCell, Array.getElem?_modify, hgg]
   ·rw [flat_set _ _ _ _ hlen, List.length_set, Array.toList_setIfInBounds, List.take_set, ht]
theorem OwnFA.form {w : World} {lo hi : Nat} {v : Value} {fs : List LFact} {av : List Value} (h : OwnFA w lo hi v fs av) : ∃ A c, v = .slice A fs.length c /\ (0 < fs.length -> ∃ g, A = some ⟨g, 0, none⟩ /\ lo <= g /\ g < hi) := by
 rcases h.row.2 with ⟨rfl, h0⟩ | ⟨g, cap, _, rfl, hb, _⟩
 ·exact ⟨none, 0, by rw [h0], fun hn => by omega⟩
 ·exact ⟨_, _, rfl, fun _ => ⟨g, rfl, hb, h.lt g rfl⟩⟩
theorem OwnFacts.form {w : World} {lo hi : Nat} {v : Value} {fs : List LFact} (h : OwnFacts w lo hi v fs) : ∃ A c, v = .slice A fs.length c := by
 obtain ⟨av, h1, h2, h3⟩ := h
 obtain ⟨A, c, e, _⟩ := (OwnFA.mk h1 h2 h3).form
 exact ⟨A, c, e⟩
theorem OwnFA.get {w : World} {lo hi g c j : Nat} {fs : List LFact} {av : List Value} (h : OwnFA w lo hi (.slice (some ⟨g, 0, none⟩) fs.length c) fs av) (hj : j < fs.length) (hja : j < av.length) :
 w.cell? ⟨g, j * 2, none⟩ = some (.int .i64 fs[j].1) /\ w.frozen? ⟨g, j * 2, none⟩ = false /\ w.cell? ⟨g, j * 2 + 1, none⟩ = some av[j] := by
 have hl : av.length = fs.length := by simpa using h.args.len
 have hcells := @World.ownsRow.cells w lo 66 2 _ fs.length (flat fs av) h.row g rfl
 have h1 := hcells _ _ (flat_at fs av hl j hj hja).1
 have h2 := hcells _ _ (flat_at fs av hl j hj hja).2
 rw [Go.WideShapes.add_plain, Nat.zero_add] at h1 h2
 refine ⟨h1, ?_, h2⟩
 rcases h.row.2 with ⟨e, _⟩ | ⟨g', cap, cur, e, _, hgg, _⟩
 ·cases e
 ·injection e with e1 _ _
  injection e1 with e1
  injection e1 with e1 _ _
  subst e1
  simp [World.frozen?, hgg]
set_option maxHeartbeats 1000000 in
set_option maxRecDepth 100000 in
theorem markFactS_any (v : Value) (fs : List LFact) (k : Int) (lo hi : Nat) (w : World) (h : OwnFacts w lo hi v fs) (hk0 : 0 <= k) (hk : k <= 4294967296) (hn : fs.length <= 1073741824) (ht : tot fs <= 1073741824) :
 Calls Tryz.prog 21 #[v, .int .i64 k] w fun e w' => e = .returned (.int .i64 (endF k fs)) /\ OwnFacts w' lo hi v (markF k fs) /\ Only lo hi w w' := by
 obtain ⟨av, h1, h2, h3⟩ := h
 have h : OwnFA w lo hi v fs av := ⟨h1, h2, h3⟩
 clear h1 h2 h3
 obtain ⟨A, c, hv, hform⟩ := h.form
 subst hv
 have hla : av.length = fs.length := by simpa using h.args.len
 have HLA := Lib.hid hla
 clear hla
 have H := Lib.hid h
 clear h
 go_enter Tryz.func21, Tryz.ntmps21
 go_wp2_with (fail)
 go_loopw [1, 5] (fun m i wr => ∃ (j : Nat) (q : Int), j <= fs.length /\ i = .int .i64 j /\ m = .int .i64 q /\ q = endF k (fs.take j) /\ OwnFA wr lo hi (.slice A fs.length c) (markedF fs k j) av /\ Only lo hi w wr) (fun _ i _ => fs.length - (intOf i).toNat)
 case atStart => exact ⟨0, k, Nat.zero_le _, rfl, rfl, by rw [endF_zero], by rw [markedF_zero]; exact H.out, Only.refl _ _ _⟩
 case round =>
  obtain ⟨j, q, hj, rfl, rfl, hq, ho, hon⟩ := hrel
  by_cases hlt : j < fs.length
  ·obtain ⟨g, rfl, hg1, hg2⟩ := hform (by omega)
   have hml := markedF_length (k := k) (Nat.le_of_lt hlt)
   have hja : j < av.length := by rw [HLA.out]; exact hlt
   have ho' : OwnFA wr lo hi (.slice (some ⟨g, 0, none⟩) (markedF fs k j).length c) (markedF fs k j) av := by rw [hml]; exact ho
   obtain ⟨c1, f1, c2⟩ := ho'.get (j := j) (by omega) hja
   have hI0 := ho.args.own j (by rw [List.length_map]; omega) hja
   have hat := markedF_at (k := k) hlt (by omega)
   rw [List.getElem_map, hat] at hI0
   rw [hat] at c1
   obtain ⟨A3, c3, hav⟩ := hI0.form
   rw [hav] at c2
   have hI1 := hI0.kept (w' := wr.setCell ⟨g, j * 2, none⟩ (.int .i64 q)) (fun b hb => Below.heap_setCell _ _ _ _ (fun e => types_ne ho'.row rfl hI0 (by rw [hb, e])))
   rw [hav] at hI1
   have hqb : 0 <= q /\ q <= 8589934592 := by
    have h1 := tot_take_le fs j
    have h2 : (fs.take j).length <= fs.length := by rw [List.length_take]; omega
    subst hq
    simp only [endF] at *
    omega
   obtain ⟨hq0, hq1⟩ := hqb
   have hln := len_le_tot fs j hlt
   have HI := Lib.hid hI1
   have HO := Lib.hid (And.intro ho' (And.intro hml (And.intro hav hq)))
   clear hI0 hI1 ho ho' hml hat hq
   go_wp2_with (fail)
   refine (markIntS_any _ fs[j].2 (q + 1) lo hi _ HI.out (by omega) (by omega)).mono ?_
   rintro e w3 ⟨rfl, ho3, hg3⟩
   obtain ⟨hOF, hml, hav, hq⟩ := HO.out
   have hst := hOF.step (j := j) (by omega) hja (by rw [hav]; exact ho3) (by rw [hav]; exact hg3)
   rw [hml, hq, markedF_step hlt] at hst
   have hE := endF_step (k := k) hlt
   have hon3 : Only lo hi w w3 := (hon.setCell (p := ⟨g, j * 2, none⟩) ⟨hg1, hg2⟩ _).trans (Only.of_grown hg3 (fun b hb => by have := HI.out.lt hb; omega))
   have HS := Lib.hid (And.intro hst (show q + 1 + (fs[j].2.length : Int) = endF k (fs.take (j + 1)) by rw [hE, hq]))
   clear hst hOF hml hav hq hE
   go_wp2_with (fail)
   go_roundw
   case rel => exact ⟨j + 1, _, by omega, by go_num, rfl, HS.out.2, HS.out.1, hon3⟩
   case measure => simp [intOf]; omega
  ·have hkn : j = fs.length := by omega
   have HO := Lib.hid (show OwnFacts wr lo hi (.slice A fs.length c) (markF k fs) by rw [<- markedF_all, <- hkn]; rw [<- hkn] at ho; exact ho.own)
   have HK := Lib.hid (show q = endF k fs by rw [hq, hkn, List.take_length])
   clear hkn ho hq
   go_wp2_with (fail)
   go_ret
   exact ⟨ret_int HK.out, HO.out, hon⟩
theorem endF_bound {fs : List LFact} {k : Int} (j : Nat) (hk0 : 0 <= k) (hk : k <= 4294967296) (hn : fs.length <= 1073741824) (ht : tot fs <= 1073741824) : 0 <= endF k (fs.take j) /\ endF k (fs.take j) <= 8589934592 := by
 have h1 := tot_take_le fs j
 have h2 : (fs.take j).length <= fs.length := by rw [List.length_take]; omega
 simp only [endF]
 omega
set_option maxHeartbeats 1000000 in
set_option maxRecDepth 100000 in
theorem heldFactS_any (v : Value) (fs : List LFact) (k : Int) (w : World) (h : RdFacts w w.heap.size v (markF k fs)) (hk0 : 0 <= k) (hk : k <= 4294967296) (hn : fs.length <= 1073741824) (ht : tot fs <= 1073741824) :
 Calls Tryz.prog 22 #[v, .int .i64 k] w fun e w' => e = .returned (.int .i64 (endF k fs)) /\ w = w' := by
 obtain ⟨A, c, rfl, hc, hcell⟩ := h
 rw [markF_length] at hc ⊢
 go_enter Tryz.func22, Tryz.ntmps22
 go_wp2_with (fail)
 go_loop [1, 5] (fun m i => ∃ (j : Nat) (q : Int), j <= fs.length /\ i = .int .i64 j /\ m = .int .i64 q /\ q = endF k (fs.take j)) (fun _ i => fs.length - (intOf i).toNat)
 case atStart => exact ⟨0, k, Nat.zero_le _, rfl, rfl, by rw [endF_zero]⟩
 case round =>
  obtain ⟨j, q, hj, rfl, rfl, hq⟩ := hrel
  by_cases hlt : j < fs.length
  ·obtain ⟨b, o, rfl, hbB, hx⟩ := hcell (by rw [markF_length]; omega)
   have hlm : j < (markF k fs).length := by rw [markF_length]; exact hlt
   obtain ⟨a, p1, p2, p3⟩ := hx j hlm
   rw [markF_at hlt hlm, <- hq] at p1 p3
   have h4 := p3
   obtain ⟨A3, c3, rfl, hc3, _⟩ := p3
   have h5 := (h4.more (Nat.le_refl _) : RdInts w w.heap.size _ (seqI (q + 1) fs[j].2.length))
   rw [seqI_length] at h5 p2
   have HR := Lib.hid h5
   have hqq := endF_bound (k := k) j hk0 hk hn ht
   rw [<- hq] at hqq
   obtain ⟨hq0, hq1⟩ := hqq
   have hln := len_le_tot fs j hlt
   have hne : (q != q) = false := by simp
   have HE := Lib.hid (show q + 1 + (fs[j].2.length : Int) = endF k (fs.take (j + 1)) by rw [endF_step hlt, hq])
   clear hx hcell h4 h5 hq hc3 hlm
   go_wp2_with (fail)
   refine (heldIntS_any _ fs[j].2.length (q + 1) _ HR.out (by omega) (by omega)).mono ?_
   rintro e w3 ⟨rfl, rfl⟩
   have hneg : ¬ q + 1 + (fs[j].2.length : Int) < 0 := by omega
   go_wp2_with (fail)
   go_round
   case rel => exact ⟨j + 1, _, by omega, by go_num, rfl, HE.out⟩
   case measure => simp [intOf]; omega
  ·have hkn : j = fs.length := by omega
   have HK := Lib.hid (show q = endF k fs by rw [hq, hkn, List.take_length])
   clear hkn hq hcell
   go_wp2_with (fail)
   go_ret
   exact ⟨ret_int HK.out, rfl⟩
open Go.RowKit
theorem Only.blk {lo hi : Nat} {w w' : World} (h : Only lo hi w w') {g : Nat} {t : TypeId} {cs : Array Value} (hb : Blk w g t cs) (hg : g < lo \/ hi <= g) : Blk w' g t cs := (h.block g hb.lt hg).trans hb
open Go.RowKit
structure CpRel (w wr : World) (f : LFact) (A : Option Addr) (c k : Nat) (A' : Option Addr) (c' : Nat) : Prop where
 below : Below w.heap.size w wr
 src : Blk wr w.heap.size 66 #[.int .i64 f.1, .slice A f.2.length c]
 res : Blk wr (w.heap.size + 1) 66 #[.int .i64 0, .slice none 0 0]
 out : Blk wr (w.heap.size + 2) 66 #[.int .i64 f.1, .slice A' k c']
 own : wr.ownsRow (w.heap.size + 3) 3 1 (.slice A' k c') k ((f.2.take k).map (Value.int .i64))
theorem blk_ne_row {w : World} {base n size g : Nat} {e t : TypeId} {v : Value} {xs : List Value} {cs : Array Value} (h : w.ownsRow base e size v n xs) (hb : Blk w g t cs) (hne : e ≠ t) : v.ownBlock ≠ some g := by
 rcases h.2 with ⟨rfl, _⟩ | ⟨g', cap, cur, rfl, _, hh, _⟩
 ·simp [Value.ownBlock]
 ·intro he
  have : g' = g := by simpa [Value.ownBlock] using he
  subst this
  unfold Blk at hb
  rw [hh] at hb
  injection hb with hb
  injection hb with _ hb
  exact hne hb
theorem grown_from_alloc_drew {w w' : World} {o : Obj} {row : Option Nat} (hg : ((w.alloc o).drew).grownBy w' row) : w.grownBy w' row :=
 ⟨hg.os, hg.tape, hg.output, Nat.le_trans (by show w.heap.size <= (w.alloc o).heap.size; simp) hg.size, fun i hi hne => (hg.block i (Nat.lt_of_lt_of_le hi (by show w.heap.size <= (w.alloc o).heap.size; simp)) hne).trans (Below.heap_alloc _ _ _ hi)⟩
theorem own_alloc_drew {w : World} {base size n : Nat} {e : TypeId} {v : Value} {xs : List Value} (h : w.ownsRow base e size v n xs) (o : Obj) : ((w.alloc o).drew).ownsRow base e size v n xs := h.alloc o
theorem news_alloc_drew (w : World) (x : Value) (t : TypeId) : ∀ j u, [x][j]? = some u -> ((w.alloc (.cells #[x] t)).drew).cell? ((⟨w.heap.size, 0, none⟩ : Addr).add j) = some u := cell_one_new w x t
theorem CpRel.start (w : World) (f : LFact) (A : Option Addr) (c : Nat) : CpRel w (((w.alloc (Obj.cells #[Value.int IntKind.i64 f.1, Value.slice A f.2.length c] 66)).alloc (Obj.cells #[Value.int IntKind.i64 0, Value.slice none 0 0] 66)).alloc (Obj.cells #[Value.int IntKind.i64 f.1, Value.slice none 0 0] 66)) f A c 0 none 0 :=
 ⟨below3 _ _ _ _, ((Blk.new w _ _).alloc _).alloc _, by simpa using (Blk.new (w.alloc (Obj.cells #[Value.int IntKind.i64 f.1, Value.slice A f.2.length c] 66)) 66 #[.int .i64 0, .slice none 0 0]).alloc (Obj.cells #[Value.int IntKind.i64 f.1, Value.slice none 0 0] 66),
   by simpa using Blk.new ((w.alloc (Obj.cells #[Value.int IntKind.i64 f.1, Value.slice A f.2.length c] 66)).alloc (Obj.cells #[Value.int IntKind.i64 0, Value.slice none 0 0] 66)) 66 #[.int .i64 f.1, .slice none 0 0],
   by simpa using World.ownsRow_nil _ _ _ _⟩
theorem CpRel.step {w wr w2 : World} {f : LFact} {A A' : Option Addr} {c k c' g cap : Nat} (hr : CpRel w wr f A c k A' c') (hlt : k < f.2.length) (hg : wr.grownBy w2 (Value.slice A' k c').ownBlock)
 (hown : w2.ownsRow (w.heap.size + 3) 3 1 (.slice (some ⟨g, 0, none⟩) (k + 1) cap) (k + 1) ((f.2.take k).map (Value.int .i64) ++ [.int .i64 f.2[k]])) :
 CpRel w (w2.setCell ⟨w.heap.size + 2, 1, none⟩ (.slice (some ⟨g, 0, none⟩) (k + 1) cap)) f A c (k + 1) (some ⟨g, 0, none⟩) cap := by
 obtain ⟨h1, h2, h3, h4, h5⟩ := hr
 have keep : ∀ {b : Nat} {cs : Array Value}, Blk wr b 66 cs -> Blk w2 b 66 cs := fun hb => (hg.block _ hb.lt (fun e => blk_ne_row h5 hb (by decide) e.symm)).trans hb
 have hs := h4.lt
 refine ⟨(h1.grown hg h1.size (fun b hb => by have := (h5.lt b hb).1; omega)).setCell (by show w.heap.size <= w.heap.size + 2; omega) _, (keep h2).far (by show w.heap.size ≠ w.heap.size + 2; omega) _, (keep h3).far (by show w.heap.size + 1 ≠ w.heap.size + 2; omega) _, (keep h4).set_ 1 _, ?_⟩
 rw [take_snoc f.2 k hlt, List.map_append]
 exact ownsRow_only hown (fun b hb => Below.heap_setCell _ _ _ _ (fun e => blk_ne_row hown (keep h4) (by decide) (by rw [hb, e])))
set_option maxHeartbeats 1000000 in
set_option maxRecDepth 100000 in
theorem l1Copy_any (v : Value) (f : LFact) (w : World) (h : RdFact w w.heap.size v f) (hn : f.2.length <= 1073741824) :
 Calls Tryz.prog 128 #[v] w fun e w' => ∃ A' c', e = .returned (.agg #[.int .i64 f.1, .slice A' f.2.length c']) /\ OwnInts w' w.heap.size w'.heap.size (.slice A' f.2.length c') f.2 /\ Below w.heap.size w w' := by
 obtain ⟨i0, hi0, hz0, hz1, hz2⟩ := info_parts Tryz.infoInt
 obtain ⟨a, rfl, h⟩ := h
 obtain ⟨A, c, rfl, hc, hcell⟩ := h
 go_enter Tryz.func128, Tryz.ntmps128
 go_wp2_with (fail)
 go_loopw [4] (fun i wr => ∃ (k : Nat) (A' : Option Addr) (c' : Nat), k <= f.2.length /\ i = .int .i64 k /\ CpRel w wr f A c k A' c') (fun i _ => f.2.length - (intOf i).toNat)
 case atStart => exact ⟨0, none, 0, Nat.zero_le _, rfl, CpRel.start w f A c⟩
 case round =>
  obtain ⟨k, A', c', hk, rfl, hr⟩ := hrel
  have q0 : wr.cell? ⟨w.heap.size, 1, none⟩ = some (.slice A f.2.length c) := hr.src.cell 1
  by_cases hlt : k < f.2.length
  ·obtain ⟨b, o, rfl, hbB, hx⟩ := hcell (by omega)
   have q1 : wr.cell? ⟨w.heap.size + 2, 1, none⟩ = some (.slice A' k c') := hr.out.cell 1
   have q2 : wr.cell? ⟨b, o + k, none⟩ = some (.int .i64 f.2[k]) := (hr.below.cell (p := ⟨b, o + k, none⟩) hbB).trans (hx k hlt)
   have hbs := hr.out.lt
   clear hx hcell
   go_wp2_with (fail)
   have hf1 := hr.out.frozen 1
   have HR := Lib.hid hr
   go_region_law (first
    | (refine step_append_lies _ rfl (.tmp 16) (.tmp 22) 22 rfl (w.heap.size + 3) 3 i0 (.int .i64 0) 1 8 Tryz.underlying22 hi0 hz0 hz1 hz2 rfl (by decide) (.slice A' k c') k ((f.2.take k).map (Value.int .i64)) rfl ?_ ⟨_, 0, none⟩ 1 1 [.int .i64 f.2[k]] rfl rfl ?_ ?_ (by omega) (by unfold maxLen; omega) (by omega) ?_ _ rfl ?_
       ·exact own_alloc_drew HR.out.own _
       ·exact news_alloc_drew wr _ _
       ·intro u hu; simp at hu; subst hu; rfl
       ·simp; omega
       intro g cap w2 hown hgr hat hlt2
       have hst := HR.out.step hlt (grown_from_alloc_drew (w := wr) hgr) hown
       have hgg := grown_from_alloc_drew (w := wr) hgr
       have e1 : w2.cell? ⟨w.heap.size + 2, 1, none⟩ = some (.slice A' k c') := hgg.cell q1 (fun e => blk_ne_row HR.out.own HR.out.out (by decide) e.symm)
       have e2 : w2.frozen? ⟨w.heap.size + 2, 1, none⟩ = false := (hgg.frozen_far _ hbs (fun e => blk_ne_row HR.out.own HR.out.out (by decide) e.symm)).trans hf1
       have HS := Lib.hid hst
       clear hst hgg hown hgr hat))
   all_goals
    go_wp2_with (fail)
    go_roundw
    case rel => exact ⟨k + 1, _, _, by omega, by go_num, HS.out⟩
    case measure => simp [intOf]; omega
  ·have hkn : f.2.length = k := by omega
   subst hkn
   have c0 : wr.cell? ⟨w.heap.size + 2, 0, none⟩ = some (.int .i64 f.1) := hr.out.cell 0
   have c1 : wr.cell? ⟨w.heap.size + 2, 1, none⟩ = some (.slice A' f.2.length c') := hr.out.cell 1
   have d0 : wr.cell? ⟨w.heap.size + 1, 0, none⟩ = some (.int .i64 0) := hr.res.cell 0
   have d1 : wr.cell? ⟨w.heap.size + 1, 1, none⟩ = some (.slice none 0 0) := hr.res.cell 1
   have f0 := hr.res.frozen 0
   have f1 := hr.res.frozen 1
   have HO : OwnInts wr (w.heap.size + 3) wr.heap.size (.slice A' f.2.length c') f.2 := ⟨by have := hr.own; rwa [List.take_length] at this, fun g hg' => (hr.own.lt g hg').2⟩
   have hbe := hr.below
   clear hr hcell
   go_wp2_with (fail)
   refine bodyPost_ret (v := .agg #[.int .i64 f.1, .slice A' f.2.length c']) (by simp [results, Tryz.results128, go_sem, d0, d1]) rfl ⟨_, _, rfl, ?_, ?_⟩
   ·exact ((HO.set (.inl (by show w.heap.size + 1 < w.heap.size + 3; omega)) _).set (.inl (by show w.heap.size + 1 < w.heap.size + 3; omega)) _).mono (by omega) (by simp)
   ·exact (hbe.setCell (by show w.heap.size <= w.heap.size + 1; omega) _).setCell (by show w.heap.size <= w.heap.size + 1; omega) _
open Go.RowKit
theorem Tryz.infoIntS : (Tryz.prog.info? 22).map (fun i => (i.zero, i.size, i.bytes)) = some (some (.slice none 0 0), 1, 24) := by kernel_rfl
def RdRows (w : World) (B : Nat) (v : Value) (xss : List (List Int)) : Prop :=
 ∃ A c, v = .slice A xss.length c /\ xss.length <= c /\ (0 < xss.length -> ∃ b o, A = some ⟨b, o, none⟩ /\ b < B /\ ∀ k (h : k < xss.length), ∃ u, w.cell? ⟨b, o + k, none⟩ = some u /\ RdInts w B u xss[k])
def WkRows (w : World) (lo hi : Nat) (v : Value) (xss : List (List Int)) : Prop :=
 ∃ av : List Value, (av.length = xss.length /\ ∀ i (h : i < xss.length) (h' : i < av.length), OwnInts w lo hi av[i] xss[i]) /\ w.ownsRow lo 22 1 v xss.length av /\ ∀ g, v.ownBlock = some g -> g < hi
section
variable {w w' : World} {lo hi lo' hi' B B' : Nat} {v : Value} {xss : List (List Int)}
theorem RdRows.below (h : RdRows w B v xss) (hb : Below B' w w') (hB : B <= B') : RdRows w' B v xss := by
 obtain ⟨A, c, rfl, hc, h⟩ := h
 refine ⟨A, c, rfl, hc, fun hn => ?_⟩
 obtain ⟨b, o, rfl, hlt, hk⟩ := h hn
 refine ⟨b, o, rfl, hlt, fun k hkl => ?_⟩
 obtain ⟨u, h1, h2⟩ := hk k hkl
 exact ⟨u, (hb.cell (p := ⟨b, o + k, none⟩) (by show b < B'; omega)).trans h1, h2.below hb hB⟩
theorem RdRows.more (h : RdRows w B v xss) (hB : B <= B') : RdRows w B' v xss := by
 obtain ⟨A, c, rfl, hc, h⟩ := h
 refine ⟨A, c, rfl, hc, fun hn => ?_⟩
 obtain ⟨b, o, rfl, hlt, hk⟩ := h hn
 refine ⟨b, o, rfl, by omega, fun k hkl => ?_⟩
 obtain ⟨u, h1, h2⟩ := hk k hkl
 exact ⟨u, h1, h2.more hB⟩
theorem RdRows.on (h : RdRows w w.heap.size v xss) (hb : Below w.heap.size w w') : RdRows w' w'.heap.size v xss := (h.below hb (Nat.le_refl _)).more hb.size
theorem RdRows.get {A : Option Addr} {c : Nat} (h : RdRows w B (.slice A xss.length c) xss) {k : Nat} (hk : k < xss.length) :
 ∃ b o A2 c2, A = some ⟨b, o, none⟩ /\ b < B /\ w.cell? ⟨b, o + k, none⟩ = some (.slice A2 xss[k].length c2) /\ RdInts w B (.slice A2 xss[k].length c2) xss[k] := by
 obtain ⟨A', c', e, _, h⟩ := h
 injection e with e1 _ _
 subst e1
 obtain ⟨b, o, rfl, hb, hx⟩ := h (by omega)
 obtain ⟨u, h1, h2⟩ := hx k hk
 have h3 := h2
 obtain ⟨A2, c2, rfl, _⟩ := h2
 exact ⟨b, o, A2, c2, rfl, hb, h1, h3⟩
theorem WkRows.form (h : WkRows w lo hi v xss) : ∃ A c, v = .slice A xss.length c := by
 obtain ⟨_, _, h, _⟩ := h
 rcases h.2 with ⟨rfl, h0⟩ | ⟨g, cap, _, rfl, _⟩
 ·exact ⟨none, 0, by rw [h0]⟩
 ·exact ⟨_, _, rfl⟩
theorem WkRows.below (h : WkRows w lo hi v xss) (hb : Below B w w') (hB : hi <= B) : WkRows w' lo hi v xss := by
 obtain ⟨av, ⟨h0, h1⟩, h2, h3⟩ := h
 exact ⟨av, ⟨h0, fun i a b => (h1 i a b).below hb hB⟩, ownsRow_below h2 h3 hb hB, h3⟩
theorem WkRows.mono (h : WkRows w lo hi v xss) (h1 : lo' <= lo) (h2 : hi <= hi') : WkRows w lo' hi' v xss := by
 obtain ⟨av, ⟨h0, ha⟩, hr, hlt⟩ := h
 exact ⟨av, ⟨h0, fun i a b => (ha i a b).mono h1 h2⟩, ownsRow_mono hr h1, fun g hg => by have := hlt g hg; omega⟩
theorem WkRows.only (h : WkRows w lo hi v xss) (ho : Only lo' hi' w w') (hd : hi <= lo' \/ hi' <= lo) : WkRows w' lo hi v xss := by
 obtain ⟨av, ⟨h0, ha⟩, hr, hlt⟩ := h
 exact ⟨av, ⟨h0, fun i a b => (ha i a b).only ho hd⟩, ownsRow_only hr fun g hg => ho.block g (hr.lt g hg).2 (by have := hr.lt g hg; have := hlt g hg; omega), hlt⟩
theorem WkRows.rd (h : WkRows w lo hi v xss) : RdRows w hi v xss := by
 obtain ⟨av, ⟨h0, ha⟩, hr, hlt⟩ := h
 have hcells := @World.ownsRow.cells w lo 22 1 v xss.length av hr
 obtain ⟨hlen, hr⟩ := hr
 rcases hr with ⟨rfl, e0⟩ | ⟨g, cap, cur, rfl, hb, hg, hn, hm, hs, ht⟩
 ·have : xss = [] := List.eq_nil_of_length_eq_zero e0
  subst this
  exact ⟨none, 0, rfl, by simp, fun h => absurd h (by simp)⟩
 ·refine ⟨_, cap, rfl, hn, fun _ => ⟨g, 0, rfl, hlt g rfl, fun k hk => ⟨av[k]'(by omega), ?_, (ha k hk (by omega)).rd⟩⟩⟩
  have := hcells (g := g) rfl k (av[k]'(by omega)) (by simp [show k < av.length by omega])
  rwa [Go.WideShapes.add_plain] at this
end
theorem rowsI_ne {w : World} {lo hi lo' g : Nat} {n : Nat} {v a : Value} {zs : List Value} {xs : List Int} (hr : w.ownsRow lo' 22 1 v n zs) (hv : v.ownBlock = some g) (ha : OwnInts w lo hi a xs) : a.ownBlock ≠ some g := by
 rcases hr.2 with ⟨rfl, _⟩ | ⟨g1, c1, cur1, rfl, _, h1, _⟩
 ·cases hv
 ·have e : g1 = g := by simpa [Value.ownBlock] using hv
  subst e
  exact blk_ne_row ha.1 (show Blk w g1 22 cur1 from h1) (by decide)
theorem WkRows.get {w : World} {lo hi c : Nat} {A : Option Addr} {xss : List (List Int)} (h : WkRows w lo hi (.slice A xss.length c) xss) {k : Nat} (hk : k < xss.length) :
 ∃ g A2 c2, A = some ⟨g, 0, none⟩ /\ g < w.heap.size /\ w.cell? ⟨g, k, none⟩ = some (.slice A2 xss[k].length c2) /\ OwnInts w lo hi (.slice A2 xss[k].length c2) xss[k] := by
 obtain ⟨av, ⟨h0, ha⟩, hr, hlt⟩ := h
 have hcells := @World.ownsRow.cells w lo 22 1 _ xss.length av hr
 obtain ⟨hlen, hr2⟩ := hr
 rcases hr2 with ⟨e, e0⟩ | ⟨g, cap, cur, e, hb, hg, _⟩
 ·omega
 ·injection e with e1 _ _
  subst e1
  have h1 := ha k hk (by omega)
  obtain ⟨A2, c2, e2⟩ := h1.form
  have := hcells (g := g) rfl k (av[k]'(by omega)) (by simp [show k < av.length by omega])
  rw [Go.WideShapes.add_plain, Nat.zero_add, e2] at this
  exact ⟨g, A2, c2, rfl, Blk.lt hg, this, e2 ▸ h1⟩
structure ColS (lo : Nat) (w wr : World) (xss : List (List Int)) (A : Option Addr) (c : Nat) (av : List Value) : Prop where
 below : Below w.heap.size w wr
 len : av.length = xss.length
 inn : ∀ i (h : i < xss.length) (h' : i < av.length), OwnInts wr lo wr.heap.size av[i] xss[i]
 row : wr.ownsRow w.heap.size 22 1 (.slice A xss.length c) xss.length av
theorem ColS.empty {lo : Nat} {w wr : World} (hb : Below w.heap.size w wr) : ColS lo w (wr.alloc (.cells #[] 22)) [] (some ⟨wr.heap.size, 0, none⟩) 0 [] :=
 ⟨hb.alloc hb.size _, rfl, fun i h => absurd h (by simp), World.ownsRow_made wr #[] 0 hb.size (by decide) rfl⟩
theorem ColS.on {lo : Nat} {w wr w2 : World} {xss : List (List Int)} {A : Option Addr} {c : Nat} {av : List Value} (h : ColS lo w wr xss A c av) (hb : Below wr.heap.size wr w2) : ColS lo w w2 xss A c av :=
 ⟨bthen h.below hb, h.len, fun i a b => ((h.inn i a b).below hb (Nat.le_refl _)).mono (Nat.le_refl _) hb.size, ownsRow_below h.row (fun g hg => (h.row.lt g hg).2) hb (Nat.le_refl _)⟩
theorem ColS.rows {lo : Nat} {w wr : World} {xss : List (List Int)} {A : Option Addr} {c : Nat} {av : List Value} (h : ColS lo w wr xss A c av) (hl : lo <= w.heap.size) : WkRows wr lo wr.heap.size (.slice A xss.length c) xss :=
 ⟨av, ⟨h.len, h.inn⟩, ownsRow_mono h.row hl, fun g hg => (h.row.lt g hg).2⟩
theorem ColS.push {lo : Nat} {w wr w2 w4 : World} {xss xss' : List (List Int)} {A : Option Addr} {c g cap : Nat} {xs : List Int} {u : Value} {o : Obj} {av : List Value} (h : ColS lo w wr xss A c av) (e : xss' = xss ++ [xs]) (hb : Below wr.heap.size wr w2) (hu : OwnInts w2 lo w2.heap.size u xs)
 (hg : (w2.alloc o).grownBy w4 (Value.slice A xss.length c).ownBlock) (hown : w4.ownsRow w.heap.size 22 1 (.slice (some ⟨g, 0, none⟩) (xss.length + 1) cap) (xss.length + 1) (av ++ [u])) :
 ColS lo w w4 xss' (some ⟨g, 0, none⟩) cap (av ++ [u]) /\ xss.length + 1 = xss'.length := by
 subst e
 have h2 := h.on hb
 have hg' := grown_from_alloc hg
 have hl : (xss ++ [xs]).length = xss.length + 1 := by simp
 refine ⟨⟨(h2.below.alloc h2.below.size _).grown hg (by have := h2.below.size; simp; omega) (fun k hk => (h2.row.lt k hk).1), by simp [h.len], fun i h1 h3 => ?_, by rw [hl]; exact hown⟩, hl.symm⟩
 have keep : ∀ {a : Value} {ys : List Int}, OwnInts w2 lo w2.heap.size a ys -> OwnInts w4 lo w4.heap.size a ys := fun {a ys} h0 =>
  (h0.kept fun b hbk => hg'.block b (h0.lt hbk).2.2 (fun e => rowsI_ne h2.row e.symm h0 hbk)).mono (Nat.le_refl _) hg'.size
 by_cases e : i < xss.length
 ·rw [List.getElem_append_left (by rw [h.len]; exact e), List.getElem_append_left e]
  exact keep (h2.inn i e (by rw [h.len]; exact e))
 ·have e2 : i = xss.length := by simp at h1; omega
  subst e2
  have := h.len
  simp [<- this]
  exact keep hu
open Go.RowKit
theorem Tryz.infoFactS : (Tryz.prog.info? 29).map (fun i => (i.zero, i.size, i.bytes)) = some (some (.slice none 0 0), 1, 24) := by kernel_rfl
structure FFAt (w : World) (lo hi : Nat) (v : Value) (hv : List Value) (FF : List (List LFact)) (P Q : Nat -> Nat) : Prop where
 row : w.ownsRow lo 29 1 v FF.length hv
 lt : ∀ g, v.ownBlock = some g -> g < hi
 own : ∀ i (h : i < FF.length) (h' : i < hv.length), lo <= P i /\ (P i <= Q i /\ Q i <= hi) /\ OwnFacts w (P i) (Q i) hv[i] FF[i] /\ ∀ g, v.ownBlock = some g -> g < P i \/ Q i <= g
 ord : ∀ i j, i < j -> j < FF.length -> Q i <= P j
def OwnFF (w : World) (lo hi : Nat) (v : Value) (FF : List (List LFact)) : Prop := ∃ hv P Q, FFAt w lo hi v hv FF P Q
section
variable {w w' : World} {lo hi lo' hi' B : Nat} {v v' : Value} {hv : List Value} {FF : List (List LFact)} {F : List LFact} {P Q : Nat -> Nat}
theorem FFAt.len (h : FFAt w lo hi v hv FF P Q) : hv.length = FF.length := by have := h.row.1; omega
theorem FFAt.form (h : FFAt w lo hi v hv FF P Q) : ∃ A c, v = .slice A FF.length c := by
 rcases h.row.2 with ⟨rfl, h0⟩ | ⟨g, cap, _, rfl, _⟩
 ·exact ⟨none, 0, by rw [h0]⟩
 ·exact ⟨_, _, rfl⟩
theorem FFAt.below (h : FFAt w lo hi v hv FF P Q) (hb : Below B w w') (hB : hi <= B) : FFAt w' lo hi v hv FF P Q :=
 ⟨ownsRow_below h.row h.lt hb hB, h.lt, fun i a b => by
   obtain ⟨h1, h2, h3, h4⟩ := h.own i a b
   exact ⟨h1, h2, h3.below hb (by omega), h4⟩, h.ord⟩
theorem FFAt.mono (h : FFAt w lo hi v hv FF P Q) (h1 : lo' <= lo) (h2 : hi <= hi') : FFAt w lo' hi' v hv FF P Q :=
 ⟨ownsRow_mono h.row h1, fun g hg => by have := h.lt g hg; omega, fun i a b => by
   obtain ⟨g1, g2, g3, g4⟩ := h.own i a b
   exact ⟨by omega, ⟨g2.1, by omega⟩, g3, g4⟩, h.ord⟩
theorem OwnFF.form (h : OwnFF w lo hi v FF) : ∃ A c, v = .slice A FF.length c := by
 obtain ⟨_, _, _, h⟩ := h
 exact h.form
theorem OwnFF.below (h : OwnFF w lo hi v FF) (hb : Below B w w') (hB : hi <= B) : OwnFF w' lo hi v FF := by
 obtain ⟨hv, P, Q, h⟩ := h
 exact ⟨hv, P, Q, h.below hb hB⟩
theorem OwnFF.mono (h : OwnFF w lo hi v FF) (h1 : lo' <= lo) (h2 : hi <= hi') : OwnFF w lo' hi' v FF := by
 obtain ⟨hv, P, Q, h⟩ := h
 exact ⟨hv, P, Q, h.mono h1 h2⟩
theorem OwnFacts.rdS {w : World} {lo hi : Nat} {v : Value} {fs : List LFact} (h : OwnFacts w lo hi v fs) : RdFacts w w.heap.size v fs := by
 obtain ⟨av, ha, hr, hlt⟩ := h
 exact (show OwnFacts w lo w.heap.size v fs from ⟨av, ⟨ha.len, fun i a b => ⟨(ha.own i a b).1, fun g hg => ((ha.own i a b).1.lt g hg).2⟩, ha.apart⟩, hr, fun g hg => (hr.lt g hg).2⟩).rd
theorem FFAt.get {A : Option Addr} {c : Nat} (h : FFAt w lo hi (.slice A FF.length c) hv FF P Q) {k : Nat} (hk : k < FF.length) :
 ∃ g A2 c2, A = some ⟨g, 0, none⟩ /\ g < w.heap.size /\ lo <= g /\ w.cell? ⟨g, k, none⟩ = some (.slice A2 FF[k].length c2) /\ OwnFacts w (P k) (Q k) (.slice A2 FF[k].length c2) FF[k] /\ (g < P k \/ Q k <= g) /\ hv[k]? = some (.slice A2 FF[k].length c2) := by
 have hl := h.len
 have hcells := @World.ownsRow.cells w lo 29 1 _ FF.length hv h.row
 obtain ⟨hlen, hr2⟩ := h.row
 rcases hr2 with ⟨e, e0⟩ | ⟨g, cap, cur, e, hb, hg, _⟩
 ·omega
 ·injection e with e1 _ _
  subst e1
  obtain ⟨h1, h2, h3, h4⟩ := h.own k hk (by omega)
  obtain ⟨A2, c2, e2⟩ := h3.form
  have := hcells (g := g) rfl k (hv[k]'(by omega)) (by simp [show k < hv.length by omega])
  rw [Go.WideShapes.add_plain, Nat.zero_add, e2] at this
  exact ⟨g, A2, c2, rfl, Blk.lt hg, hb, this, e2 ▸ h3, h4 g rfl, by rw [<- e2]; simp [show k < hv.length by omega]⟩
theorem FFAt.push {w2 w4 : World} {a m : Nat} {u : Value} {o : Obj} (h : FFAt w2 lo hi v hv FF P Q) (hu : OwnFacts w2 a m u F) (ha : hi <= a) (hla : lo <= a) (ham : a <= m) (hm : m <= w2.heap.size)
 (hg : (w2.alloc o).grownBy w4 v.ownBlock) (hown : w4.ownsRow lo 29 1 v' (FF.length + 1) (hv ++ [u])) (hat : v'.ownBlock = v.ownBlock \/ ∀ b, v'.ownBlock = some b -> w2.heap.size <= b) :
 (∃ P' Q', FFAt w4 lo w4.heap.size v' (hv ++ [u]) (FF ++ [F]) P' Q') /\ OwnFacts w4 a m u F := by
 have hg' := grown_from_alloc hg
 have hlen := h.len
 have hs4 := hg'.size
 have keep : ∀ {p q : Nat} {x : Value} {G : List LFact}, OwnFacts w2 p q x G -> (∀ b, v.ownBlock = some b -> b < p \/ q <= b) -> OwnFacts w4 p q x G := fun {p q x G} h0 hne => by
  obtain ⟨av, g1, g2, g3⟩ := h0
  refine ⟨av, ⟨g1.len, fun i a b => ?_, g1.apart⟩, ownsRow_only g2 fun b hb' => hg'.block b (g2.lt b hb').2 (fun e => by have := hne b e.symm; have := (g2.lt b hb').1; have := g3 b hb'; omega), g3⟩
  have h1 := g1.own i a b
  exact h1.kept fun b hb' => hg'.block b (h1.lt hb').2.2 (fun e => by have := hne b e.symm; have := h1.lt hb'; omega)
 have hvb : ∀ b, v.ownBlock = some b -> b < a := fun b hb' => by have := h.lt b hb'; omega
 have hnew : OwnFacts w4 a m u F := keep hu fun b hb' => .inl (hvb b hb')
 refine ⟨⟨fun i => if i < FF.length then P i else a, fun i => if i < FF.length then Q i else m, ⟨by rw [List.length_append]; exact hown, fun g hg2 => (hown.lt g hg2).2, fun i h1 h2 => ?_, fun i j hij hj => ?_⟩⟩, hnew⟩
 ·by_cases e : i < FF.length
  ·rw [if_pos e, if_pos e, List.getElem_append_left (by omega), List.getElem_append_left e]
   obtain ⟨g1, g2, g3, g4⟩ := h.own i e (by omega)
   refine ⟨g1, ⟨g2.1, by omega⟩, keep g3 fun b hb' => g4 b hb', fun b hb' => ?_⟩
   rcases hat with hat | hat
   ·exact g4 b (by rw [<- hat]; exact hb')
   ·have := hat b hb'
    omega
  ·have e2 : i = FF.length := by simp at h1; omega
   subst e2
   rw [if_neg e, if_neg e]
   have e3 : (hv ++ [u])[FF.length]'h2 = u := by simp [<- hlen]
   have e4 : (FF ++ [F])[FF.length]'h1 = F := by simp
   rw [e3, e4]
   refine ⟨hla, ⟨ham, by omega⟩, hnew, fun b hb' => ?_⟩
   rcases hat with hat | hat
   ·exact .inl (hvb b (by rw [<- hat]; exact hb'))
   ·have := hat b hb'
    omega
 ·simp at hj
  by_cases e : j < FF.length
  ·rw [if_pos (by omega), if_pos e]
   exact h.ord i j hij e
  ·rw [if_pos (by omega), if_neg e]
   have hi1 : i < FF.length := by omega
   obtain ⟨g1, g2, g3, g4⟩ := h.own i hi1 (by omega)
   omega
end
open Go.RowKit
def hasB (x : Int) : Bool := decide (-1 <= x /\ x <= 5)
def bindOk (bs : List Int) : Bool := decide (bs.length = 4) && bs.all hasB
theorem bindOk_len {bs : List Int} (h : bindOk bs = true) : bs.length = 4 := by
 simp only [bindOk, Bool.and_eq_true, decide_eq_true_eq] at h
 exact h.1
theorem bindOk_all {bs : List Int} (h : bindOk bs = true) : bs.all hasB = true := by
 simp only [bindOk, Bool.and_eq_true] at h
 exact h.2
theorem hasB_at {bs : List Int} (h : bs.all hasB = true) {k : Nat} (hk : k < bs.length) : -1 <= bs[k] /\ bs[k] <= 5 := by
 have := List.all_eq_true.1 h bs[k] (List.getElem_mem hk)
 simpa [hasB] using this
theorem bindOk_at {bs : List Int} (h : bindOk bs = true) {k : Nat} (hk : k < bs.length) : -1 <= bs[k] /\ bs[k] <= 5 := hasB_at (bindOk_all h) hk
theorem bindOk_iff {bs : List Int} (hl : bs.length = 4) (h : bs.all hasB = true) : bindOk bs = true := by simp [bindOk, hl, h]
def termVal (bs : List Int) (t : Int) : Int := if 0 <= t then t else bs.getD (-1 - t).toNat (-1)
theorem termVal_const {bs : List Int} {t : Int} (h : 0 <= t) : termVal bs t = t := if_pos h
theorem termVal_var {bs : List Int} {t : Int} (h : t < 0) : termVal bs t = bs.getD (-1 - t).toNat (-1) := if_neg (by omega)
theorem termOk_at {t : Int} (ht : termOk t = true) : -4 <= t /\ t <= 5 := by simpa [termOk] using ht
theorem termVal_bounds {bs : List Int} (hb : bindOk bs = true) {t : Int} (ht : termOk t = true) : -1 <= termVal bs t /\ termVal bs t <= 5 := by
 have ht' := termOk_at ht
 unfold termVal
 split
 ·omega
 ·have hl := bindOk_len hb
  have hk : (-1 - t).toNat < bs.length := by omega
  rw [List.getD_eq_getElem?_getD, List.getElem?_eq_getElem hk]
  exact bindOk_at hb hk
def encB (bs : List Int) : Nat := (((bs.getD 0 (-1) + 1).toNat * 16 + (bs.getD 1 (-1) + 1).toNat) * 16 + (bs.getD 2 (-1) + 1).toNat) * 16 + (bs.getD 3 (-1) + 1).toNat
def noneB : List Int := [-1, -1, -1, -1]
theorem noneB_ok : bindOk noneB = true := by decide
theorem encB_none : encB noneB = 0 := by decide
theorem list4 {bs : List Int} (h : bs.length = 4) : ∃ a b c d, bs = [a, b, c, d] := by
 match bs, h with
 | [a, b, c, d], _ => exact ⟨a, b, c, d, rfl⟩
theorem fin7 {x : Int} (h : -1 <= x /\ x <= 5) : ∃ a : Fin 7, (x + 1).toNat = a.val /\ x = (a.val : Int) - 1 := ⟨⟨(x + 1).toNat, by omega⟩, rfl, by show x = (((x + 1).toNat : Nat) : Int) - 1; omega⟩
theorem or0 : ∀ a b c e : Fin 7, ((0 * 16 + a.val) * 16 + b.val) * 16 + c.val ||| e.val * 4096 = ((e.val * 16 + a.val) * 16 + b.val) * 16 + c.val := by decide +kernel
theorem or1 : ∀ a b c e : Fin 7, ((a.val * 16 + 0) * 16 + b.val) * 16 + c.val ||| e.val * 256 = ((a.val * 16 + e.val) * 16 + b.val) * 16 + c.val := by decide +kernel
theorem or2 : ∀ a b c e : Fin 7, ((a.val * 16 + b.val) * 16 + 0) * 16 + c.val ||| e.val * 16 = ((a.val * 16 + b.val) * 16 + e.val) * 16 + c.val := by decide +kernel
theorem or3 : ∀ a b c e : Fin 7, ((a.val * 16 + b.val) * 16 + c.val) * 16 + 0 ||| e.val = ((a.val * 16 + b.val) * 16 + c.val) * 16 + e.val := by decide +kernel
def shlB (v : Nat) (c : Int) : Nat := (c + 1).toNat * 2 ^ ((3 - v) * 4)
theorem encB_set {bs : List Int} (h : bindOk bs = true) {v : Nat} (hv : v < 4) (hn : bs.getD v (-1) = -1) {c : Int} (hc : -1 <= c /\ c <= 5) : encB bs ||| shlB v c = encB (bs.set v c) := by
 obtain ⟨b0, b1, b2, b3, rfl⟩ := list4 (bindOk_len h)
 have ha := bindOk_all h
 simp only [List.all_cons, List.all_nil, Bool.and_true, Bool.and_eq_true, hasB, decide_eq_true_eq] at ha
 obtain ⟨h0, h1, h2, h3⟩ := ha
 obtain ⟨e, he, he'⟩ := fin7 hc
 obtain ⟨x0, e0, _⟩ := fin7 h0
 obtain ⟨x1, e1, _⟩ := fin7 h1
 obtain ⟨x2, e2, _⟩ := fin7 h2
 obtain ⟨x3, e3, _⟩ := fin7 h3
 match v, hv with
 | 0, _ =>
  simp only [List.getD_cons_zero] at hn
  subst hn
  simp only [encB, shlB, List.getD_cons_zero, List.getD_cons_succ, List.set_cons_zero, he, e1, e2, e3]
  exact or0 x1 x2 x3 e
 | 1, _ =>
  simp only [List.getD_cons_zero, List.getD_cons_succ] at hn
  subst hn
  simp only [encB, shlB, List.getD_cons_zero, List.getD_cons_succ, List.set_cons_zero, List.set_cons_succ, he, e0, e2, e3]
  exact or1 x0 x2 x3 e
 | 2, _ =>
  simp only [List.getD_cons_zero, List.getD_cons_succ] at hn
  subst hn
  simp only [encB, shlB, List.getD_cons_zero, List.getD_cons_succ, List.set_cons_zero, List.set_cons_succ, he, e0, e1, e3]
  exact or2 x0 x1 x3 e
 | 3, _ =>
  simp only [List.getD_cons_zero, List.getD_cons_succ] at hn
  subst hn
  simp only [encB, shlB, List.getD_cons_zero, List.getD_cons_succ, List.set_cons_zero, List.set_cons_succ, he, e0, e1, e2]
  simpa using or3 x0 x1 x2 e
theorem encB_lt {bs : List Int} (h : bindOk bs = true) : encB bs < 65536 := by
 obtain ⟨b0, b1, b2, b3, rfl⟩ := list4 (bindOk_len h)
 have ha := bindOk_all h
 simp only [List.all_cons, List.all_nil, Bool.and_true, Bool.and_eq_true, hasB, decide_eq_true_eq] at ha
 simp only [encB, List.getD_cons_zero, List.getD_cons_succ]
 omega
theorem shlB_lt {v : Nat} (hv : v < 4) {c : Int} (hc : -1 <= c /\ c <= 5) : shlB v c < 65536 := by
 unfold shlB
 match v, hv with
 | 0, _ => show (c + 1).toNat * 4096 < 65536; omega
 | 1, _ => show (c + 1).toNat * 256 < 65536; omega
 | 2, _ => show (c + 1).toNat * 16 < 65536; omega
 | 3, _ => show (c + 1).toNat * 1 < 65536; omega
def fieldB (m v : Nat) : Nat := m / 2 ^ ((3 - v) * 4) % 16
theorem fieldB_enc {bs : List Int} (h : bindOk bs = true) {v : Nat} (hv : v < 4) : ((fieldB (encB bs) v : Nat) : Int) - 1 = bs.getD v (-1) := by
 obtain ⟨b0, b1, b2, b3, rfl⟩ := list4 (bindOk_len h)
 have ha := bindOk_all h
 simp only [List.all_cons, List.all_nil, Bool.and_true, Bool.and_eq_true, hasB, decide_eq_true_eq] at ha
 match v, hv with
 | 0, _ => simp only [fieldB, encB, List.getD_cons_zero, List.getD_cons_succ]; omega
 | 1, _ => simp only [fieldB, encB, List.getD_cons_zero, List.getD_cons_succ]; omega
 | 2, _ => simp only [fieldB, encB, List.getD_cons_zero, List.getD_cons_succ]; omega
 | 3, _ => simp only [fieldB, encB, List.getD_cons_zero, List.getD_cons_succ]; omega
theorem encB_inj {bs cs : List Int} (h : bindOk bs = true) (h2 : bindOk cs = true) (e : encB bs = encB cs) : bs = cs := by
 apply List.ext_getElem (by rw [bindOk_len h, bindOk_len h2])
 intro v h1 h3
 have hv : v < 4 := by rw [bindOk_len h] at h1; exact h1
 have a := fieldB_enc h hv
 have b := fieldB_enc h2 hv
 rw [e] at a
 have c := a.symm.trans b
 simpa [h1, h3] using c
theorem bindOk_set {bs : List Int} (h : bindOk bs = true) {c : Int} (hc : -1 <= c /\ c <= 5) (v : Nat) : bindOk (bs.set v c) = true := by
 refine bindOk_iff (by rw [List.length_set]; exact bindOk_len h) (List.all_eq_true.2 fun x hx => ?_)
 rcases List.mem_or_eq_of_mem_set hx with hx | rfl
 ·exact List.all_eq_true.1 (bindOk_all h) x hx
 ·simpa [hasB] using hc
open Go.RowKit
def constOk (x : Int) : Bool := decide (0 <= x /\ x <= 5)
def factFits (ar : List Int) (f : LFact) : Bool := decide (0 <= f.1 /\ f.1 < ar.length /\ (f.2.length : Int) = ar.getD f.1.toNat 0) && f.2.all constOk
def factOk (ar : List Int) (f : LFact) : Bool := arityOk ar && factFits ar f
def ConstsTo (xs : List Int) (k : Nat) : Prop := ∀ j, j < k -> constOk (xs.getD j 0) = true
theorem ConstsTo.step {xs : List Int} {k : Nat} (h : ConstsTo xs k) (e : constOk (xs.getD k 0) = true) : ConstsTo xs (k + 1) := fun j hj => by
 by_cases h2 : j = k
 ·subst h2; exact e
 ·exact h j (by omega)
theorem ConstsTo.all {xs : List Int} (h : ConstsTo xs xs.length) : xs.all constOk = true := by
 rw [List.all_eq_true]
 intro x hx
 obtain ⟨j, hj, rfl⟩ := List.getElem_of_mem hx
 have := h j hj
 simpa [hj] using this
theorem consts_not {xs : List Int} {k : Nat} (hk : k < xs.length) (e : constOk xs[k] = false) : xs.all constOk = false := by
 rw [List.all_eq_false]
 exact ⟨xs[k], List.getElem_mem hk, by simp [e]⟩
set_option maxHeartbeats 400000 in
theorem areConstants_any (v : Value) (xs : List Int) (B : Nat) (w : World) (h : RdInts w B v xs) (hn : xs.length <= 1048576) :
 Calls Tryz.prog 189 #[v] w fun e w' => e = .returned (.bool (xs.all constOk)) /\ w = w' := by
 obtain ⟨A, c, rfl, hc, h2⟩ := h
 go_enter Tryz.func189, Tryz.ntmps189
 go_wp2_with (fail)
 go_loop [4, 7] (fun _ i => ∃ k : Nat, k <= xs.length /\ i = .int .i64 k /\ ConstsTo xs k) (fun _ i => xs.length - (intOf i).toNat)
 case atStart => exact ⟨0, Nat.zero_le _, rfl, fun j hj => absurd hj (by omega)⟩
 case round =>
  obtain ⟨k, hk, rfl, hs⟩ := hrel
  by_cases hlk : k < xs.length
  ·obtain ⟨b2, o2, rfl, hbB2, hx2⟩ := h2 (by omega)
   have hck2 : w.cell? ⟨b2, o2 + k, none⟩ = some (.int .i64 xs[k]) := hx2 k hlk
   clear hx2 h2
   by_cases h0 : xs[k] < 0
   ·have HE := Lib.hid (consts_not hlk (by simp [constOk]; omega))
    clear hs
    go_wp2_with (fail)
    go_ret
    exact ⟨ret_bool HE.out.symm, rfl⟩
   ·have hd : decide (xs[k] < 0) = false := by simpa using h0
    by_cases h2 : 5 < xs[k]
    ·have HE := Lib.hid (consts_not hlk (by simp [constOk]; omega))
     clear hs
     go_wp2_with (fail)
     go_ret
     exact ⟨ret_bool HE.out.symm, rfl⟩
    ·have HS := Lib.hid (hs.step (by simp [hlk, constOk]; omega))
     clear hs
     go_wp2_with (fail)
     go_round
     case rel => exact ⟨k + 1, by omega, by go_num, HS.out⟩
     case measure => simp [intOf]; omega
  ·have hkn : k = xs.length := by omega
   have HE := Lib.hid (show xs.all constOk = true from ConstsTo.all (by rw [<- hkn]; exact hs))
   clear hkn hs h2
   go_wp2_with (fail)
   go_ret
   exact ⟨ret_bool HE.out.symm, rfl⟩
set_option maxHeartbeats 400000 in
set_option maxRecDepth 100000 in
theorem factFits_any (v v2 : Value) (ar : List Int) (f : LFact) (w : World) (h : RdInts w w.heap.size v ar) (h2 : RdFact w w.heap.size v2 f) (hn : f.2.length <= 1048576) :
 Calls Tryz.prog 198 #[v, v2] w fun e w' => e = .returned (.bool (factFits ar f)) /\ Below w.heap.size w w' := by
 obtain ⟨pp, xs⟩ := f
 obtain ⟨A, c, rfl, hc, h⟩ := h
 obtain ⟨a, rfl, h2⟩ := h2
 have H2 := Lib.hid h2
 obtain ⟨A2, c2, rfl, hc2, _⟩ := h2
 by_cases h0 : pp < 0
 ·have hd : decide (pp < 0) = true := by simpa using h0
  have HE := Lib.hid (show factFits ar (pp, xs) = false by simp [factFits]; omega)
  go_enter Tryz.func198, Tryz.ntmps198
  go_wp2_with (fail)
  go_quiet (fail)
  go_wp2_with (fail)
  go_ret
  exact ⟨ret_bool HE.out.symm, bdrewN (below1 _ _) _⟩
 ·have hd : decide (pp < 0) = false := by simpa using h0
  obtain ⟨p, rfl⟩ := Int.eq_ofNat_of_zero_le (Int.not_lt.1 h0)
  by_cases h1 : (ar.length : Int) <= p
  ·have hd1 : decide ((ar.length : Int) <= (p : Int)) = true := by simpa using h1
   have HE := Lib.hid (show factFits ar ((p : Int), xs) = false by simp [factFits]; omega)
   go_enter Tryz.func198, Tryz.ntmps198
   go_wp2_with (fail)
   go_quiet (fail)
   go_wp2_with (fail)
   go_ret
   exact ⟨ret_bool HE.out.symm, bdrewN (below1 _ _) _⟩
  ·have hd1 : decide ((ar.length : Int) <= (p : Int)) = false := by simpa using h1
   have hlt : p < ar.length := by omega
   have hltI : (p : Int) < (ar.length : Int) := by omega
   obtain ⟨b, o, rfl, hbB, hx⟩ := h (by omega)
   have hck : ∀ O, (w.alloc O).cell? ⟨b, o + p, none⟩ = some (.int .i64 ar[p]) := fun O => (World.cell?_alloc_lt w O ⟨b, o + p, none⟩ hbB).trans (hx p hlt)
   by_cases h3 : (xs.length : Int) = ar[p]
   ·have hd3 : ((xs.length : Int) != ar[p]) = false := by simp [h3]
    have H3 := Lib.hid (show factFits ar ((p : Int), xs) = xs.all constOk by simp [factFits, hlt, h3])
    clear h3 hx h
    go_enter Tryz.func198, Tryz.ntmps198
    go_wp2_with (fail)
    go_quiet (fail)
    go_wp2_with (fail)
    refine (areConstants_any _ xs _ _ ((H2.out.below (below1 w _) (Nat.le_refl _)).below (bdrewN (Below.refl _ _) _) (Nat.le_refl _)) hn).mono ?_
    rintro e w1 ⟨rfl, rfl⟩
    go_wp2_with (fail)
    go_ret
    exact ⟨ret_bool H3.out.symm, bdrewN (below1 _ _) _⟩
   ·have hd3 : ((xs.length : Int) != ar[p]) = true := by simp [h3]
    have HE := Lib.hid (show factFits ar ((p : Int), xs) = false by simp [factFits, hlt, h3])
    clear h3 hx h
    go_enter Tryz.func198, Tryz.ntmps198
    go_wp2_with (fail)
    go_quiet (fail)
    go_wp2_with (fail)
    go_ret
    exact ⟨ret_bool HE.out.symm, bdrewN (below1 _ _) _⟩
open Go.RowKit
def headOk (a : LFact) (bs : List Int) : Bool := (bindOk bs && a.2.all termOk) && (a.2.map (termVal bs)).all constOk
def headOf (a : LFact) (bs : List Int) : LFact := if headOk a bs then (a.1, a.2.map (termVal bs)) else (0, [])
theorem headOk_bind {a : LFact} {bs : List Int} (h : bindOk bs = false) : headOk a bs = false := by unfold headOk; rw [h]; rfl
theorem headOk_terms {a : LFact} {bs : List Int} (h : a.2.all termOk = false) : headOk a bs = false := by unfold headOk; rw [h, Bool.and_false]; rfl
theorem headOk_vals {a : LFact} {bs : List Int} (h : (a.2.map (termVal bs)).all constOk = false) : headOk a bs = false := by unfold headOk; rw [h, Bool.and_false]
theorem headOk_yes {a : LFact} {bs : List Int} (h1 : bindOk bs = true) (h2 : a.2.all termOk = true) (h3 : (a.2.map (termVal bs)).all constOk = true) : headOk a bs = true := by unfold headOk; rw [h1, h2, h3]; rfl
theorem headOf_no {a : LFact} {bs : List Int} (h : headOk a bs = false) : headOf a bs = (0, []) := by unfold headOf; rw [h]; rfl
theorem headOf_yes {a : LFact} {bs : List Int} (h : headOk a bs = true) : headOf a bs = (a.1, a.2.map (termVal bs)) := by unfold headOf; rw [h]; rfl
theorem headOf_length (a : LFact) (bs : List Int) : (headOf a bs).2.length <= a.2.length := by
 unfold headOf
 split <;> simp
theorem Blk.grown {w w' : World} {g : Nat} {t : TypeId} {cs : Array Value} {row : Option Nat} (h : Blk w g t cs) (hg : w.grownBy w' row) (hne : row ≠ some g) : Blk w' g t cs := (hg.block g h.lt (fun e => hne e.symm)).trans h
theorem OwnInts.apart {w : World} {lo hi : Nat} {v : Value} {xs : List Int} (h : OwnInts w lo hi v xs) {g : Nat} (hg : g < lo) : v.ownBlock ≠ some g := fun e => by have := h.lt e; omega
open Go.RowKit
theorem isTerm_any (n : Int) (w : World) : Calls Tryz.prog 224 #[.int .i64 n] w fun e w' => e = .returned (.bool (termOk n)) /\ w = w' := by
 by_cases h1 : isVarB n = true
 ·have HE := Lib.hid (show termOk n = true by simp [isVarB] at h1; simp [termOk]; omega)
  go_enter Tryz.func224, Tryz.ntmps224
  go_wp2_with (go_at_call 225; refine (isVar_is h1 _).mono ?_; rintro e w' ⟨rfl, rfl⟩)
  go_ret
  exact ⟨ret_bool HE.out.symm, rfl⟩
 ·have h2 : isVarB n = false := by simpa using h1
  by_cases h3 : 0 <= n
  ·have hd : decide (0 <= n) = true := by simpa using h3
   by_cases h4 : n <= 5
   ·have HE := Lib.hid (show termOk n = true by simp [termOk]; omega)
    go_enter Tryz.func224, Tryz.ntmps224
    go_wp2_with (go_at_call 225; refine (isVar_is h2 _).mono ?_; rintro e w' ⟨rfl, rfl⟩)
    go_ret
    exact ⟨ret_bool HE.out.symm, rfl⟩
   ·have HE := Lib.hid (show termOk n = false by simp [termOk]; omega)
    go_enter Tryz.func224, Tryz.ntmps224
    go_wp2_with (go_at_call 225; refine (isVar_is h2 _).mono ?_; rintro e w' ⟨rfl, rfl⟩)
    go_ret
    exact ⟨ret_bool (by rw [HE.out]; simp; omega), rfl⟩
  ·have hd : decide (0 <= n) = false := by simpa using h3
   have HE := Lib.hid (show termOk n = false by simp [isVarB] at h2; simp [termOk]; omega)
   go_enter Tryz.func224, Tryz.ntmps224
   go_wp2_with (go_at_call 225; refine (isVar_is h2 _).mono ?_; rintro e w' ⟨rfl, rfl⟩)
   go_ret
   exact ⟨ret_bool HE.out.symm, rfl⟩
theorem isTerm_is {n : Int} {b : Bool} (h : termOk n = b) (w : World) : Calls Tryz.prog 224 #[.int .i64 n] w fun e w' => e = .returned (.bool b) /\ w = w' := h ▸ isTerm_any n w
set_option maxHeartbeats 400000 in
theorem areTerms_any (v : Value) (xs : List Int) (B : Nat) (w : World) (h : RdInts w B v xs) (hr : xs.length <= 1048576) :
 Calls Tryz.prog 176 #[v] w fun e w' => e = .returned (.bool (xs.all termOk)) /\ w = w' := by
 obtain ⟨A, c, rfl, hc, ha⟩ := h
 go_enter Tryz.func176, Tryz.ntmps176
 go_wp2_with (fail)
 go_loop [4, 7] (fun _ i => ∃ k : Nat, k <= xs.length /\ i = .int .i64 k /\ AllTo termOk xs k) (fun _ i => xs.length - (intOf i).toNat)
 case atStart => exact ⟨0, Nat.zero_le _, rfl, AllTo.start⟩
 case round =>
  obtain ⟨k, hk, rfl, hs⟩ := hrel
  by_cases hlt : k < xs.length
  ·obtain ⟨b, o, rfl, hbB, hx⟩ := ha (by omega)
   have hck : w.cell? ⟨b, o + k, none⟩ = some (.int .i64 xs[k]) := hx k hlt
   clear hx ha
   by_cases he : termOk xs[k] = true
   ·have HS := Lib.hid (hs.step hlt he)
    clear hs
    go_wp2_with (go_at_call 224; refine (isTerm_is he _).mono ?_; rintro e w' ⟨rfl, rfl⟩)
    go_round
    case rel => exact ⟨k + 1, by omega, by go_num, HS.out⟩
    case measure => simp [intOf]; omega
   ·have he' : termOk xs[k] = false := by simpa using he
    have HE := Lib.hid (all_not hlt he')
    clear hs he
    go_wp2_with (go_at_call 224; refine (isTerm_is he' _).mono ?_; rintro e w' ⟨rfl, rfl⟩)
    go_ret
    exact ⟨ret_bool HE.out.symm, rfl⟩
  ·have HE := Lib.hid (hs.done (by omega))
   clear hs ha
   go_wp2_with (fail)
   go_ret
   exact ⟨ret_bool HE.out.symm, rfl⟩
set_option maxHeartbeats 400000 in
theorem l2Terms_any (v : Value) (xs : List Int) (B : Nat) (w : World) (h : RdInts w B v xs) (hr : xs.length <= 1048576) :
 Calls Tryz.prog 125 #[v] w fun e w' => e = .returned (.bool (xs.all termOk)) /\ w = w' := by
 obtain ⟨A, c, rfl, hc, ha⟩ := h
 go_enter Tryz.func125, Tryz.ntmps125
 go_wp2_with (fail)
 go_loop [3] (fun i => ∃ k : Nat, k <= xs.length /\ i = .int .i64 k /\ AllTo termOk xs k) (fun i => xs.length - (intOf i).toNat)
 case atStart => exact ⟨0, Nat.zero_le _, rfl, AllTo.start⟩
 case round =>
  obtain ⟨k, hk, rfl, hs⟩ := hrel
  by_cases hlt : k < xs.length
  ·obtain ⟨b, o, rfl, hbB, hx⟩ := ha (by omega)
   have hck : w.cell? ⟨b, o + k, none⟩ = some (.int .i64 xs[k]) := hx k hlt
   clear hx ha
   by_cases he : -4 <= xs[k] /\ xs[k] <= 5
   ·have HS := Lib.hid (hs.step hlt (by simpa [termOk] using he))
    have HK := Lib.hid (l1In_yes he)
    clear hs he
    go_wp2_with (go_at_call 124; refine (HK.out _).mono ?_; rintro e w' ⟨rfl, rfl⟩)
    go_round
    case rel => exact ⟨k + 1, by omega, by go_num, HS.out⟩
    case measure => simp [intOf]; omega
   ·have HE := Lib.hid (all_not hlt (show termOk xs[k] = false by simpa [termOk] using he))
    have HK := Lib.hid (l1In_no he)
    clear hs he
    go_wp2_with (go_at_call 124; refine (HK.out _).mono ?_; rintro e w' ⟨rfl, rfl⟩)
    go_ret
    exact ⟨ret_bool HE.out.symm, rfl⟩
  ·have HE := Lib.hid (hs.done (by omega))
   clear hs ha
   go_wp2_with (fail)
   go_ret
   exact ⟨ret_bool HE.out.symm, rfl⟩
open Go.RowKit
set_option maxHeartbeats 400000 in
theorem l3Bind_any (v : Value) (bs : List Int) (B : Nat) (w : World) (h : RdInts w B v bs) (hr : bs.length <= 1048576) :
 Calls Tryz.prog 142 #[v] w fun e w' => e = .returned (.bool (bindOk bs)) /\ w = w' := by
 obtain ⟨A, c, rfl, hc, ha⟩ := h
 go_enter Tryz.func142, Tryz.ntmps142
 go_wp2_with (fail)
 go_loop [3] (fun i => ∃ k : Nat, k <= bs.length /\ i = .int .i64 k /\ AllTo hasB bs k) (fun i => bs.length - (intOf i).toNat)
 case atStart => exact ⟨0, Nat.zero_le _, rfl, AllTo.start⟩
 case round =>
  obtain ⟨k, hk, rfl, hs⟩ := hrel
  by_cases hlt : k < bs.length
  ·obtain ⟨b, o, rfl, hbB, hx⟩ := ha (by omega)
   have hck : w.cell? ⟨b, o + k, none⟩ = some (.int .i64 bs[k]) := hx k hlt
   clear hx ha
   by_cases he : -1 <= bs[k] /\ bs[k] <= 5
   ·have HS := Lib.hid (hs.step hlt (by simpa [hasB] using he))
    have HK := Lib.hid (l1In_yes he)
    clear hs he
    go_wp2_with (go_at_call 124; refine (HK.out _).mono ?_; rintro e w' ⟨rfl, rfl⟩)
    go_round
    case rel => exact ⟨k + 1, by omega, by go_num, HS.out⟩
    case measure => simp [intOf]; omega
   ·have HE := Lib.hid (show bindOk bs = false by simp [bindOk, all_not hlt (show hasB bs[k] = false by simpa [hasB] using he)])
    have HK := Lib.hid (l1In_no he)
    clear hs he
    go_wp2_with (go_at_call 124; refine (HK.out _).mono ?_; rintro e w' ⟨rfl, rfl⟩)
    go_ret
    exact ⟨ret_bool HE.out.symm, rfl⟩
  ·have HE := Lib.hid (hs.done (by omega))
   clear hs ha
   by_cases hl : bs.length = 4
   ·have hl1 : ((bs.length : Int) == 4) = true := by simp; omega
    have HB := Lib.hid (bindOk_iff hl HE.out)
    clear hl
    go_wp2_with (fail)
    go_ret
    exact ⟨ret_bool HB.out.symm, rfl⟩
   ·have hl1 : ((bs.length : Int) == 4) = false := by simp; omega
    have HB := Lib.hid (show bindOk bs = false by simp [bindOk, hl])
    clear hl
    go_wp2_with (fail)
    go_ret
    exact ⟨ret_bool HB.out.symm, rfl⟩
theorem l3Bind_is {bs : List Int} {ok : Bool} (hok : bindOk bs = ok) (v : Value) (B : Nat) (w : World) (h : RdInts w B v bs) (hr : bs.length <= 1048576) :
 Calls Tryz.prog 142 #[v] w fun e w' => e = .returned (.bool ok) /\ w = w' := hok ▸ l3Bind_any v bs B w h hr
set_option maxHeartbeats 400000 in
theorem l3Term_any (v : Value) (bs : List Int) (t : Int) (B : Nat) (w : World) (h : RdInts w B v bs) (hb : bs.length = 4) (ht : termOk t = true) :
 Calls Tryz.prog 175 #[.int .i64 t, v] w fun e w' => e = .returned (.int .i64 (termVal bs t)) /\ w = w' := by
 obtain ⟨A, c, rfl, hc, ha⟩ := h
 have htb := termOk_at ht
 by_cases h0 : 0 <= t
 ·have hd : decide (0 <= t) = true := by simpa using h0
  have HE := Lib.hid (termVal_const (bs := bs) h0).symm
  go_enter Tryz.func175, Tryz.ntmps175
  go_wp2_with (fail)
  go_ret
  exact ⟨ret_int HE.out, rfl⟩
 ·have hd : decide (0 <= t) = false := by simpa using h0
  obtain ⟨j, hj4, rfl⟩ : ∃ j : Nat, j < bs.length /\ t = -1 - (j : Int) := ⟨(-1 - t).toNat, by omega, by omega⟩
  obtain ⟨b, o, rfl, hbB, hx⟩ := ha (by omega)
  have hck : w.cell? ⟨b, o + j, none⟩ = some (.int .i64 bs[j]) := hx j hj4
  have hjI : (j : Int) < (bs.length : Int) := by omega
  have HE := Lib.hid (show bs[j] = termVal bs (-1 - (j : Int)) by
   rw [termVal_var (by omega), show (-1 - (-1 - (j : Int))).toNat = j by omega]
   simp [hj4])
  have hee : -1 - (-1 - (j : Int)) = (j : Int) := by omega
  clear hx ha hb
  go_enter Tryz.func175, Tryz.ntmps175
  go_wp2_with (fail)
  go_ret
  exact ⟨ret_int HE.out, rfl⟩
open Go.RowKit
set_option maxHeartbeats 400000 in
theorem yesVars_any (v : Value) (ls : List LLit) (w : World) (h : RdLits w w.heap.size v ls) (hr : ls.length <= 1048576) (ht : totL ls <= 1048576) :
 Calls Tryz.prog 260 #[v] w fun e w' => e = .returned (.int .u64 (yesMask ls : Nat)) /\ Below w.heap.size w w' := by
 have H := Lib.hid h
 obtain ⟨A, c, rfl, hc, _⟩ := h
 go_enter Tryz.func260, Tryz.ntmps260
 go_wp2_with (fail)
 go_loopw [3, 5, 8] (fun m _ i wr => ∃ (k : Nat) (z : Int), k <= ls.length /\ i = .int .i64 k /\ m = .int .u64 z /\ z = (yesMask (ls.take k) : Nat) /\ Below w.heap.size w wr) (fun _ _ i _ => ls.length - (intOf i).toNat)
 case atStart => exact ⟨0, 0, Nat.zero_le _, rfl, rfl, rfl, Below.refl _ _⟩
 case round =>
  obtain ⟨k, z, hk, rfl, rfl, hz, hbe⟩ := hrel
  by_cases hlt : k < ls.length
  ·obtain ⟨b, o, u0, u1, u2, rfl, hbB, k0, k1, k2, rfl, rfl, p3⟩ := (H.out.on hbe).get hlt
   have HA := Lib.hid p3
   obtain ⟨A3, c3, rfl, hc3, _⟩ := p3
   have hle := len_le_totL ls k hlt
   have hml := yesMask_lt k ls hk
   by_cases h0 : ls[k].1 = 0
   ·have hd : (ls[k].1 == 0) = true := by simpa using h0
    have HZ := Lib.hid (show bits .or .u64 z ((maskOf ls[k].2.2 : Nat) : Int) = (yesMask (ls.take (k + 1)) : Nat) by rw [hz, or_word hml (maskOf_lt _), yesMask_take hlt, if_pos h0])
    clear hz hml h0
    go_wp2_with (go_at_call 265; refine (argVars_any _ ls[k].2.2 _ _ (HA.out.on (below1 _ _)) (by omega)).mono ?_; rintro e w' ⟨rfl, rfl⟩)
    go_roundw
    case rel => exact ⟨k + 1, _, by omega, by go_num, rfl, HZ.out, bthen hbe (below1 _ _)⟩
    case measure => simp [intOf]; omega
   ·have hd : (ls[k].1 == 0) = false := by simpa using h0
    have HZ := Lib.hid (show z = (yesMask (ls.take (k + 1)) : Nat) by rw [hz, yesMask_take hlt, if_neg h0])
    clear hz hml h0
    go_wp2_with (fail)
    go_roundw
    case rel => exact ⟨k + 1, _, by omega, by go_num, rfl, HZ.out, bthen hbe (below1 _ _)⟩
    case measure => simp [intOf]; omega
  ·have HE := Lib.hid (show z = (yesMask ls : Nat) by rw [hz, show k = ls.length by omega, List.take_length])
   clear hz
   go_wp2_with (fail)
   go_ret
   exact ⟨ret_int HE.out, hbe⟩
def ruleSafe (r : LRule) : Bool := bits .andNot .u64 ((ruleMask r : Nat) : Int) ((yesMask r.2 : Nat) : Int) == 0
open Go.RowKit
def MkRow (w : World) (g m : Nat) : Prop := Blk w g 4 #[.bool (m.testBit 0), .bool (m.testBit 1), .bool (m.testBit 2), .bool (m.testBit 3)]
theorem MkRow.cell {w : World} {g m : Nat} (h : MkRow w g m) {i : Nat} (hi : i < 4) : w.cell? ⟨g, i, none⟩ = some (.bool (m.testBit i)) := by
 rw [Blk.cell h i]
 match i, hi with
 | 0, _ => rfl
 | 1, _ => rfl
 | 2, _ => rfl
 | 3, _ => rfl
theorem MkRow.frozen {w : World} {g m : Nat} (h : MkRow w g m) (i : Nat) : w.frozen? ⟨g, i, none⟩ = false := Blk.frozen h i
theorem MkRow.lt {w : World} {g m : Nat} (h : MkRow w g m) : g < w.heap.size := Blk.lt h
theorem MkRow.below {B : Nat} {w w' : World} {g m : Nat} (h : MkRow w g m) (hb : Below B w w') (hg : g < B) : MkRow w' g m := Blk.below h hb hg
theorem MkRow.set {w : World} {g m : Nat} (h : MkRow w g m) {j : Nat} (hj : j < 4) : MkRow (w.setCell ⟨g, j, none⟩ (.bool true)) g (m ||| 2 ^ j) := by
 have h2 := Blk.set_ h j (.bool true)
 unfold MkRow
 match j, hj with
 | 0, _ => simpa [Nat.testBit_or, show Nat.testBit 1 1 = false from rfl, show Nat.testBit 1 2 = false from rfl, show Nat.testBit 1 3 = false from rfl] using h2
 | 1, _ => simpa [Nat.testBit_or, show Nat.testBit 2 1 = true from rfl, show Nat.testBit 2 2 = false from rfl, show Nat.testBit 2 3 = false from rfl] using h2
 | 2, _ => simpa [Nat.testBit_or, show Nat.testBit 4 1 = false from rfl, show Nat.testBit 4 2 = true from rfl, show Nat.testBit 4 3 = false from rfl] using h2
 | 3, _ => simpa [Nat.testBit_or, show Nat.testBit 8 1 = false from rfl, show Nat.testBit 8 2 = false from rfl, show Nat.testBit 8 3 = true from rfl] using h2
theorem maskFrom_take {xs : List Int} {m k : Nat} (h : k < xs.length) : maskFrom m (xs.take (k + 1)) = orV (maskFrom m (xs.take k)) xs[k] := by
 unfold maskFrom
 rw [take_snoc xs k h, List.foldl_append]
 rfl
theorem MkRow.var {w : World} {g m : Nat} (h : MkRow w g m) {t : Int} {j : Nat} (hj : j < 4) (ht : t = -1 - (j : Int)) : MkRow (w.setCell ⟨g, j, none⟩ (.bool true)) g (orV m t) := by
 have hv : isVarB t = true := by simp [isVarB]; omega
 have hn : (-1 - t).toNat = j := by omega
 unfold orV
 rw [if_pos hv, hn]
 exact h.set hj
set_option maxHeartbeats 400000 in
theorem l2Mark_any (g m : Nat) (v : Value) (xs : List Int) (w : World) (hm : MkRow w g m) (h : RdInts w g v xs) (hr : xs.length <= 1048576) :
 Calls Tryz.prog 251 #[.slice (some ⟨g, 0, none⟩) 4 4, v] w fun e w' => e = .returned (.tuple #[]) /\ MkRow w' g (maskFrom m xs) /\ Only g (g + 1) w w' := by
 have H := Lib.hid h
 have HM := Lib.hid hm
 clear hm
 obtain ⟨A, c, rfl, hc, _⟩ := h
 go_enter Tryz.func251, Tryz.ntmps251
 go_wp2_with (fail)
 go_loopw [4] (fun i wr => ∃ k : Nat, k <= xs.length /\ i = .int .i64 k /\ MkRow wr g (maskFrom m (xs.take k)) /\ Only g (g + 1) w wr) (fun i _ => xs.length - (intOf i).toNat)
 case atStart => exact ⟨0, Nat.zero_le _, rfl, HM.out, Only.refl _ _ _⟩
 case round =>
  obtain ⟨k, hk, rfl, hx, hon⟩ := hrel
  have hg := HM.out.lt
  by_cases hlt : k < xs.length
  ·obtain ⟨A', c', e, _, hr2⟩ := H.out.below (hon.below (Nat.le_refl g) (by omega)) (Nat.le_refl g)
   injection e with e1 _ e3
   subst e1
   subst e3
   obtain ⟨b, o, rfl, hbB, hr2⟩ := hr2 (by omega)
   have hck : wr.cell? ⟨b, o + k, none⟩ = some (.int .i64 xs[k]) := hr2 k hlt
   have htk := maskFrom_take (m := m) hlt
   clear hr2
   by_cases he : -4 <= xs[k] /\ xs[k] <= -1
   ·have hv : xs[k] = -1 - ((0 : Nat) : Int) \/ xs[k] = -1 - ((1 : Nat) : Int) \/ xs[k] = -1 - ((2 : Nat) : Int) \/ xs[k] = -1 - ((3 : Nat) : Int) := by omega
    have c0 := hx.cell (i := 0) (by omega)
    have c1 := hx.cell (i := 1) (by omega)
    have c2 := hx.cell (i := 2) (by omega)
    have c3 := hx.cell (i := 3) (by omega)
    have f0 := hx.frozen 0
    have f1 := hx.frozen 1
    have f2 := hx.frozen 2
    have f3 := hx.frozen 3
    have HK := Lib.hid (l1In_yes he)
    have HX := Lib.hid (And.intro hx (And.intro hon htk))
    clear he hx hon htk
    rcases hv with hv | hv | hv | hv
    all_goals
     have HV := Lib.hid hv
     rw [hv] at hck
     simp at hck
     clear hv
    ·go_wp2_with (go_at_call 124; refine (l1In_yes (by omega) _).mono ?_; rintro e w' ⟨rfl, rfl⟩)
     go_roundw
     case rel => exact ⟨k + 1, by omega, by go_num, by rw [HX.out.2.2]; exact HX.out.1.var (by omega) HV.out, HX.out.2.1.setCell (by simp) _⟩
     case measure => simp [intOf]; omega
    ·go_wp2_with (go_at_call 124; refine (l1In_yes (by omega) _).mono ?_; rintro e w' ⟨rfl, rfl⟩)
     go_roundw
     case rel => exact ⟨k + 1, by omega, by go_num, by rw [HX.out.2.2]; exact HX.out.1.var (by omega) HV.out, HX.out.2.1.setCell (by simp) _⟩
     case measure => simp [intOf]; omega
    ·go_wp2_with (go_at_call 124; refine (l1In_yes (by omega) _).mono ?_; rintro e w' ⟨rfl, rfl⟩)
     go_roundw
     case rel => exact ⟨k + 1, by omega, by go_num, by rw [HX.out.2.2]; exact HX.out.1.var (by omega) HV.out, HX.out.2.1.setCell (by simp) _⟩
     case measure => simp [intOf]; omega
    ·go_wp2_with (go_at_call 124; refine (l1In_yes (by omega) _).mono ?_; rintro e w' ⟨rfl, rfl⟩)
     go_roundw
     case rel => exact ⟨k + 1, by omega, by go_num, by rw [HX.out.2.2]; exact HX.out.1.var (by omega) HV.out, HX.out.2.1.setCell (by simp) _⟩
     case measure => simp [intOf]; omega
   ·have HK := Lib.hid (l1In_no he)
    have HX := Lib.hid (show MkRow wr g (maskFrom m (xs.take (k + 1))) by rw [htk]; unfold orV; rw [if_neg (by simp [isVarB]; omega)]; exact hx)
    clear he hx htk
    go_wp2_with (go_at_call 124; refine (HK.out _).mono ?_; rintro e w' ⟨rfl, rfl⟩)
    go_roundw
    case rel => exact ⟨k + 1, by omega, by go_num, HX.out, hon⟩
    case measure => simp [intOf]; omega
  ·have HX := Lib.hid (show MkRow wr g (maskFrom m xs) by rw [show k = xs.length by omega, List.take_length] at hx; exact hx)
   clear hx
   go_wp2_with (fail)
   go_end0
   exact ⟨rfl, HX.out, hon⟩
theorem MkRow.only {lo hi : Nat} {w w' : World} {g m : Nat} (h : MkRow w g m) (ho : Only lo hi w w') (hg : g < lo \/ hi <= g) : MkRow w' g m := (ho.block g h.lt hg).trans h
theorem made4 : madeCells #[Value.bool false] 4 = #[.bool false, .bool false, .bool false, .bool false] := by
 apply Array.ext
 ·simp [madeCells]
 ·intro i h1 h2
  simp [madeCells]
  match i, h2 with
  | 0, _ => rfl
  | 1, _ => rfl
  | 2, _ => rfl
  | 3, _ => rfl
theorem MkRow.made (w : World) : MkRow (w.alloc (.cells (madeCells #[.bool false] 4) 4)) w.heap.size 0 := by
 rw [made4]
 exact Blk.new w _ _
theorem Tryz.infoBool : (Tryz.prog.info? 4).map (fun i => (i.zero, i.size, i.bytes)) = some (some (.bool false), 1, 1) := by kernel_rfl
theorem make4 (W : World) : (Instr.makeSlice 280 (.int .i64 4) (.int .i64 4)).run Tryz.prog W = .ok (.slice (some ⟨W.heap.size, 0, none⟩) 4 4) (W.alloc (.cells (madeCells #[.bool false] 4) 4)) := by
 obtain ⟨i0, hi0, hz0, hz1, hz2⟩ := info_parts Tryz.infoBool
 have hmk := run_make_rowN (P := Tryz.prog) 280 4 i0 (.bool false) Tryz.underlying280 hi0 hz0 .i64 .i64 4 4 (Nat.le_refl _) (by rw [hz2]; omega) (by omega) W
 rw [hz1] at hmk
 simp only [Value.cells, Nat.mul_one] at hmk
 exact hmk
set_option maxHeartbeats 1000000 in
set_option maxRecDepth 100000 in
theorem l2Marks_any (v : Value) (r : LRule) (w : World) (h : RdRule w w.heap.size v r) (hr : szR r <= 1048576) :
 Calls Tryz.prog 252 #[v] w fun e w' => ∃ g, e = .returned (.slice (some ⟨g, 0, none⟩) 4 4) /\ MkRow w' g (ruleMask r) /\ w.heap.size <= g /\ Below w.heap.size w w' := by
 have hmk := make4
 obtain ⟨a, b, rfl, h, h2⟩ := h
 unfold szR at hr
 have H := Lib.hid h
 have H2 := Lib.hid h2
 obtain ⟨A, c, rfl, hc, _⟩ := h
 obtain ⟨A2, c2, rfl, hcc, _⟩ := h2
 go_enter Tryz.func252, Tryz.ntmps252
 go_wp2_with (fail)
 obtain ⟨w1, hw1⟩ : ∃ w1, w1 = w.alloc (Obj.cells #[Value.int IntKind.i64 r.1.1, Value.slice A r.1.2.length c, Value.slice A2 r.2.length c2] 138) := ⟨_, rfl⟩
 have B1 : Below w.heap.size w w1 := by rw [hw1]; exact below1 _ _
 have s1 : w1.heap.size = w.heap.size + 1 := by rw [hw1]; simp
 have x1 : Blk w1 w.heap.size 138 #[.int .i64 r.1.1, .slice A r.1.2.length c, .slice A2 r.2.length c2] := by rw [hw1]; exact Blk.new w _ _
 obtain ⟨w2, hw2⟩ : ∃ w2, w2 = w1.alloc (Obj.cells (madeCells #[Value.bool false] 4) 4) := ⟨_, rfl⟩
 have m2 : MkRow w2 (w.heap.size + 1) 0 := by rw [hw2, <- s1]; exact MkRow.made _
 have b2 : Below w1.heap.size w1 w2 := by rw [hw2]; exact below1 _ _
 have x2 := x1.below b2 x1.lt
 have B2 := bthen B1 b2
 rw [<- hw1, <- hw2]
 clear hw1 hw2
 refine (l2Mark_any (w.heap.size + 1) 0 _ r.1.2 _ m2 ((H.out.below B2 (Nat.le_refl _)).more (by omega)) (by omega)).mono ?_
 rintro e w3 ⟨rfl, m3, on3⟩
 have x3 := x2.only on3 (.inl (by omega))
 have B3 : Below w.heap.size w w3 := Only.then_ B2 on3 (by omega)
 have q3 : w3.cell? ⟨w.heap.size, 2, none⟩ = some (.slice A2 r.2.length c2) := x3.cell 2
 rw [maskFrom_eq, Nat.zero_or] at m3
 clear x1 x2 m2
 go_wp2_with (fail)
 go_loopw [4] (fun i wr => ∃ k : Nat, k <= r.2.length /\ i = .int .i64 k /\ MkRow wr (w.heap.size + 1) (maskOf r.1.2 ||| bodyMask (r.2.take k)) /\ Only (w.heap.size + 1) (w.heap.size + 2) w3 wr) (fun i _ => r.2.length - (intOf i).toNat)
 case atStart => exact ⟨0, Nat.zero_le _, rfl, by simpa [bodyMask] using m3, Only.refl _ _ _⟩
 case round =>
  obtain ⟨k, hk, rfl, hm, hon⟩ := hrel
  have BW : Below w.heap.size w wr := Only.then_ B3 hon (by omega)
  have xr := x3.only hon (.inl (by omega))
  have q2 : wr.cell? ⟨w.heap.size, 2, none⟩ = some (.slice A2 r.2.length c2) := xr.cell 2
  clear q3
  by_cases hlt : k < r.2.length
  ·obtain ⟨b, o, u0, u1, u2, rfl, hbB, k0, k1, k2, rfl, rfl, p3⟩ := (H2.out.below BW (Nat.le_refl _)).get hlt
   have HA := Lib.hid p3
   obtain ⟨A3, c3, rfl, hc3, _⟩ := p3
   have hle := len_le_totL r.2 k hlt
   go_wp2_with (fail)
   refine (l2Mark_any (w.heap.size + 1) _ _ r.2[k].2.2 _ hm (HA.out.more (by omega)) (by omega)).mono ?_
   rintro e w4 ⟨rfl, m4, on4⟩
   rw [maskFrom_eq, Nat.or_assoc, <- bodyMask_take hlt] at m4
   go_wp2_with (fail)
   go_roundw
   case rel => exact ⟨k + 1, by omega, by go_num, m4, hon.trans on4⟩
   case measure => simp [intOf]; omega
  ·have HX := Lib.hid (show MkRow wr (w.heap.size + 1) (ruleMask r) by rw [show k = r.2.length by omega, List.take_length] at hm; exact hm)
   clear hm
   go_wp2_with (fail)
   go_ret
   exact ⟨_, rfl, HX.out, by omega, BW⟩
open Go.RowKit
def safeTo (a b k : Nat) : Bool := (List.range k).all fun i => !(a.testBit i && !b.testBit i)
theorem safe_bits : ∀ a b : Fin 16, (bits .andNot .u64 ((a.val : Nat) : Int) ((b.val : Nat) : Int) == 0) = safeTo a.val b.val 4 := by decide +kernel
theorem ruleSafe_eq (r : LRule) : ruleSafe r = safeTo (ruleMask r) (yesMask r.2) 4 := safe_bits ⟨ruleMask r, ruleMask_lt r⟩ ⟨yesMask r.2, yesMask_lt' r.2⟩
theorem safeTo_step {a b k : Nat} (h : safeTo a b k = true) (e : (a.testBit k && !b.testBit k) = false) : safeTo a b (k + 1) = true := by
 unfold safeTo at h ⊢
 rw [List.range_succ, List.all_append, h, Bool.true_and]
 simp only [List.all_cons, List.all_nil, e]
 rfl
theorem safeTo_not {a b k : Nat} (hk : k < 4) (e : (a.testBit k && !b.testBit k) = true) : safeTo a b 4 = false := by
 unfold safeTo
 rw [List.all_eq_false]
 exact ⟨k, List.mem_range.2 hk, by simp [e]⟩
set_option maxHeartbeats 1000000 in
set_option maxRecDepth 100000 in
theorem specRuleSafe_any (v : Value) (r : LRule) (w : World) (h : RdRule w w.heap.size v r) (hr : szR r <= 1048576) :
 Calls Tryz.prog 207 #[v] w fun e w' => e = .returned (.bool (ruleSafe r)) /\ Below w.heap.size w w' := by
 have hmk := make4
 obtain ⟨a, b, rfl, h, h2⟩ := h
 have hsz := hr
 unfold szR at hr
 have H := Lib.hid h
 have H2 := Lib.hid h2
 obtain ⟨A, c, rfl, hc, _⟩ := h
 obtain ⟨A2, c2, rfl, hcc, _⟩ := h2
 go_enter Tryz.func207, Tryz.ntmps207
 go_wp2_with (fail)
 obtain ⟨w1, hw1⟩ : ∃ w1, w1 = w.alloc (Obj.cells #[Value.int IntKind.i64 r.1.1, Value.slice A r.1.2.length c, Value.slice A2 r.2.length c2] 138) := ⟨_, rfl⟩
 have B1 : Below w.heap.size w w1 := by rw [hw1]; exact below1 _ _
 have s1 : w1.heap.size = w.heap.size + 1 := by rw [hw1]; simp
 have x1 : Blk w1 w.heap.size 138 #[.int .i64 r.1.1, .slice A r.1.2.length c, .slice A2 r.2.length c2] := by rw [hw1]; exact Blk.new w _ _
 obtain ⟨w2, hw2⟩ : ∃ w2, w2 = w1.alloc (Obj.cells (madeCells #[Value.bool false] 4) 4) := ⟨_, rfl⟩
 have m2 : MkRow w2 (w.heap.size + 1) 0 := by rw [hw2, <- s1]; exact MkRow.made _
 have b2 : Below w1.heap.size w1 w2 := by rw [hw2]; exact below1 _ _
 have x2 := x1.below b2 x1.lt
 have B2 := bthen B1 b2
 have s2 : w2.heap.size = w.heap.size + 2 := by rw [hw2]; simp [s1]
 rw [<- hw1, <- hw2]
 clear hw1 hw2
 go_loopw [4] (fun i wr => ∃ k : Nat, k <= r.2.length /\ i = .int .i64 k /\ MkRow wr (w.heap.size + 1) (yesMask (r.2.take k)) /\ Only (w.heap.size + 1) (w.heap.size + 2) w2 wr) (fun i _ => r.2.length - (intOf i).toNat)
 case atStart => exact ⟨0, Nat.zero_le _, rfl, by simpa [yesMask] using m2, Only.refl _ _ _⟩
 case round =>
  obtain ⟨k, hk, rfl, hm, hon⟩ := hrel
  have BW : Below w.heap.size w wr := Only.then_ B2 hon (by omega)
  have xr := x2.only hon (.inl (by omega))
  have q0 : wr.cell? ⟨w.heap.size, 0, none⟩ = some (.int .i64 r.1.1) := xr.cell 0
  have q1 : wr.cell? ⟨w.heap.size, 1, none⟩ = some (.slice A r.1.2.length c) := xr.cell 1
  have q2 : wr.cell? ⟨w.heap.size, 2, none⟩ = some (.slice A2 r.2.length c2) := xr.cell 2
  by_cases hlt : k < r.2.length
  ·obtain ⟨b, o, u0, u1, u2, rfl, hbB, k0, k1, k2, rfl, rfl, p3⟩ := (H2.out.below BW (Nat.le_refl _)).get hlt
   have HA := Lib.hid p3
   obtain ⟨A3, c3, rfl, hc3, _⟩ := p3
   have hle := len_le_totL r.2 k hlt
   have hty := yesMask_take hlt
   by_cases h0 : r.2[k].1 = 0
   ·have hd : (r.2[k].1 == 0) = true := by simpa using h0
    rw [if_pos h0] at hty
    clear h0
    go_wp2_with (fail)
    refine (l2Mark_any (w.heap.size + 1) _ _ r.2[k].2.2 _ hm (HA.out.more (by omega)) (by omega)).mono ?_
    rintro e w4 ⟨rfl, m4, on4⟩
    rw [maskFrom_eq, <- hty] at m4
    clear hty
    go_wp2_with (fail)
    go_roundw
    case rel => exact ⟨k + 1, by omega, by go_num, m4, hon.trans on4⟩
    case measure => simp [intOf]; omega
   ·have hd : (r.2[k].1 == 0) = false := by simpa using h0
    rw [if_neg h0] at hty
    rw [<- hty] at hm
    have HM := Lib.hid hm
    clear hty hm h0
    go_wp2_with (fail)
    go_roundw
    case rel => exact ⟨k + 1, by omega, by go_num, HM.out, hon⟩
    case measure => simp [intOf]; omega
  ·have HX := Lib.hid (show MkRow wr (w.heap.size + 1) (yesMask r.2) by rw [show k = r.2.length by omega, List.take_length] at hm; exact hm)
   have hgs := hm.lt
   clear hm
   go_wp2_with (fail)
   refine (l2Marks_any _ r _ ⟨_, _, rfl, H.out.on BW, H2.out.on BW⟩ hsz).mono ?_
   rintro e w5 ⟨g2, rfl, m5, hg2, hb5⟩
   have B5 := bthen BW hb5
   have y5 := HX.out.below hb5 hgs
   have HE := Lib.hid (ruleSafe_eq r)
   go_wp2_with (fail)
   go_loop [6] (fun i => ∃ k : Nat, k <= 4 /\ i = .int .i64 k /\ safeTo (ruleMask r) (yesMask r.2) k = true) (fun i => 4 - (intOf i).toNat)
   case atStart => exact ⟨0, Nat.zero_le _, rfl, by simp [safeTo]⟩
   case round =>
    obtain ⟨j, hj, rfl, hs⟩ := hrel
    by_cases hjl : j < 4
    ·have c5 := m5.cell hjl
     have d5 := y5.cell hjl
     cases ha : (ruleMask r).testBit j
     ·rw [ha] at c5
      have HS := Lib.hid (safeTo_step hs (by rw [ha]; rfl))
      clear hs ha
      go_wp2_with (fail)
      go_round
      case rel => exact ⟨j + 1, by omega, by go_num, HS.out⟩
      case measure => simp [intOf]; omega
     ·rw [ha] at c5
      cases hb : (yesMask r.2).testBit j
      ·rw [hb] at d5
       have HS := Lib.hid (safeTo_not hjl (show ((ruleMask r).testBit j && !(yesMask r.2).testBit j) = true by rw [ha, hb]; rfl))
       clear hs ha hb
       go_wp2_with (fail)
       go_ret
       exact ⟨ret_bool (by rw [HE.out, HS.out]), B5⟩
      ·rw [hb] at d5
       have HS := Lib.hid (safeTo_step hs (by rw [ha, hb]; rfl))
       clear hs ha hb
       go_wp2_with (fail)
       go_round
       case rel => exact ⟨j + 1, by omega, by go_num, HS.out⟩
       case measure => simp [intOf]; omega
    ·have HS := Lib.hid (show safeTo (ruleMask r) (yesMask r.2) 4 = true by rw [show j = 4 by omega] at hs; exact hs)
     clear hs
     go_wp2_with (fail)
     go_ret
     exact ⟨ret_bool (by rw [HE.out, HS.out]), B5⟩
open Go.RowKit
theorem shift_any (v : Int) (h0 : 0 <= v) (h1 : v <= 3) (w : World) : Calls Tryz.prog 227 #[.int .i64 v] w fun e w' => e = .returned (.int .i64 ((3 - v) * 4)) /\ w = w' := by
 go_enter Tryz.func227, Tryz.ntmps227
 go_wp2
 go_ret
 exact ⟨rfl, rfl⟩
theorem shl_word {v : Nat} (hv : v < 4) {c : Int} (hc : -1 <= c /\ c <= 5) : (c + 1) * 2 ^ ((3 - v) * 4) % 4294967296 = ((shlB v c : Nat) : Int) := by
 unfold shlB
 match v, hv with
 | 0, _ => show (c + 1) * 4096 % 4294967296 = (((c + 1).toNat * 4096 : Nat) : Int); omega
 | 1, _ => show (c + 1) * 256 % 4294967296 = (((c + 1).toNat * 256 : Nat) : Int); omega
 | 2, _ => show (c + 1) * 16 % 4294967296 = (((c + 1).toNat * 16 : Nat) : Int); omega
 | 3, _ => show (c + 1) * 1 % 4294967296 = (((c + 1).toNat * 1 : Nat) : Int); omega
theorem or_word32 {a b : Nat} (ha : a < 65536) (hb : b < 65536) : bits .or .u32 (a : Int) (b : Int) = ((a ||| b : Nat) : Int) := u32_or_nat a b (by omega) (by omega)
theorem field_word {m v : Nat} (hm : m < 65536) : bits .and .u32 ((m : Int) / 2 ^ ((3 - v) * 4)) 15 = ((fieldB m v : Nat) : Int) := by
 have h := u32_and_nat (m / 2 ^ ((3 - v) * 4)) 15 (Nat.lt_of_le_of_lt (Nat.div_le_self _ _) (by omega)) (by omega)
 have e : (15 : Nat) = 2 ^ 4 - 1 := rfl
 rw [e, Nat.and_two_pow_sub_one_eq_mod] at h
 simpa [fieldB] using h
theorem fieldB_lt (m v : Nat) : fieldB m v < 16 := Nat.mod_lt _ (by omega)
theorem with_any (m v : Nat) (c : Int) (hm : m < 65536) (hv : v < 4) (hc : -1 <= c /\ c <= 5) (w : World) :
 Calls Tryz.prog 178 #[.int .u32 (m : Nat), .int .i64 (v : Nat), .int .i64 c] w fun e w' => e = .returned (.int .u32 ((m ||| shlB v c : Nat) : Int)) /\ w = w' := by
 go_enter Tryz.func178, Tryz.ntmps178
 go_wp2_with (go_at_call 227; refine (shift_any _ (by omega) (by omega) _).mono ?_; rintro e w' ⟨rfl, rfl⟩)
 go_ret
 exact ⟨ret_int (by rw [shl_word hv hc, or_word32 hm (shlB_lt hv hc)]), rfl⟩
theorem constant_any (m v : Nat) (hm : m < 65536) (hv : v < 4) (w : World) :
 Calls Tryz.prog 226 #[.int .u32 (m : Nat), .int .i64 (v : Nat)] w fun e w' => e = .returned (.int .i64 ((fieldB m v : Nat) - 1)) /\ w = w' := by
 go_enter Tryz.func226, Tryz.ntmps226
 go_wp2_with (go_at_call 227; refine (shift_any _ (by omega) (by omega) _).mono ?_; rintro e w' ⟨rfl, rfl⟩)
 go_ret
 exact ⟨ret_int (by have := fieldB_lt m v; rw [field_word hm, IntWalk.wrap64_in (fieldB m v : Nat) (by omega), IntWalk.wrap64_in _ (by omega)]), rfl⟩
theorem value_any (bs : List Int) (hb : bindOk bs = true) (t : Int) (ht : termOk t = true) (w : World) :
 Calls Tryz.prog 177 #[.int .u32 (encB bs : Nat), .int .i64 t] w fun e w' => e = .returned (.int .i64 (termVal bs t)) /\ w = w' := by
 have htb := termOk_at ht
 by_cases h1 : isVarB t = true
 ·have hv : -4 <= t /\ t <= -1 := by simpa [isVarB] using h1
  obtain ⟨v, hv4, rfl⟩ : ∃ v : Nat, v < 4 /\ t = -1 - (v : Int) := ⟨(-1 - t).toNat, by omega, by omega⟩
  have HE := Lib.hid (show ((fieldB (encB bs) v : Nat) : Int) - 1 = termVal bs (-1 - (v : Int)) by
   rw [fieldB_enc hb hv4, termVal_var (by omega)]
   congr 1
   omega)
  have HN := Lib.hid (show -1 - (-1 - (v : Int)) = (v : Int) by omega)
  have hlt := encB_lt hb
  generalize encB bs = m at HE hlt
  go_enter Tryz.func177, Tryz.ntmps177
  go_wp2_with (first | (go_at_call 225; refine (isVar_is h1 _).mono ?_; rintro e w' ⟨rfl, rfl⟩) | (go_at_call 179; refine (varNumber_any _ hv.1 hv.2 _).mono ?_; rintro e w' ⟨rfl, rfl⟩; rw [HN.out]) | (go_at_call 226; refine (constant_any _ _ hlt hv4 _).mono ?_; rintro e w' ⟨rfl, rfl⟩))
  go_ret
  exact ⟨ret_int HE.out, rfl⟩
 ·have h2 : isVarB t = false := by simpa using h1
  have h0 : 0 <= t := by simp [isVarB] at h2; omega
  have HE := Lib.hid (termVal_const (bs := bs) h0).symm
  go_enter Tryz.func177, Tryz.ntmps177
  go_wp2_with (go_at_call 225; refine (isVar_is h2 _).mono ?_; rintro e w' ⟨rfl, rfl⟩)
  go_ret
  exact ⟨ret_int HE.out, rfl⟩
open Go.RowKit
set_option maxHeartbeats 400000 in
theorem values_any (v : Value) (bs args : List Int) (hb : bindOk bs = true) (ht : args.all termOk = true) (w : World) (h : RdInts w w.heap.size v args) (hr : args.length <= 1048576) :
 Calls Tryz.prog 188 #[.int .u32 (encB bs : Nat), v] w fun e w' => ∃ A' c', e = .returned (.slice A' args.length c') /\ OwnInts w' w.heap.size w'.heap.size (.slice A' args.length c') (args.map (termVal bs)) /\ Below w.heap.size w w' := by
 obtain ⟨A, c, rfl, hc, hcell⟩ := h
 have hmk := run_make_row' (P := Tryz.prog) 22 3 (.int .i64 0) 8 Tryz.underlying22 Tryz.infoInt rfl .i64 .i64 args.length (by omega) (by omega)
 have HV := Lib.hid (fun t ht => value_any bs hb t ht)
 generalize encB bs = m at HV
 obtain ⟨ys, hys⟩ : ∃ ys, ys = args.map (termVal bs) := ⟨_, rfl⟩
 have hyl : ys.length = args.length := by rw [hys]; simp
 have HY := Lib.hid hys
 have HYL := Lib.hid hyl
 clear hys hyl
 go_enter Tryz.func188, Tryz.ntmps188
 go_wp2_with (fail)
 go_loopw [6, 7, 13] (fun _ _ i wr => ∃ k : Nat, k <= args.length /\ i = .int .i64 k /\ wr.rowIs w.heap.size 3 args.length (fun j => if j < k then .int .i64 (ys.getD j 0) else .int .i64 0) /\ Below w.heap.size w wr)
  (fun _ _ i _ => args.length - (intOf i).toNat)
 case atStart => exact ⟨0, Nat.zero_le _, rfl, (World.rowIs_made w _ _ _).congr (fun j _ => by simp), (Below.refl _ _).alloc (Nat.le_refl _) _⟩
 case round =>
  obtain ⟨k, hk, rfl, hrow, hb⟩ := hrel
  by_cases hlt : k < args.length
  ·obtain ⟨b, o, rfl, hbB, hx⟩ := hcell (by omega)
   have hck : wr.cell? ⟨b, o + k, none⟩ = some (.int .i64 args[k]) := (hb.cell (p := ⟨b, o + k, none⟩) hbB).trans (hx k hlt)
   have hok : termOk args[k] = true := List.all_eq_true.1 ht _ (List.getElem_mem hlt)
   have hc2 := hrow.cell hlt
   have hf2 := hrow.frozen k
   have HV2 := Lib.hid (HV.out _ hok)
   have HG := Lib.hid (show ys.getD k 0 = termVal bs args[k] by rw [HY.out]; simp [hlt])
   clear hx
   have HR := Lib.hid hrow
   clear hrow hok
   go_wp2_with (go_at_call 177; refine (HV2.out _).mono ?_; rintro e w' ⟨rfl, rfl⟩)
   go_roundw
   case rel =>
    refine ⟨k + 1, by omega, by go_num, (HR.out.set k _).congr (fun j hj => ?_), hb.setCell (Nat.le_refl _) _⟩
    by_cases e : j = k
    ·subst e
     simp only [if_true]
     rw [if_pos (by omega), HG.out]
    ·rw [if_neg e]
     by_cases h2 : j < k
     ·rw [if_pos h2, if_pos (by omega)]
     ·rw [if_neg h2, if_neg (by omega)]
   case measure => simp [intOf]; omega
  ·have hkn : k = args.length := by omega
   have HO : OwnInts wr w.heap.size wr.heap.size (.slice (some ⟨w.heap.size, 0, none⟩) ys.length ys.length) ys :=
    OwnInts.of_rowIs (by rw [HYL.out]; exact hrow.congr (fun j hj => by rw [if_pos (by omega)])) (Nat.le_refl _) hrow.lt (by have := HYL.out; unfold maxLen; omega)
   rw [HYL.out, HY.out] at HO
   clear hrow hcell
   have HH := Lib.hid HO
   clear HO
   clear hkn
   go_wp2_with (fail)
   go_ret
   exact ⟨_, _, rfl, HH.out, hb⟩
open Go.RowKit
open Go.RowKit
def litFine (l : LLit) : Bool := decide (0 <= l.1 /\ l.1 <= 3) && l.2.2.all termOk
def bodySafe (ls : List LLit) : Bool := (ls.all litFine && decide (ls.length <= 4)) && ruleSafe ((0, []), ls)
theorem litFine_yes {l : LLit} (h : 0 <= l.1 /\ l.1 <= 3) (h2 : l.2.2.all termOk = true) : litFine l = true := by unfold litFine; rw [h2, decide_eq_true h]; rfl
theorem ruleMask_body (ls : List LLit) : ruleMask ((0, []), ls) = bodyMask ls := by simp [ruleMask, maskOf, maskFrom]
theorem l2Terms_is {xs : List Int} {b : Bool} (e : xs.all termOk = b) (v : Value) (B : Nat) (w : World) (h : RdInts w B v xs) (hr : xs.length <= 1048576) :
 Calls Tryz.prog 125 #[v] w fun e w' => e = .returned (.bool b) /\ w = w' := e ▸ l2Terms_any v xs B w h hr
end Go.Proofs.YtmnolnmpglanfaaGreatDoor
