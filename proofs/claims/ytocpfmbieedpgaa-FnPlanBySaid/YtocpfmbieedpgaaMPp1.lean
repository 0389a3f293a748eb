/-
  Texts that the claim's last one imports, laid together: part 1 of 4. No condition of its own.
-/
import Derived.Test.YtocpfmbieedpgaaMPb3
import Derived.Laws.Bits64
import Derived.Laws.BitsAllLaws
import Derived.Test.YtocpfmbieedpgaaMPr1
import Derived.Test.YtocpfmbieedpgaaMPb4
import Derived.Test.YtocpfmbieedpgaaMPb2
/-
  The reader that the drawing goes by: bytes that are read, and pick.
-/
namespace Go.Proofs.Ytocpfmbieedpgaa
open Go.RowKit

/-- The slice value v reads as the bytes bs, in blocks below B. -/
def RdBytes (w : World) (B : Nat) (v : Value) (bs : List Nat) : Prop :=
  ∃ A c, v = .slice A bs.length c ∧ bs.length ≤ c ∧ (0 < bs.length → ∃ b o, A = some ⟨b, o, none⟩ ∧ b < B ∧ ∀ k (h : k < bs.length), w.cell? ⟨b, o + k, none⟩ = some (.int .u8 (bs[k] : Nat)))

theorem RdBytes.off {w w' : World} {B : Nat} {v : Value} {bs : List Nat} (h : RdBytes w B v bs) (hb : ∀ k, k < B → w'.heap[k]? = w.heap[k]?) : RdBytes w' B v bs := by
  obtain ⟨A, c, rfl, hc, h⟩ := h
  refine ⟨A, c, rfl, hc, fun hn => ?_⟩
  obtain ⟨b, o, rfl, hlt, hk⟩ := h hn
  refine ⟨b, o, rfl, hlt, fun k hkl => ?_⟩
  rw [← hk k hkl]
  simp [World.cell?, hb b hlt]

/-- Block g is a reader: it stands at p, in bytes below g, all below 256. -/
def Rdr (w : World) (g : Nat) (bs : List Nat) (p : Nat) : Prop :=
  (∃ v, Blk w g 136 #[v, .int .i64 p] ∧ RdBytes w g v bs) ∧ bs.length ≤ 2000 ∧ ∀ b ∈ bs, b < 256

theorem Rdr.lt {w : World} {g : Nat} {bs : List Nat} {p : Nat} (h : Rdr w g bs p) : g < w.heap.size := by
  obtain ⟨⟨v, hb, _⟩, _⟩ := h
  exact hb.lt

theorem Rdr.below {w w' : World} {g : Nat} {bs : List Nat} {p : Nat} (h : Rdr w g bs p) {B : Nat} (hb : Below B w w') (hB : g < B) : Rdr w' g bs p := by
  obtain ⟨⟨v, hv, hr⟩, h1, h2⟩ := h
  exact ⟨⟨v, hv.below hb hB, hr.off fun k hk => hb.block k (by omega)⟩, h1, h2⟩

theorem Rdr.next {w : World} {g : Nat} {bs : List Nat} {p : Nat} (h : Rdr w g bs p) : Rdr (w.setCell ⟨g, 1, none⟩ (.int .i64 ((p : Int) + 1))) g bs (p + 1) := by
  obtain ⟨⟨v, hv, hr⟩, h1, h2⟩ := h
  exact ⟨⟨v, by simpa using hv.set_ 1 (.int .i64 ((p : Int) + 1)), hr.off fun k hk => Below.heap_setCell _ _ _ _ (by show k ≠ g; omega)⟩, h1, h2⟩

/-- What pick leaves. -/
def Picked (w w' : World) (g : Nat) (bs : List Nat) (p : Nat) : Prop := Rdr w' g bs (p + 1) ∧ Only g (g + 1) w w'

theorem picked_set {w : World} {g : Nat} {bs : List Nat} {p : Nat} (h : Rdr w g bs p) : Picked w (w.setCell ⟨g, 1, none⟩ (.int .i64 ((p : Int) + 1))) g bs p :=
  ⟨h.next, (Only.refl g (g + 1) w).setCell (p := ⟨g, 1, none⟩) ⟨Nat.le_refl g, Nat.lt_succ_self g⟩ _⟩
theorem Picked.drewN {w w' : World} {g : Nat} {bs : List Nat} {p : Nat} (h : Picked w w' g bs p) (n : Nat) : Picked w (w'.drewN n) g bs p :=
  ⟨h.1, ⟨h.2.os, h.2.tape, h.2.output, h.2.size, h.2.block⟩⟩

/-- What pick may answer. -/
def PickOf (n x : Int) : Prop := (0 < n → 0 ≤ x ∧ x < n) ∧ (n < 1 → x = 0)
theorem PickOf.of {n x : Int} (h1 : 1 ≤ n) (h : 0 ≤ x ∧ x < n) : PickOf n x := ⟨fun _ => h, fun h2 => by omega⟩
theorem PickOf.zero (n : Int) : PickOf n 0 := ⟨fun h => ⟨Int.le_refl _, h⟩, fun _ => rfl⟩
theorem xor_i64 (X Y : Nat) (hX : X < 4611686018427387904) (hY : Y < 4611686018427387904) : bits .xor .i64 (X : Int) (Y : Int) = ((X ^^^ Y : Nat) : Int) ∧ X ^^^ Y < 4611686018427387904 := by
  have hx : X ^^^ Y < 2 ^ 62 := Nat.xor_lt_two_pow (by omega) (by omega)
  refine ⟨?_, by omega⟩
  have h1 : (BitVec.ofInt 64 (X : Int)).toNat = X := by
    rw [BitVec.ofInt_natCast, BitVec.toNat_ofNat]; exact Nat.mod_eq_of_lt (by omega)
  have h2 : (BitVec.ofInt 64 (Y : Int)).toNat = Y := by
    rw [BitVec.ofInt_natCast, BitVec.toNat_ofNat]; exact Nat.mod_eq_of_lt (by omega)
  show IntKind.i64.wrap ((BitVec.ofInt 64 (X : Int) ^^^ BitVec.ofInt 64 (Y : Int)).toNat : Int) = _
  rw [BitVec.toNat_xor, h1, h2]
  simp [IntKind.wrap, IntKind.bits, IntKind.signed]
  omega
theorem emod_range {n y : Int} (h1 : 1 ≤ n) : 0 ≤ y % n ∧ y % n < n := ⟨Int.emod_nonneg _ (by omega), Int.emod_lt_of_pos _ (by omega)⟩

set_option maxHeartbeats 1000000 in
set_option maxRecDepth 100000 in
theorem pick_any (g : Nat) (bs : List Nat) (p : Nat) (n : Int) (w : World) (h : Rdr w g bs p) (hp : p ≤ 1073741824) (hn : n ≤ 1073741824) :
    Calls Try.prog 59 #[.pointer (some ⟨g, 0, none⟩), .int .i64 n] w fun e w' => (∃ x, e = .returned (.int .i64 x) ∧ PickOf n x) ∧ Picked w w' g bs p := by
  have HP := Lib.hid (picked_set h)
  have hN := h.next
  obtain ⟨⟨v, hv, hr⟩, hlen, hby⟩ := h
  obtain ⟨A, c, rfl, hc, ha⟩ := hr
  have c0 : w.cell? ⟨g, 1, none⟩ = some (.int .i64 p) := hv.cell 1
  have f0 : w.frozen? ⟨g, 1, none⟩ = false := hv.frozen 1
  have hB2 := hv.set_ 1 (.int .i64 ((p : Int) + 1))
  have d0 : (w.setCell ⟨g, 1, none⟩ (.int .i64 ((p : Int) + 1))).cell? ⟨g, 0, none⟩ = some (.slice A bs.length c) := by rw [hB2.cell 0]; rfl
  have d1 : (w.setCell ⟨g, 1, none⟩ (.int .i64 ((p : Int) + 1))).cell? ⟨g, 1, none⟩ = some (.int .i64 ((p : Int) + 1)) := by rw [hB2.cell 1]; simp
  by_cases h1 : n < 1
  · clear ha hv hN hB2
    go_enter Try.func59, Try.ntmps59
    go_wp2_with (fail)
    go_ret
    exact ⟨⟨0, rfl, PickOf.zero n⟩, HP.out⟩
  · by_cases hl0 : bs.length = 0
    · have hz : ((bs.length : Int) == 0) = true := by simp [hl0]
      have hd1 : decide (n < 1) = false := by simpa using h1
      clear ha hv hN hB2
      go_enter Try.func59, Try.ntmps59
      go_wp2_with (fail)
      go_ret
      exact ⟨⟨0, rfl, PickOf.zero n⟩, HP.out⟩
    · have hz : ((bs.length : Int) == 0) = false := by
        have : (bs.length : Int) ≠ 0 := by omega
        simpa using this
      have hd1 : decide (n < 1) = false := by simpa using h1
      obtain ⟨b, o, rfl, hbg, hx⟩ := ha (Nat.pos_of_ne_zero hl0)
      have hcell : ∀ k (h : k < bs.length), (w.setCell ⟨g, 1, none⟩ (.int .i64 ((p : Int) + 1))).cell? ⟨b, o + k, none⟩ = some (.int .u8 (bs[k] : Nat)) := fun k hk => by
        rw [← hx k hk]
        simp only [World.cell?, Below.heap_setCell w ⟨g, 1, none⟩ (.int .i64 ((p : Int) + 1)) b (by exact Nat.ne_of_lt hbg)]
      by_cases hlt : p < bs.length
      · have hck := hcell p hlt
        have hdl : decide ((p : Int) < bs.length) = true := by simp; omega
        have hbb : bs[p] < 256 := hby _ (List.getElem_mem hlt)
        generalize hbp : bs[p] = bp at *
        clear ha hv hN hB2 hx hcell hby
        go_enter Try.func59, Try.ntmps59
        go_wp2_with (fail)
        go_ret
        exact ⟨⟨_, rfl, PickOf.of h1 (emod_range h1)⟩, HP.out⟩
      · have hdl : decide ((p : Int) < bs.length) = false := by simp; omega
        have hL : 0 < bs.length := by omega
        have hm1 : p % bs.length < bs.length := Nat.mod_lt _ hL
        have hm2 : (p * 7 + 3) % bs.length < bs.length := Nat.mod_lt _ hL
        have hck1 := hcell _ hm1
        have hck2 := hcell _ hm2
        have hb1 : bs[p % bs.length] < 256 := hby _ (List.getElem_mem hm1)
        have hb2 : bs[(p * 7 + 3) % bs.length] < 256 := hby _ (List.getElem_mem hm2)
        have hi1 : (p : Int) % (bs.length : Int) = ((p % bs.length : Nat) : Int) := by simp
        have hi2 : ((p : Int) * 7 + 3) % (bs.length : Int) = (((p * 7 + 3) % bs.length : Nat) : Int) := by simp
        have hqd : ((p : Int) / (bs.length : Int)) = ((p / bs.length : Nat) : Int) := by simp
        have hqb : p / bs.length ≤ 1073741824 := Nat.le_trans (Nat.div_le_self _ _) hp
        generalize bs[p % bs.length] = b1 at *
        generalize bs[(p * 7 + 3) % bs.length] = b2 at *
        generalize p % bs.length = m1 at *
        generalize (p * 7 + 3) % bs.length = m2 at *
        generalize p / bs.length = q at *
        obtain ⟨X, hX, hXb⟩ : ∃ X : Nat, (b1 : Int) * 131 + (b2 : Int) * 1117 + (p : Int) * 29 + (q : Int) * 53 = (X : Int) ∧ X < 1125899906842624 := ⟨b1 * 131 + b2 * 1117 + p * 29 + q * 53, by omega, by omega⟩
        obtain ⟨Y, hY, hYb⟩ : ∃ Y : Nat, (X : Int) / 64 = (Y : Int) ∧ Y < 1125899906842624 := ⟨X / 64, by omega, by omega⟩
        obtain ⟨hxr, hxb⟩ := xor_i64 X Y (by omega) (by omega)
        generalize X ^^^ Y = Z at *
        clear ha hv hN hB2 hx hcell hby
        go_enter Try.func59, Try.ntmps59
        go_wp2_with (fail)
        go_quiet (fail)
        go_wp2_with (fail)
        go_ret
        exact ⟨⟨_, rfl, PickOf.of h1 (emod_range h1)⟩, HP.out.drewN _⟩

end Go.Proofs.Ytocpfmbieedpgaa
/-
  Marks on lists of facts: the words, and the walks of markFactS, markFact, heldFactS.
-/
namespace Go.Proofs.Ytocpfmbieedpgaa
open Go.RowKit

/-- The facts that marks from k on leave. -/
def markF : Int → List LFact → List LFact
  | _, [] => []
  | k, f :: fs => (k, seqI (k + 1) f.2.length) :: markF (k + 1 + (f.2.length : Int)) fs
/-- The mark behind the last one. -/
def endF (k : Int) (fs : List LFact) : Int := k + (fs.length : Int) + (tot fs : Int)

theorem tot_cons (f : LFact) (fs : List LFact) : tot (f :: fs) = f.2.length + tot fs := by simp [tot]
theorem tot_append (xs ys : List LFact) : tot (xs ++ ys) = tot xs + tot ys := by simp [tot]
theorem markF_length : ∀ (k : Int) (fs : List LFact), (markF k fs).length = fs.length
  | _, [] => rfl
  | k, f :: fs => by simp [markF, markF_length _ fs]
theorem markF_tot : ∀ (k : Int) (fs : List LFact), tot (markF k fs) = tot fs
  | _, [] => rfl
  | k, f :: fs => by simp [markF, tot_cons, seqI_length, markF_tot _ fs]
theorem markF_snoc : ∀ (k : Int) (fs : List LFact) (f : LFact), markF k (fs ++ [f]) = markF k fs ++ [(endF k fs, seqI (endF k fs + 1) f.2.length)]
  | k, [], f => by simp [markF, endF, tot]
  | k, g :: fs, f => by
    have h := markF_snoc (k + 1 + (g.2.length : Int)) fs f
    have e : endF (k + 1 + (g.2.length : Int)) fs = endF k (g :: fs) := by simp [endF, tot_cons]; omega
    rw [e] at h
    simp [markF, h]
def markedF (fs : List LFact) (k : Int) (j : Nat) : List LFact := markF k (fs.take j) ++ fs.drop j
theorem markedF_length {fs : List LFact} {k : Int} {j : Nat} (h : j ≤ fs.length) : (markedF fs k j).length = fs.length := by simp [markedF, markF_length]; omega
theorem markedF_at {fs : List LFact} {k : Int} {j : Nat} (h : j < fs.length) (h' : j < (markedF fs k j).length) : (markedF fs k j)[j] = fs[j] := by
  have hl : (markF k (fs.take j)).length = j := by rw [markF_length]; simp; omega
  have e : (markedF fs k j)[j]? = some fs[j] := by
    unfold markedF
    rw [List.getElem?_append_right (by omega), hl]
    simp [h]
  rw [List.getElem?_eq_getElem h'] at e
  exact Option.some.inj e
theorem markedF_step {fs : List LFact} {k : Int} {j : Nat} (h : j < fs.length) : (markedF fs k j).set j (endF k (fs.take j), seqI (endF k (fs.take j) + 1) fs[j].2.length) = markedF fs k (j + 1) := by
  have hl : (markF k (fs.take j)).length = j := by rw [markF_length]; simp; omega
  unfold markedF
  rw [List.drop_eq_getElem_cons h, List.set_append_right _ _ (by omega), hl, Nat.sub_self, List.set_cons_zero, take_snoc fs j h, markF_snoc]
  simp
theorem markedF_zero (fs : List LFact) (k : Int) : markedF fs k 0 = fs := by simp [markedF, markF]
theorem markedF_all (fs : List LFact) (k : Int) : markedF fs k fs.length = markF k fs := by simp [markedF]
theorem markF_at {fs : List LFact} {k : Int} {j : Nat} (h : j < fs.length) (h' : j < (markF k fs).length) : (markF k fs)[j] = (endF k (fs.take j), seqI (endF k (fs.take j) + 1) fs[j].2.length) := by
  have e : fs = fs.take (j + 1) ++ fs.drop (j + 1) := (List.take_append_drop _ _).symm
  have hl : (markF k (fs.take j)).length = j := by rw [markF_length]; simp; omega
  have hp : ∀ (xs ys : List LFact) (k : Int), ∃ zs, markF k (xs ++ ys) = markF k xs ++ zs := by
    intro xs
    induction xs with
    | nil => intro ys k; exact ⟨_, rfl⟩
    | cons x xs ih =>
      intro ys k
      obtain ⟨zs, hz⟩ := ih ys (k + 1 + (x.2.length : Int))
      exact ⟨zs, by simp [markF, hz]⟩
  obtain ⟨zs, hz⟩ := hp (fs.take (j + 1)) (fs.drop (j + 1)) k
  rw [← e, take_snoc fs j h, markF_snoc] at hz
  have : (markF k fs)[j]? = some (endF k (fs.take j), seqI (endF k (fs.take j) + 1) fs[j].2.length) := by
    rw [hz, List.append_assoc, List.getElem?_append_right (by omega), hl]
    simp
  rw [List.getElem?_eq_getElem h'] at this
  exact Option.some.inj this
theorem endF_zero (k : Int) (fs : List LFact) : endF k (fs.take 0) = k := by simp [endF, tot]
theorem endF_step {fs : List LFact} {k : Int} {j : Nat} (h : j < fs.length) : endF k (fs.take (j + 1)) = endF k (fs.take j) + 1 + (fs[j].2.length : Int) := by
  have := tot_take fs j h
  simp only [endF, List.length_take, this]
  omega
theorem tot_take_le (fs : List LFact) (j : Nat) : tot (fs.take j) ≤ tot fs := by
  have := tot_append (fs.take j) (fs.drop j)
  rw [List.take_append_drop] at this
  omega

/-- A row of facts of the call's own, its rows of integers named. -/
structure OwnFA (w : World) (lo hi : Nat) (v : Value) (fs : List LFact) (av : List Value) : Prop where
  args : OwnArgs w lo hi av (fs.map (·.2))
  row : w.ownsRow lo 118 2 v fs.length (flat fs av)
  lt : ∀ g, v.ownBlock = some g → g < hi
theorem OwnFA.own {w : World} {lo hi : Nat} {v : Value} {fs : List LFact} {av : List Value} (h : OwnFA w lo hi v fs av) : OwnFacts w lo hi v fs := ⟨av, h.args, h.row, h.lt⟩

theorem flat_set : ∀ (fs : List LFact) (av : List Value) (j : Nat) (f : LFact), av.length = fs.length → flat (fs.set j f) av = (flat fs av).set (j * 2) (.int .i64 f.1)
  | [], [], _, _, _ => rfl
  | [], a :: av, _, _, h => by simp at h
  | g :: fs, [], _, _, h => by simp at h
  | g :: fs, a :: av, 0, f, _ => by simp [flat]
  | g :: fs, a :: av, j + 1, f, h => by
    have := flat_set fs av j f (by simpa using h)
    simp [flat, Nat.add_mul, this]

/-- The block of a row of integers is no block of a row of facts. -/
theorem types_ne {w : World} {lo hi lo' g : Nat} {n : Nat} {v a : Value} {zs : List Value} {xs : List Int} (hr : w.ownsRow lo' 118 2 v n zs) (hv : v.ownBlock = some g) (ha : OwnInts w lo hi a xs) : a.ownBlock ≠ some g := by
  rcases hr.2 with ⟨rfl, _⟩ | ⟨g1, c1, cur1, rfl, _, h1, _⟩
  · cases hv
  · have e : g1 = g := by simpa [Value.ownBlock] using hv
    subst e
    rcases ha.1.2 with ⟨rfl, _⟩ | ⟨g2, c2, cur2, rfl, _, h2, _⟩
    · simp [Value.ownBlock]
    · intro e
      have e : g2 = g1 := by simpa [Value.ownBlock] using e
      subst e
      rw [h1] at h2
      injection h2 with h2
      injection h2 with _ h2
      exact absurd h2 (by decide)

theorem OwnFA.step {w w3 : World} {lo hi g j c : Nat} {fs : List LFact} {av : List Value} {p : Int} {ys : List Int} (h : OwnFA w lo hi (.slice (some ⟨g, 0, none⟩) fs.length c) fs av) (hj : j < fs.length) (hja : j < av.length)
    (hI : OwnInts w3 lo hi av[j] ys) (hg : (w.setCell ⟨g, j * 2, none⟩ (.int .i64 p)).grownBy w3 av[j].ownBlock) : OwnFA w3 lo hi (.slice (some ⟨g, 0, none⟩) fs.length c) (fs.set j (p, ys)) av := by
  obtain ⟨ha, hr, hlt⟩ := h
  have hlen : av.length = fs.length := by simpa using ha.len
  have hapart : ∀ i i' (hi' : i < av.length) (hi'' : i' < av.length), i ≠ i' → ∀ b, av[i].ownBlock = some b → av[i'].ownBlock ≠ some b := by
    intro i i' h1 h2 hne b hb hb'
    have hp := List.pairwise_iff_getElem.1 ha.apart
    rcases Nat.lt_or_gt_of_ne hne with hl | hl
    · exact hp i i' h1 h2 hl b hb hb'
    · exact hp i' i h2 h1 hl b hb' hb
  have hown : ∀ i (h1 : i < (fs.map (·.2)).length) (h2 : i < av.length), OwnInts w lo hi av[i] (fs.map (·.2))[i] := ha.own
  refine ⟨⟨by simp [hlen], fun i h1 h2 => ?_, ha.apart⟩, ?_, hlt⟩
  · by_cases e : i = j
    · subst e
      simpa using hI
    · have h0 := hown i (by simpa using h1) h2
      have hz : ((fs.set j (p, ys)).map (·.2))[i] = (fs.map (·.2))[i]'(by simpa using h1) := by
        simp [Ne.symm e]
      rw [hz]
      refine h0.kept fun b hb => ?_
      have hbg := types_ne hr rfl h0
      have hne : b ≠ g := fun e => hbg (by rw [hb, e])
      have hbl := h0.lt hb
      rw [hg.block b (by simpa using hbl.2.2) (fun e2 => hapart i j h2 hja e b hb e2.symm)]
      exact Below.heap_setCell _ _ _ _ hne
  · obtain ⟨hfl, hr2⟩ := hr
    have hgj := types_ne ⟨hfl, hr2⟩ rfl (hown j (by simpa using hj) hja)
    rcases hr2 with ⟨e, _⟩ | ⟨g', cap, cur, e, hbg, hgg, hn, hm, hs, ht⟩
    · cases e
    · injection e with e1 e2 e3
      injection e1 with e1
      injection e1 with e1 _ _
      subst e1
      subst e3
      have hgs := (Array.getElem?_eq_some_iff.1 hgg).1
      refine ⟨by rw [flat_set _ _ _ _ hlen]; simpa using hfl, .inr ⟨g, c, cur.setIfInBounds (j * 2) (.int .i64 p), by simp, hbg, ?_, by simpa using hn, hm, by simpa using hs, ?_⟩⟩
      · rw [hg.block g (by simpa using hgs) (fun e2 => hgj e2.symm)]
        simp [World.setCell, Array.getElem?_modify, hgg]
      · rw [flat_set _ _ _ _ hlen, List.length_set, Array.toList_setIfInBounds, List.take_set, ht]

theorem OwnFA.form {w : World} {lo hi : Nat} {v : Value} {fs : List LFact} {av : List Value} (h : OwnFA w lo hi v fs av) : ∃ A c, v = .slice A fs.length c ∧ (0 < fs.length → ∃ g, A = some ⟨g, 0, none⟩ ∧ lo ≤ g ∧ g < hi) := by
  rcases h.row.2 with ⟨rfl, h0⟩ | ⟨g, cap, _, rfl, hb, _⟩
  · exact ⟨none, 0, by rw [h0], fun hn => by omega⟩
  · exact ⟨_, _, rfl, fun _ => ⟨g, rfl, hb, h.lt g rfl⟩⟩
theorem OwnFacts.form {w : World} {lo hi : Nat} {v : Value} {fs : List LFact} (h : OwnFacts w lo hi v fs) : ∃ A c, v = .slice A fs.length c := by
  obtain ⟨av, h1, h2, h3⟩ := h
  obtain ⟨A, c, e, _⟩ := (OwnFA.mk h1 h2 h3).form
  exact ⟨A, c, e⟩
/-- What the walk reads of fact j. -/
theorem OwnFA.get {w : World} {lo hi g c j : Nat} {fs : List LFact} {av : List Value} (h : OwnFA w lo hi (.slice (some ⟨g, 0, none⟩) fs.length c) fs av) (hj : j < fs.length) (hja : j < av.length) :
    w.cell? ⟨g, j * 2, none⟩ = some (.int .i64 fs[j].1) ∧ w.frozen? ⟨g, j * 2, none⟩ = false ∧ w.cell? ⟨g, j * 2 + 1, none⟩ = some av[j] := by
  have hl : av.length = fs.length := by simpa using h.args.len
  have hcells := @World.ownsRow.cells w lo 118 2 _ fs.length (flat fs av) h.row g rfl
  have h1 := hcells _ _ (flat_at fs av hl j hj hja).1
  have h2 := hcells _ _ (flat_at fs av hl j hj hja).2
  rw [Go.WideShapes.add_plain, Nat.zero_add] at h1 h2
  refine ⟨h1, ?_, h2⟩
  rcases h.row.2 with ⟨e, _⟩ | ⟨g', cap, cur, e, _, hgg, _⟩
  · cases e
  · injection e with e1 _ _
    injection e1 with e1
    injection e1 with e1 _ _
    subst e1
    simp [World.frozen?, hgg]

theorem endF_bound {fs : List LFact} {k : Int} (j : Nat) (hk0 : 0 ≤ k) (hk : k ≤ 4294967296) (hn : fs.length ≤ 1073741824) (ht : tot fs ≤ 1073741824) : 0 ≤ endF k (fs.take j) ∧ endF k (fs.take j) ≤ 8589934592 := by
  have h1 := tot_take_le fs j
  have h2 : (fs.take j).length ≤ fs.length := by rw [List.length_take]; omega
  simp only [endF]
  omega

end Go.Proofs.Ytocpfmbieedpgaa
/-
  The relation of a loop that collects facts.
-/
namespace Go.Proofs.Ytocpfmbieedpgaa
open Go.RowKit

/-- One fact more, behind append. -/
theorem OwnFA.push {wr w2 w4 : World} {lo hi : Nat} {v v' a : Value} {gs : List LFact} {av : List Value} {f : LFact} {o : Obj} (h : OwnFA wr lo hi v gs av) (hhi : hi ≤ wr.heap.size) (hlo : lo ≤ hi) (hb : Below wr.heap.size wr w2)
    (ha : OwnInts w2 wr.heap.size w2.heap.size a f.2) (hg : (w2.alloc o).grownBy w4 v.ownBlock) (hown : w4.ownsRow lo 118 2 v' (gs.length + 1) (flat gs av ++ [.int .i64 f.1, a])) : OwnFacts w4 lo w4.heap.size v' (gs ++ [f]) := by
  have hg' := grown_from_alloc hg
  have hlen : av.length = gs.length := by simpa using h.args.len
  have hrow2 := ownsRow_below h.row h.lt hb hhi
  have hargs2 : OwnArgs w2 lo w2.heap.size (av ++ [a]) (gs.map (·.2) ++ [f.2]) := ((h.args.below hb hhi).mono (Nat.le_refl _) hhi).snoc ha (by omega) hb.size
  refine ⟨av ++ [a], ⟨by simp [hlen], fun i h1 h2 => ?_, hargs2.apart⟩, ?_, fun g hg2 => (hown.lt g hg2).2⟩
  · have h0 := hargs2.own i (by simpa using h1) h2
    have hz : ((gs ++ [f]).map (·.2))[i] = (gs.map (·.2) ++ [f.2])[i]'(by simpa using h1) := by simp
    rw [hz]
    refine (h0.kept fun b hbk => hg'.block b (h0.lt hbk).2.2 (fun e => types_ne hrow2 e.symm h0 hbk)).mono (Nat.le_refl _) ?_
    exact hg'.size
  · rw [flat_snoc _ _ hlen, List.length_append, List.length_singleton]
    exact hown

/-- The relation of a loop that collects facts. -/
structure ColRel (w wr : World) (gs : List LFact) (A : Option Addr) (c : Nat) (av : List Value) : Prop where
  below : Below w.heap.size w wr
  own : OwnFA wr w.heap.size wr.heap.size (.slice A gs.length c) gs av

theorem ColRel.nil (w : World) : ColRel w w [] none 0 [] := ⟨Below.refl _ _, ⟨.nil, World.ownsRow_nil _ _ _ _, fun g hg => by cases hg⟩⟩

theorem ColRel.empty (w : World) : ColRel w (w.alloc (.cells #[] 118)) [] (some ⟨w.heap.size, 0, none⟩) 0 [] :=
  ⟨below1 _ _, ⟨.nil, World.ownsRow_made w #[] 0 (Nat.le_refl _) (by decide) rfl, fun g hg => by simp [Value.ownBlock] at hg; subst hg; simp⟩⟩

theorem news2 (w : World) (x y : Value) (t : TypeId) : ∀ j u, [x, y][j]? = some u → (w.alloc (.cells #[x, y] t)).cell? ((⟨w.heap.size, 0, none⟩ : Addr).add j) = some u := World.news_of_block (cs := #[x, y]) (heap_alloc_new w _)

/-- .. and one fact more in its relation. -/
theorem ColRel.push {w wr w2 w4 : World} {gs gs' : List LFact} {A : Option Addr} {c g cap : Nat} {av : List Value} {f : LFact} {a : Value} {o : Obj} (h : ColRel w wr gs A c av) (e : gs' = gs ++ [f]) (hb : Below wr.heap.size wr w2)
    (ha : OwnInts w2 wr.heap.size w2.heap.size a f.2) (hg : (w2.alloc o).grownBy w4 (Value.slice A gs.length c).ownBlock) (hown : w4.ownsRow w.heap.size 118 2 (.slice (some ⟨g, 0, none⟩) (gs.length + 1) cap) (gs.length + 1) (flat gs av ++ [.int .i64 f.1, a])) :
    ∃ av', ColRel w w4 gs' (some ⟨g, 0, none⟩) cap av' ∧ gs.length + 1 = gs'.length := by
  subst e
  obtain ⟨av', h1, h2, h3⟩ := h.own.push (Nat.le_refl _) h.below.size hb ha hg hown
  have hl : gs.length + 1 = (gs ++ [f]).length := by simp
  refine ⟨av', ⟨((bthen h.below hb).alloc (bthen h.below hb).size _).grown hg (by have := (bthen h.below hb).size; simp; omega) (fun k hk => (h.own.row.lt k hk).1), ?_⟩, hl⟩
  rw [← hl]
  exact ⟨h1, h2, h3⟩

/-- A world that only grew keeps the relation. -/
theorem ColRel.on {w wr w2 : World} {gs : List LFact} {A : Option Addr} {c : Nat} {av : List Value} (h : ColRel w wr gs A c av) (hb : Below wr.heap.size wr w2) : ColRel w w2 gs A c av :=
  ⟨bthen h.below hb, ⟨(h.own.args.below hb (Nat.le_refl _)).mono (Nat.le_refl _) hb.size, ownsRow_below h.own.row h.own.lt hb (Nat.le_refl _), fun g hg => Nat.lt_of_lt_of_le (h.own.lt g hg) hb.size⟩⟩

end Go.Proofs.Ytocpfmbieedpgaa
/-
  The reader's num and its opening; numbers of places drawn.
-/
namespace Go.Proofs.Ytocpfmbieedpgaa
open Go.RowKit

theorem Picked.size {w w' : World} {g : Nat} {bs : List Nat} {p : Nat} (h : Picked w w' g bs p) : w.heap.size ≤ w'.heap.size := h.2.size
set_option maxHeartbeats 400000 in
theorem num_any (g : Nat) (bs : List Nat) (p b : Nat) (cs : Array Value) (xs : List Int) (n : Nat) (w : World) (h : Rdr w g bs p) (hp : p ≤ 1073741824) (hb : Blk w b 3 cs) (hcs : cs = (xs.map (Value.int .i64)).toArray) (hne : b ≠ g) (hn : n = xs.length) (hx : 0 < xs.length) (hl : xs.length ≤ 1073741824) :
    Calls Try.prog 60 #[.pointer (some ⟨g, 0, none⟩), .slice (some ⟨b, 0, none⟩) n n] w fun e w' => (∃ x, e = .returned (.int .i64 x) ∧ x ∈ xs) ∧ Picked w w' g bs p := by
  subst hcs
  subst hn
  have H := Lib.hid h
  have HB := Lib.hid hb
  clear h hb
  go_enter Try.func60, Try.ntmps60
  go_wp2_with (fail)
  refine (pick_any g bs p _ _ H.out hp (by omega)).mono ?_
  rintro e w' ⟨⟨x, rfl, hx1⟩, hpk⟩
  obtain ⟨k, rfl⟩ : ∃ k : Nat, x = (k : Int) := ⟨x.toNat, by have := hx1.1 (by omega); omega⟩
  have hk : k < xs.length := by have := hx1.1 (by omega); omega
  have hck : w'.cell? ⟨b, k, none⟩ = some (.int .i64 xs[k]) := by
    rw [(HB.out.only hpk.2 (by omega)).cell k]
    simp [hk]
  have HM := Lib.hid (List.getElem_mem hk)
  have HK := Lib.hid hpk
  clear hpk hx1
  go_wp2_with (fail)
  go_ret
  exact ⟨⟨_, rfl, HM.out⟩, HK.out⟩

set_option maxHeartbeats 400000 in
theorem l40Open_any (v : Value) (bs : List Nat) (w : World) (h : RdBytes w w.heap.size v bs) (hby : ∀ b ∈ bs, b < 256) (hn : bs.length ≤ 1073741824) :
    Calls Try.prog 45 #[v] w fun e w' => e = .returned (.pointer (some ⟨w.heap.size, 0, none⟩)) ∧ Rdr w' w.heap.size (bs.take 2000) 0 ∧ Below w.heap.size w w' := by
  obtain ⟨A, c, rfl, hc, ha⟩ := h
  by_cases hl : 2000 < bs.length
  · obtain ⟨b, o, rfl, hbB, hx⟩ := ha (by omega)
    have HR := Lib.hid (show RdBytes w w.heap.size (.slice (some ⟨b, o, none⟩) 2000 c) (bs.take 2000) from
      ⟨some ⟨b, o, none⟩, c, by rw [List.length_take]; congr 1; omega, by rw [List.length_take]; omega, fun _ => ⟨b, o, rfl, hbB, fun k hk => by
        rw [List.length_take] at hk
        rw [hx k (by omega), List.getElem_take]⟩⟩)
    have hd : decide ((2000 : Int) < bs.length) = true := by simp; omega
    clear hx ha
    go_enter Try.func45, Try.ntmps45
    go_wp2_with (fail)
    go_ret
    exact ⟨rfl, ⟨⟨_, Blk.new _ _ _, HR.out.off fun k hk => Below.heap_alloc _ _ _ hk⟩, by rw [List.length_take]; omega, fun x hx => hby x (List.mem_of_mem_take hx)⟩, below1 _ _⟩
  · have HR := Lib.hid (show RdBytes w w.heap.size (.slice A bs.length c) bs from ⟨A, c, rfl, hc, ha⟩)
    have HT := Lib.hid (show bs.take 2000 = bs from List.take_of_length_le (by omega))
    have hd : decide ((2000 : Int) < bs.length) = false := by simp; omega
    clear ha
    go_enter Try.func45, Try.ntmps45
    go_wp2_with (fail)
    go_ret
    exact ⟨rfl, by rw [HT.out]; exact ⟨⟨_, Blk.new _ _ _, HR.out.off fun k hk => Below.heap_alloc _ _ _ hk⟩, by omega, hby⟩, below1 _ _⟩

/-- What l1Arity's loop keeps. -/
structure DrRel (w wr : World) (g : Nat) (bs : List Nat) (p k : Nat) (A : Option Addr) (c : Nat) (xs : List Int) : Prop where
  len : xs.length = k
  range : ∀ x ∈ xs, 0 ≤ x ∧ x ≤ 2
  own : wr.ownsRow w.heap.size 3 1 (.slice A k c) k (xs.map (Value.int .i64))
  rdr : Rdr wr g bs (p + k)
  only : Only g (g + 1) w wr

theorem Rdr.same {w w' : World} {g : Nat} {bs : List Nat} {p : Nat} (h : Rdr w g bs p) (hb : ∀ k, k ≤ g → w'.heap[k]? = w.heap[k]?) : Rdr w' g bs p := by
  obtain ⟨⟨v, hv, hr⟩, h1, h2⟩ := h
  exact ⟨⟨v, (hb g (Nat.le_refl g)).trans hv, hr.off fun k hk => hb k (Nat.le_of_lt hk)⟩, h1, h2⟩

/-- The row after a draw. -/
theorem DrRel.row {w wr w' : World} {g : Nat} {bs : List Nat} {p q k : Nat} {A : Option Addr} {c : Nat} {xs : List Int} {o o2 : Obj} (h : DrRel w wr g bs p k A c xs) (hg : g < w.heap.size) (hk : Picked (wr.alloc o) w' g bs q) :
    (w'.alloc o2).ownsRow w.heap.size 3 1 (.slice A k c) k (xs.map (Value.int .i64)) :=
  ((ownsRow_only (h.own.alloc o) fun b hb => hk.2.block b (by have := (h.own.lt b hb).2; simp; omega) (by have := (h.own.lt b hb).1; omega))).alloc o2

theorem DrRel.push {w wr w' w4 : World} {g : Nat} {bs : List Nat} {p k : Nat} {A : Option Addr} {c : Nat} {xs : List Int} {o o2 : Obj} (h : DrRel w wr g bs p k A c xs) (hg : g < w.heap.size) (hk : Picked (wr.alloc o) w' g bs (p + k)) {x : Int} (hx : 0 ≤ x ∧ x ≤ 2)
    (hgr : (w'.alloc o2).grownBy w4 (Value.slice A k c).ownBlock) {g2 cap : Nat} (hown : w4.ownsRow w.heap.size 3 1 (.slice (some ⟨g2, 0, none⟩) (k + 1) cap) (k + 1) (xs.map (Value.int .i64) ++ [.int .i64 x])) :
    DrRel w w4 g bs p (k + 1) (some ⟨g2, 0, none⟩) cap (xs ++ [x]) := by
  have hlow : ∀ b, b < w.heap.size → w4.heap[b]? = w'.heap[b]? := fun b hb => by
    have h1 := h.only.size
    have h2 := hk.2.size
    simp at h2
    rw [hgr.block b (by simp; omega) (fun e => by have := (h.own.lt b e.symm).1; omega)]
    exact Below.heap_alloc _ _ _ (by omega)
  refine ⟨by simp [h.len], fun y hy => ?_, by simpa using hown, hk.1.same fun b hb => hlow b (by omega), ?_⟩
  · rcases List.mem_append.1 hy with hy | hy
    · exact h.range y hy
    · simp at hy
      subst hy
      exact hx
  · have ho := (h.only.trans (Only.of_below (below1 wr o))).trans hk.2
    exact ⟨hgr.os.trans ho.os, hgr.tape.trans ho.tape, hgr.output.trans ho.output, Nat.le_trans ho.size (Nat.le_trans (by simp) hgr.size), fun b hb hn => (hlow b hb).trans (ho.block b hb hn)⟩

end Go.Proofs.Ytocpfmbieedpgaa
/-
  A fact drawn.
-/
namespace Go.Proofs.Ytocpfmbieedpgaa
open Go.RowKit

/-- What l1Fact keeps: r is the result's block, r + 1 the fact's. -/
structure FaRel (w wr : World) (g : Nat) (bs : List Nat) (p : Nat) (A : Option Addr) (c : Nat) (f : LFact) : Prop where
  res : Blk wr w.heap.size 118 #[.int .i64 0, .slice none 0 0]
  fact : Blk wr (w.heap.size + 1) 118 #[.int .i64 f.1, .slice A f.2.length c]
  own : wr.ownsRow (w.heap.size + 2) 3 1 (.slice A f.2.length c) f.2.length (f.2.map (Value.int .i64))
  rdr : Rdr wr g bs p
  only : Only g (g + 1) w wr

theorem FaRel.start {w : World} {g : Nat} {bs : List Nat} {p : Nat} (h : Rdr w g bs p) :
    FaRel w ((w.alloc (Obj.cells #[Value.int IntKind.i64 0, Value.slice none 0 0] 118)).alloc (Obj.cells #[Value.int IntKind.i64 0, Value.slice none 0 0] 118)) g bs p none 0 (0, []) :=
  ⟨(Blk.new w _ _).alloc _, by simpa using Blk.new (w.alloc (Obj.cells #[Value.int IntKind.i64 0, Value.slice none 0 0] 118)) 118 #[.int .i64 0, .slice none 0 0], World.ownsRow_nil _ _ _ _, h.below (below2 w _ _) h.lt, Only.of_below (below2 w _ _)⟩

/-- A pick keeps the rest. -/
theorem FaRel.pick {w wr w' : World} {g : Nat} {bs : List Nat} {p : Nat} {A : Option Addr} {c : Nat} {f : LFact} (h : FaRel w wr g bs p A c f) (hg : g < w.heap.size) (hk : Picked wr w' g bs p) : FaRel w w' g bs (p + 1) A c f :=
  ⟨h.res.only hk.2 (by omega), h.fact.only hk.2 (by omega), ownsRow_only h.own (fun b hb => hk.2.block b (h.own.lt b hb).2 (by have := (h.own.lt b hb).1; omega)), hk.1, h.only.trans hk.2⟩

/-- The predicate stored. -/
theorem FaRel.pred {w wr : World} {g : Nat} {bs : List Nat} {p : Nat} {A : Option Addr} {c : Nat} {f : LFact} (h : FaRel w wr g bs p A c f) (hg : g < w.heap.size) (x : Int) : FaRel w (wr.setCell ⟨w.heap.size + 1, 0, none⟩ (.int .i64 x)) g bs p A c (x, f.2) :=
  ⟨h.res.far (by show w.heap.size ≠ w.heap.size + 1; omega) _, h.fact.set_ 0 _, ownsRow_only h.own (fun b hb => Below.heap_setCell _ _ _ _ (by have := (h.own.lt b hb).1; show b ≠ w.heap.size + 1; omega)),
    h.rdr.same fun k hk => Below.heap_setCell _ _ _ _ (by show k ≠ w.heap.size + 1; omega),
    ⟨h.only.os, h.only.tape, h.only.output, by simpa using h.only.size, fun k hk hn => (Below.heap_setCell _ _ _ _ (by show k ≠ w.heap.size + 1; omega)).trans (h.only.block k hk hn)⟩⟩

/-- A new block keeps all. -/
theorem FaRel.alloc {w wr : World} {g : Nat} {bs : List Nat} {p : Nat} {A : Option Addr} {c : Nat} {f : LFact} (h : FaRel w wr g bs p A c f) (o : Obj) : FaRel w (wr.alloc o) g bs p A c f :=
  ⟨h.res.alloc o, h.fact.alloc o, h.own.alloc o, h.rdr.below (below1 wr o) h.rdr.lt, h.only.trans (Only.of_below (below1 wr o))⟩
theorem FaRel.drewN {w wr : World} {g : Nat} {bs : List Nat} {p : Nat} {A : Option Addr} {c : Nat} {f : LFact} (h : FaRel w wr g bs p A c f) (n : Nat) : FaRel w (wr.drewN n) g bs p A c f :=
  ⟨h.res, h.fact, h.own, h.rdr, ⟨h.only.os, h.only.tape, h.only.output, h.only.size, h.only.block⟩⟩

theorem FaRel.drew {w wr : World} {g : Nat} {bs : List Nat} {p : Nat} {A : Option Addr} {c : Nat} {f : LFact} (h : FaRel w wr g bs p A c f) : FaRel w wr.drew g bs p A c f :=
  ⟨h.res, h.fact, h.own, h.rdr, ⟨h.only.os, h.only.tape, h.only.output, h.only.size, h.only.block⟩⟩

theorem FaRel.push {w wr w4 : World} {g : Nat} {bs : List Nat} {p : Nat} {A : Option Addr} {c : Nat} {P : Int} {xs : List Int} (h : FaRel w wr g bs p A c (P, xs)) (hg : g < w.heap.size)
    (hgr : wr.grownBy w4 (Value.slice A xs.length c).ownBlock) {g2 cap : Nat} {x : Int} (hown : w4.ownsRow (w.heap.size + 2) 3 1 (.slice (some ⟨g2, 0, none⟩) (xs.length + 1) cap) (xs.length + 1) (xs.map (Value.int .i64) ++ [.int .i64 x])) :
    FaRel w (w4.setCell ⟨w.heap.size + 1, 1, none⟩ (.slice (some ⟨g2, 0, none⟩) (xs.length + 1) cap)) g bs p (some ⟨g2, 0, none⟩) cap (P, xs ++ [x]) := by
  have hs := h.fact.lt
  have hlow : ∀ b, b < w.heap.size + 2 → w4.heap[b]? = wr.heap[b]? := fun b hb => hgr.block b (by omega) (fun e => by have := (h.own.lt b e.symm).1; omega)
  have hlow2 : ∀ b, b < w.heap.size + 1 → (w4.setCell ⟨w.heap.size + 1, 1, none⟩ (.slice (some ⟨g2, 0, none⟩) (xs.length + 1) cap)).heap[b]? = wr.heap[b]? := fun b hb =>
    (Below.heap_setCell _ _ _ _ (by show b ≠ w.heap.size + 1; omega)).trans (hlow b (by omega))
  refine ⟨(hlow2 _ (by omega)).trans h.res, ?_, ?_, h.rdr.same fun k hk => hlow2 k (by omega), ⟨hgr.os.trans h.only.os, hgr.tape.trans h.only.tape, hgr.output.trans h.only.output, Nat.le_trans h.only.size (Nat.le_trans hgr.size (by simp)), fun k hk hn => (hlow2 k (by omega)).trans (h.only.block k hk hn)⟩⟩
  · have := (show Blk w4 (w.heap.size + 1) 118 _ from (hlow _ (by omega)).trans h.fact).set_ 1 (.slice (some ⟨g2, 0, none⟩) (xs.length + 1) cap)
    simpa using this
  · simpa using ownsRow_only hown (fun b hb => Below.heap_setCell _ _ _ _ (by have := (hown.lt b hb).1; show b ≠ w.heap.size + 1; omega))

theorem FaRel.keepFact {w wr w4 : World} {g : Nat} {bs : List Nat} {p : Nat} {A : Option Addr} {c : Nat} {f : LFact} (h : FaRel w wr g bs p A c f) (hgr : wr.grownBy w4 (Value.slice A f.2.length c).ownBlock) : Blk w4 (w.heap.size + 1) 118 #[.int .i64 f.1, .slice A f.2.length c] :=
  (hgr.block _ h.fact.lt (fun e => by have := (h.own.lt _ e.symm).1; omega)).trans h.fact

theorem num3_any (g : Nat) (bs : List Nat) (p b : Nat) (x y z : Int) (w : World) (h : Rdr w g bs p) (hp : p ≤ 1073741824) (hb : Blk w b 3 #[.int .i64 x, .int .i64 y, .int .i64 z]) (hne : b ≠ g) :
    Calls Try.prog 60 #[.pointer (some ⟨g, 0, none⟩), .slice (some ⟨b, 0, none⟩) 3 3] w fun e w' => (∃ x, e = .returned (.int .i64 x)) ∧ Picked w w' g bs p :=
  (num_any g bs p b _ [x, y, z] 3 w h hp hb rfl hne rfl (by simp) (by simp)).mono fun _ _ ⟨⟨u, he, _⟩, hk⟩ => ⟨⟨u, he⟩, hk⟩

theorem FaRel.pick_calls {w W : World} {g : Nat} {bs : List Nat} {q : Nat} {A : Option Addr} {c : Nat} {f : LFact} (h : FaRel w W g bs q A c f) (hg : g < w.heap.size) (hq : q ≤ 1073741824) (n : Int) (hn : n ≤ 1073741824) :
    Calls Try.prog 59 #[.pointer (some ⟨g, 0, none⟩), .int .i64 n] W fun e w' => ∃ v, e = .returned v ∧ (∃ x, v = .int .i64 x) ∧ FaRel w w' g bs (q + 1) A c f :=
  (pick_any g bs q n W h.rdr hq hn).mono fun _ _ ⟨⟨x, he, _⟩, hk⟩ => ⟨_, he, ⟨x, rfl⟩, h.pick hg hk⟩
theorem FaRel.num_calls {w W : World} {g : Nat} {bs : List Nat} {q : Nat} {A : Option Addr} {c : Nat} {f : LFact} (h : FaRel w W g bs q A c f) (hg : g < w.heap.size) (hq : q ≤ 1073741824) (x y z : Int) :
    Calls Try.prog 60 #[.pointer (some ⟨g, 0, none⟩), .slice (some ⟨W.heap.size, 0, none⟩) 3 3] (W.alloc (.cells #[.int .i64 x, .int .i64 y, .int .i64 z] 3)) fun e w' => ∃ v, e = .returned v ∧ (∃ x, v = .int .i64 x) ∧ FaRel w w' g bs (q + 1) A c f :=
  (num3_any g bs q W.heap.size x y z _ (h.alloc _).rdr hq (Blk.new _ _ _) (Nat.ne_of_gt h.rdr.lt)).mono fun _ _ ⟨⟨u, he⟩, hk⟩ => ⟨_, he, ⟨u, rfl⟩, (h.alloc _).pick hg hk⟩

/-- A round is done. -/
def FaStep (w wx : World) (g : Nat) (bs : List Nat) (p : Nat) (P : Int) (k : Nat) : Prop := ∃ (A : Option Addr) (c : Nat) (xs : List Int) (q : Nat), xs.length = k + 1 ∧ q ≤ p + 1 + 4 * (k + 1) ∧ FaRel w wx g bs q A c (P, xs)

/-- Some fact stands, of at most m arguments. -/
def FaNow (w wx : World) (g : Nat) (bs : List Nat) (p m q0 : Nat) : Prop := ∃ (A : Option Addr) (c : Nat) (f : LFact) (q : Nat), f.2.length ≤ m ∧ q ≤ p + q0 ∧ FaRel w wx g bs q A c f

/-- A row of one or more begins at its block. -/
theorem FaRel.form {w W : World} {g : Nat} {bs : List Nat} {q : Nat} {A : Option Addr} {c : Nat} {f : LFact} (h : FaRel w W g bs q A c f) (hn : 0 < f.2.length) : ∃ g2, A = some ⟨g2, 0, none⟩ := by
  obtain ⟨g2, cap, e, _⟩ := h.own.form hn
  injection e with e1 _ _
  exact ⟨g2, e1⟩
theorem FaRel.head {w W : World} {g : Nat} {bs : List Nat} {q g2 c : Nat} {f : LFact} (h : FaRel w W g bs q (some ⟨g2, 0, none⟩) c f) (hn : 0 < f.2.length) : W.cell? ⟨g2, 0, none⟩ = some (.int .i64 (f.2[0]'hn)) ∧ W.frozen? ⟨g2, 0, none⟩ = false := by
  refine ⟨?_, h.own.frozenAt 0⟩
  rw [h.own.cellAt 0 (by omega)]
  simp [hn]
/-- The first place is set anew. -/
theorem FaRel.first {w W : World} {g : Nat} {bs : List Nat} {q g2 c : Nat} {f : LFact} (h : FaRel w W g bs q (some ⟨g2, 0, none⟩) c f) (hg : g < w.heap.size) (x : Int) :
    FaRel w (W.setCell ⟨g2, 0, none⟩ (.int .i64 x)) g bs q (some ⟨g2, 0, none⟩) c (f.1, f.2.set 0 x) := by
  have hb := (h.own.lt g2 rfl).1
  have hs := h.own.stored 0 (.int .i64 x)
  refine ⟨h.res.far (by show w.heap.size ≠ g2; omega) _, ?_, ?_, h.rdr.same fun k hk => Below.heap_setCell _ _ _ _ (by show k ≠ g2; omega),
    ⟨h.only.os, h.only.tape, h.only.output, by simpa using h.only.size, fun k hk hn => (Below.heap_setCell _ _ _ _ (by show k ≠ g2; omega)).trans (h.only.block k hk hn)⟩⟩
  · simpa using h.fact.far (p := ⟨g2, 0, none⟩) (by show w.heap.size + 1 ≠ g2; omega) (.int .i64 x)
  · have := hs.1
    rw [← List.map_set] at this
    simpa using this
/-- The result is laid. -/
theorem FaRel.done {w W : World} {g : Nat} {bs : List Nat} {q : Nat} {A : Option Addr} {c : Nat} {f : LFact} (h : FaRel w W g bs q A c f) (hg : g < w.heap.size) :
    ((W.setCell ⟨w.heap.size, 0, none⟩ (.int .i64 f.1)).setCell ⟨w.heap.size, 1, none⟩ (.slice A f.2.length c)).ownsRow (w.heap.size + 2) 3 1 (.slice A f.2.length c) f.2.length (f.2.map (Value.int .i64)) ∧
    Rdr ((W.setCell ⟨w.heap.size, 0, none⟩ (.int .i64 f.1)).setCell ⟨w.heap.size, 1, none⟩ (.slice A f.2.length c)) g bs q ∧
    Only g (g + 1) w ((W.setCell ⟨w.heap.size, 0, none⟩ (.int .i64 f.1)).setCell ⟨w.heap.size, 1, none⟩ (.slice A f.2.length c)) ∧
    Blk ((W.setCell ⟨w.heap.size, 0, none⟩ (.int .i64 f.1)).setCell ⟨w.heap.size, 1, none⟩ (.slice A f.2.length c)) w.heap.size 118 #[.int .i64 f.1, .slice A f.2.length c] := by
  have hb : ∀ k, k ≠ w.heap.size → ((W.setCell ⟨w.heap.size, 0, none⟩ (.int .i64 f.1)).setCell ⟨w.heap.size, 1, none⟩ (.slice A f.2.length c)).heap[k]? = W.heap[k]? := fun k hk =>
    (Below.heap_setCell _ _ _ _ (by show k ≠ w.heap.size; exact hk)).trans (Below.heap_setCell _ _ _ _ (by show k ≠ w.heap.size; exact hk))
  refine ⟨ownsRow_only h.own (fun b hb' => hb b (by have := (h.own.lt b hb').1; omega)), h.rdr.same fun k hk => hb k (by omega), ⟨h.only.os, h.only.tape, h.only.output, by simpa using h.only.size, fun k hk hn => (hb k (by omega)).trans (h.only.block k hk hn)⟩, ?_⟩
  have := (h.res.set_ 0 (.int .i64 f.1)).set_ 1 (.slice A f.2.length c)
  simpa using this

set_option maxHeartbeats 8000000 in
set_option maxRecDepth 100000 in
theorem l1Fact_any (g : Nat) (bs : List Nat) (p : Nat) (v : Value) (ar : List Int) (w : World) (h : Rdr w g bs p) (hp : p ≤ 1048576) (ha : RdInts w w.heap.size v ar) (hv : ∀ w', Only g (g + 1) w w' → RdInts w' w'.heap.size v ar) (hr : ∀ x ∈ ar, 0 ≤ x ∧ x ≤ 2) (hl : ar.length ≤ 1048576) :
    Calls Try.prog 144 #[.pointer (some ⟨g, 0, none⟩), v] w fun e w' => ∃ (A : Option Addr) (c : Nat) (f : LFact) (q : Nat), e = .returned (.agg #[.int .i64 f.1, .slice A f.2.length c]) ∧ f.2.length ≤ 3 ∧ q ≤ p + 20 ∧
      w'.ownsRow (w.heap.size + 2) 3 1 (.slice A f.2.length c) f.2.length (f.2.map (Value.int .i64)) ∧ Rdr w' g bs q ∧ Only g (g + 1) w w' := by
  obtain ⟨i0, hi0, hz0, hz1, hz2⟩ := info_parts Try.infoInt
  have H := Lib.hid h
  have hgl := h.lt
  have HV := Lib.hid hv
  have HS := Lib.hid (FaRel.start h)
  obtain ⟨A0, c0, rfl, hc, hx⟩ := ha
  clear h hv hx
  go_enter Try.func144, Try.ntmps144
  go_upto_if 11 with (fail)
  go_cut [] (fun wx => FaNow w wx g bs p 2 9)
  case first =>
    by_cases h0 : 0 < ar.length
    · have hd : decide ((0 : Int) < ar.length) = true := by simpa using h0
      go_wp2_with (fail)
      refine (pick_any g bs p _ _ HS.out.rdr (by omega) (by omega)).mono ?_
      rintro e w1 ⟨⟨x, rfl, hx1⟩, hpk⟩
      obtain ⟨j, rfl⟩ : ∃ j : Nat, x = (j : Int) := ⟨x.toNat, by have := hx1.1 (by omega); omega⟩
      have hj : j < ar.length := by have := hx1.1 (by omega); omega
      have hf := HS.out.pick hgl hpk
      have HF := Lib.hid (hf.pred hgl (j : Int))
      have k0 : w1.cell? ⟨w.heap.size + 1, 0, none⟩ = some (.int .i64 0) := hf.fact.cell 0
      have k1 : w1.frozen? ⟨w.heap.size + 1, 0, none⟩ = false := hf.fact.frozen 0
      clear hf hpk hx1
      have hjr := hr _ (List.getElem_mem hj)
      obtain ⟨m, hm⟩ : ∃ m : Nat, ar[j] = (m : Int) := ⟨ar[j].toNat, by omega⟩
      have hm2 : m ≤ 2 := by omega
      clear hjr
      go_wp2_with (fail)
      go_loopw [6] (fun i wr => ∃ (k : Nat) (A : Option Addr) (c : Nat) (xs : List Int) (q : Nat), k ≤ m ∧ i = .int .i64 k ∧ xs.length = k ∧ q ≤ p + 1 + 4 * k ∧ FaRel w wr g bs q A c ((j : Int), xs)) (fun i _ => m - (intOf i).toNat)
      case atStart => exact ⟨0, none, 0, [], p + 1, Nat.zero_le _, rfl, rfl, by omega, HF.out⟩
      case round =>
        obtain ⟨k, A, c, xs, q, hk, rfl, hxl, hq, hfr⟩ := hrel
        have k2 : wr.cell? ⟨w.heap.size + 1, 0, none⟩ = some (.int .i64 (j : Int)) := hfr.fact.cell 0
        obtain ⟨A', c', e0, hc', hcell⟩ := HV.out wr hfr.only
        injection e0 with e1 _ e2
        subst e1
        subst e2
        obtain ⟨b, o, rfl, hbB, hx⟩ := hcell (by omega)
        have k3 : wr.cell? ⟨b, o + j, none⟩ = some (.int .i64 (m : Int)) := by rw [hx j hj, hm]
        have HR := Lib.hid hfr
        clear hcell hx hfr
        subst hxl
        by_cases hlt : xs.length < m
        · go_upto_region 7 with (fail)
          obtain ⟨SS, hSS⟩ : ∃ SS : World → Prop, SS = (fun W => W.cell? ⟨w.heap.size + 1, 1, none⟩ = some (.slice A xs.length c)) := ⟨_, rfl⟩
          have HS1 := Lib.hid (show ∀ W, W.cell? ⟨w.heap.size + 1, 1, none⟩ = some (.slice A xs.length c) → SS W from by rw [hSS]; exact fun _ h => h)
          have HS2 := Lib.hid (show ∀ W, SS W → W.cell? ⟨w.heap.size + 1, 1, none⟩ = some (.slice A xs.length c) from by rw [hSS]; exact fun _ h => h)
          clear hSS
          have F0 := Lib.hid HR.out.drew
          have S0 := Lib.hid (HS1.out _ (F0.out.fact.cell 1))
          refine wp_region_rel SS 14 15 (by kernel_rfl) rfl ?_
          refine wpAnyR_pure (i := 0) (oi := _) ?v0 rfl rfl (by kernel_rfl) (by decide) (fun _ _ _ h => h) rfl ?hy0 (fun _ => S0.out) ?rest0
          case hy0 => (intro W; go_simp; (try with_reducible rfl))
          simp only [List.setIfInBounds_toArray, List.set_cons_zero, List.set_cons_succ]
          refine wpAnyR_take (i := 1) (oi := _) ?v1 rfl rfl (by kernel_rfl) (fun _ _ _ h => h) rfl ?hy1 S0.out ?rest1
          case hy1 => (intro W hW; have e1 := HS2.out W hW; go_simp; (try with_reducible rfl))
          simp only [List.setIfInBounds_toArray, List.set_cons_zero, List.set_cons_succ]
          refine wpAnyR_pure (i := 2) (oi := _) ?v2 rfl rfl (by kernel_rfl) (by decide) (fun _ _ _ h => h) rfl ?hy2 (fun _ => S0.out) ?rest2
          case hy2 => (intro W; go_simp; (try with_reducible rfl))
          simp only [List.setIfInBounds_toArray, List.set_cons_zero, List.set_cons_succ]
          refine wpAnyR_pure (i := 3) (oi := _) ?v3 rfl rfl (by kernel_rfl) (by decide) (fun _ _ _ h => h) rfl ?hy3 (fun _ => S0.out) ?rest3
          case hy3 => (intro W; go_simp; (try with_reducible rfl))
          simp only [List.setIfInBounds_toArray, List.set_cons_zero, List.set_cons_succ]
          refine wpAnyR_pure (i := 5) (oi := _) ?v5 rfl rfl (by kernel_rfl) (by decide) (fun _ _ _ h => h) rfl ?hy5 (fun _ => S0.out) ?rest5
          case hy5 => (intro W; go_simp; (try with_reducible rfl))
          simp only [List.setIfInBounds_toArray, List.set_cons_zero, List.set_cons_succ]
          refine wpAnyR_pure (i := 7) (oi := _) ?v7 rfl rfl (by kernel_rfl) (by decide) (fun _ _ _ h => h) rfl ?hy7 (fun _ => S0.out) ?rest7
          case hy7 => (intro W; go_simp; (try with_reducible rfl))
          simp only [List.setIfInBounds_toArray, List.set_cons_zero, List.set_cons_succ]
          refine wpAnyR_one (i := 4) (by kernel_rfl) rfl (fun K hK => ?_)
          go_simp
          refine (FaRel.pick_calls F0.out hgl (by omega) 3 (by omega)).mono ?_
          rintro e w4 ⟨v4, rfl, ⟨x4, rfl⟩, hf4⟩
          have F4 := Lib.hid hf4
          have S4 := Lib.hid (HS1.out _ (hf4.fact.cell 1))
          clear hf4
          refine hK.out _ _ (fun _ => S4.out) ?_
          clear hK K
          try simp only [List.setIfInBounds_toArray, List.set_cons_zero, List.set_cons_succ, Act.put]
          refine wpAnyR_one (i := 6) (by kernel_rfl) rfl (fun K hK => ?_)
          go_simp
          refine (FaRel.pick_calls F4.out hgl (by omega) 3 (by omega)).mono ?_
          rintro e w6 ⟨v6, rfl, ⟨x6, rfl⟩, hf6⟩
          have F6 := Lib.hid hf6
          have S6 := Lib.hid (HS1.out _ (hf6.fact.cell 1))
          clear hf6
          refine hK.out _ _ (fun _ => S6.out) ?_
          clear hK K
          try simp only [List.setIfInBounds_toArray, List.set_cons_zero, List.set_cons_succ, Act.put]
          refine wpAnyR_one (i := 8) (by kernel_rfl) rfl (fun K hK => ?_)
          go_simp
          refine (FaRel.pick_calls F6.out hgl (by omega) 6 (by omega)).mono ?_
          rintro e w8 ⟨v8, rfl, ⟨x8, rfl⟩, hf8⟩
          have F8 := Lib.hid hf8
          have S8 := Lib.hid (HS1.out _ ((hf8.alloc (.cells #[.int .i64 x4, .int .i64 x6, .int .i64 x8] 3)).fact.cell 1))
          clear hf8
          refine hK.out _ _ (fun _ => HS1.out _ (F8.out.fact.cell 1)) ?_
          clear hK K
          try simp only [List.setIfInBounds_toArray, List.set_cons_zero, List.set_cons_succ, Act.put]
          refine wpAnyR_one (i := 9) (by kernel_rfl) rfl (fun K hK => ?_)
          go_simp
          refine hK.out _ _ (fun _ => S8.out) ?_
          clear hK K
          try simp only [List.setIfInBounds_toArray, List.set_cons_zero, List.set_cons_succ, Act.put]
          refine wpAnyR_one (i := 10) (by kernel_rfl) rfl (fun K hK => ?_)
          go_simp
          refine (FaRel.num_calls F8.out hgl (by omega) x4 x6 x8).mono ?_
          rintro e w9 ⟨v9, rfl, ⟨x9, rfl⟩, hf9⟩
          have F9 := Lib.hid hf9
          clear hf9
          refine hK.out _ _ (fun _ => HS1.out _ (F9.out.fact.cell 1)) ?_
          clear hK K
          try simp only [List.setIfInBounds_toArray, List.set_cons_zero, List.set_cons_succ, Act.put]
          refine wpAnyR_one (i := 11) (by kernel_rfl) rfl (fun K hK => ?_)
          go_simp
          refine hK.out _ _ (fun _ => HS1.out _ ((F9.out.alloc _).fact.cell 1)) ?_
          clear hK K
          try simp only [List.setIfInBounds_toArray, List.set_cons_zero, List.set_cons_succ, Act.put]
          refine wpAnyR_one (i := 12) (by kernel_rfl) rfl (fun K hK => ?_)
          refine step_append_lies _ rfl (.tmp 27) (.tmp 37) 23 rfl (w.heap.size + 2) 3 i0 (.int .i64 0) 1 8 Try.underlying23 hi0 hz0 hz1 hz2 rfl (by decide) (.slice A xs.length c) xs.length (xs.map (Value.int .i64)) rfl ?c1 ⟨w9.heap.size, 0, none⟩ 1 1 [.int .i64 x9] rfl rfl ?c4 ?c2 (by omega) (by unfold maxLen; omega) (by omega) ?c3 _ rfl ?c5
          case c1 => exact (F9.out.alloc _).own
          case c4 => exact cell_one_new _ _ _
          case c2 => intro u hu; simp at hu; subst hu; rfl
          case c3 => exact (F9.out.alloc _).fact.lt
          case c5 =>
            intro g2 cap w5 hown hgr _ _
            have HST := Lib.hid (FaRel.push (F9.out.alloc _) hgl hgr hown)
            have hkf := FaRel.keepFact (F9.out.alloc _) hgr
            have e1 : w5.cell? ⟨w.heap.size + 1, 1, none⟩ = some (.slice A xs.length c) := hkf.cell 1
            have e2 := hkf.frozen 1
            clear hkf hown hgr
            refine hK.out _ _ (fun _ => HS1.out _ e1) ?_
            clear hK K
            try simp only [List.setIfInBounds_toArray, Act.put]
            refine wpAnyR_pure (i := 13) (oi := _) ?v13 rfl rfl (by kernel_rfl) (by decide) (fun _ _ _ h => h) rfl ?hy13 (fun _ => HS1.out _ e1) ?rest13
            case hy13 => (intro W; go_simp; (try with_reducible rfl))
            try simp only [List.setIfInBounds_toArray, List.set_cons_zero, List.set_cons_succ]
            refine wpAnyR_one (i := 14) (by kernel_rfl) rfl (fun K hK => ?_)
            go_simp
            refine hK.out _ _ (fun hf => absurd hf (by decide)) ?_
            clear hK K
            refine wpAnyR_done (by kernel_rfl) ?_
            go_wp2_with (fail)
            go_roundw
            case rel => exact ⟨xs.length + 1, _, _, _, _, by omega, by go_num, by simp, by omega, HST.out⟩
            case measure => simp [intOf]; omega
        · have hkn : xs.length = m := by omega
          have hdk : decide ((xs.length : Int) < (m : Int)) = false := by simp; omega
          go_wp2_with (fail)
          go_meet
          exact ⟨A, c, ((j : Int), xs), q, by show xs.length ≤ 2; omega, by omega, HR.out⟩
    · have hd : decide ((0 : Int) < ar.length) = false := by simpa using h0
      go_wp2_with (fail)
      go_meet
      exact ⟨none, 0, (0, []), p, by simp, by omega, HS.out⟩
  case rest =>
    obtain ⟨A, c, f, q, hfl, hq, hf⟩ := hcut
    have F0' := Lib.hid hf
    clear hf HS HV
    go_wp2_with (fail)
    refine (FaRel.pick_calls F0'.out hgl (by omega) 40 (by omega)).mono ?_
    rintro e w1 ⟨v1, rfl, ⟨x1, rfl⟩, hf1⟩
    have F1 := Lib.hid hf1
    clear hf1
    go_upto_if 42 with (fail)
    go_cut [] (fun wx => FaNow w wx g bs p 3 20)
    case first =>
      by_cases h1 : x1 = 0
      · subst h1
        go_wp2_with (fail)
        refine (FaRel.pick_calls F1.out hgl (by omega) 3 (by omega)).mono ?_
        rintro e w2 ⟨v2, rfl, ⟨x2, rfl⟩, hf2⟩
        have F2 := Lib.hid hf2
        clear hf2
        by_cases h2 : x2 = 0
        · subst h2
          go_wp2_with (fail)
          refine (FaRel.num_calls F2.out hgl (by omega) (-1) (ar.length : Int) 30).mono ?_
          rintro e w3 ⟨v3, rfl, ⟨x3, rfl⟩, hf3⟩
          have HF := Lib.hid (hf3.pred hgl x3)
          have k0 : w3.cell? ⟨w.heap.size + 1, 0, none⟩ = some (.int .i64 f.1) := hf3.fact.cell 0
          have k1 : w3.frozen? ⟨w.heap.size + 1, 0, none⟩ = false := hf3.fact.frozen 0
          clear hf3
          go_wp2_with (fail)
          go_meet
          exact ⟨A, c, (x3, f.2), _, by show f.2.length ≤ 3; omega, by omega, HF.out⟩
        · have hd2 : (x2 == 0) = false := by simpa using h2
          by_cases h3 : x2 = 1
          · subst h3
            go_upto_region 13 with (fail)
            obtain ⟨SS, hSS⟩ : ∃ SS : World → Prop, SS = (fun W => W.cell? ⟨w.heap.size + 1, 1, none⟩ = some (.slice A f.2.length c)) := ⟨_, rfl⟩
            have HS1 := Lib.hid (show ∀ W, W.cell? ⟨w.heap.size + 1, 1, none⟩ = some (.slice A f.2.length c) → SS W from by rw [hSS]; exact fun _ h => h)
            have HS2 := Lib.hid (show ∀ W, SS W → W.cell? ⟨w.heap.size + 1, 1, none⟩ = some (.slice A f.2.length c) from by rw [hSS]; exact fun _ h => h)
            clear hSS
            have F0 := Lib.hid F2.out.drew
            have S0 := Lib.hid (HS1.out _ (F0.out.fact.cell 1))
            refine wp_region_rel SS 8 9 (by kernel_rfl) rfl ?_
            refine wpAnyR_pure (i := 0) (oi := _) ?v0b rfl rfl (by kernel_rfl) (by decide) (fun _ _ _ h => h) rfl ?hy0b (fun _ => S0.out) ?rest0b
            case hy0b => (intro W; go_simp; (try with_reducible rfl))
            try simp only [List.setIfInBounds_toArray, List.set_cons_zero, List.set_cons_succ]
            refine wpAnyR_take (i := 1) (oi := _) ?v1b rfl rfl (by kernel_rfl) (fun _ _ _ h => h) rfl ?hy1b S0.out ?rest1b
            case hy1b => (intro W hW; have e1 := HS2.out W hW; go_simp; (try with_reducible rfl))
            try simp only [List.setIfInBounds_toArray, List.set_cons_zero, List.set_cons_succ]
            refine wpAnyR_pure (i := 2) (oi := _) ?v2b rfl rfl (by kernel_rfl) (by decide) (fun _ _ _ h => h) rfl ?hy2b (fun _ => S0.out) ?rest2b
            case hy2b => (intro W; go_simp; (try with_reducible rfl))
            try simp only [List.setIfInBounds_toArray, List.set_cons_zero, List.set_cons_succ]
            refine wpAnyR_one (i := 3) (by kernel_rfl) rfl (fun K hK => ?_)
            go_simp
            refine hK.out _ _ (fun _ => HS1.out _ ((F0.out.alloc _).fact.cell 1)) ?_
            clear hK K
            try simp only [List.setIfInBounds_toArray, List.set_cons_zero, List.set_cons_succ, Act.put]
            refine wpAnyR_one (i := 4) (by kernel_rfl) rfl (fun K hK => ?_)
            go_simp
            refine (FaRel.num_calls F0.out hgl (by omega) 0 6 (-1)).mono ?_
            rintro e w9 ⟨v9, rfl, ⟨x9, rfl⟩, hf9⟩
            have F9 := Lib.hid hf9
            clear hf9
            refine hK.out _ _ (fun _ => HS1.out _ (F9.out.fact.cell 1)) ?_
            clear hK K
            try simp only [List.setIfInBounds_toArray, List.set_cons_zero, List.set_cons_succ, Act.put]
            refine wpAnyR_one (i := 5) (by kernel_rfl) rfl (fun K hK => ?_)
            go_simp
            refine hK.out _ _ (fun _ => HS1.out _ ((F9.out.alloc _).fact.cell 1)) ?_
            clear hK K
            try simp only [List.setIfInBounds_toArray, List.set_cons_zero, List.set_cons_succ, Act.put]
            refine wpAnyR_one (i := 6) (by kernel_rfl) rfl (fun K hK => ?_)
            refine step_append_lies _ rfl (.tmp 56) (.tmp 60) 23 rfl (w.heap.size + 2) 3 i0 (.int .i64 0) 1 8 Try.underlying23 hi0 hz0 hz1 hz2 rfl (by decide) (.slice A f.2.length c) f.2.length (f.2.map (Value.int .i64)) rfl ?c1b ⟨w9.heap.size, 0, none⟩ 1 1 [.int .i64 x9] rfl rfl ?c4b ?c2b (by omega) (by unfold maxLen; omega) (by omega) ?c3b _ rfl ?c5b
            case c1b => exact (F9.out.alloc _).own
            case c4b => exact cell_one_new _ _ _
            case c2b => intro u hu; simp at hu; subst hu; rfl
            case c3b => exact (F9.out.alloc _).fact.lt
            case c5b =>
              intro g2 cap w5 hown hgr _ _
              have HST := Lib.hid (FaRel.push (P := f.1) (xs := f.2) (F9.out.alloc _) hgl hgr hown)
              have hkf := FaRel.keepFact (F9.out.alloc _) hgr
              have e1 : w5.cell? ⟨w.heap.size + 1, 1, none⟩ = some (.slice A f.2.length c) := hkf.cell 1
              have e2 := hkf.frozen 1
              clear hkf hown hgr
              refine hK.out _ _ (fun _ => HS1.out _ e1) ?_
              clear hK K
              try simp only [List.setIfInBounds_toArray, Act.put]
              refine wpAnyR_pure (i := 7) (oi := _) ?v7b rfl rfl (by kernel_rfl) (by decide) (fun _ _ _ h => h) rfl ?hy7b (fun _ => HS1.out _ e1) ?rest7b
              case hy7b => (intro W; go_simp; (try with_reducible rfl))
              try simp only [List.setIfInBounds_toArray, List.set_cons_zero, List.set_cons_succ]
              refine wpAnyR_one (i := 8) (by kernel_rfl) rfl (fun K hK => ?_)
              go_simp
              refine hK.out _ _ (fun hf => absurd hf (by decide)) ?_
              clear hK K
              refine wpAnyR_done (by kernel_rfl) ?_
              go_wp2_with (fail)
              go_meet
              exact ⟨_, _, (f.1, f.2 ++ [x9]), _, by simp; omega, by omega, HST.out⟩
          · have hd3 : (x2 == 1) = false := by simpa using h3
            have k1 : w2.cell? ⟨w.heap.size + 1, 1, none⟩ = some (.slice A f.2.length c) := F2.out.fact.cell 1
            by_cases hn0 : 0 < f.2.length
            · have hdn : decide ((0 : Int) < f.2.length) = true := by simpa using hn0
              obtain ⟨g2, rfl⟩ := F2.out.form hn0
              go_upto_region 15 with (fail)
              obtain ⟨SS, hSS⟩ : ∃ SS : World → Prop, SS = (fun W => W.cell? ⟨w.heap.size + 1, 1, none⟩ = some (.slice (some ⟨g2, 0, none⟩) f.2.length c)) := ⟨_, rfl⟩
              have HS1 := Lib.hid (show ∀ W, W.cell? ⟨w.heap.size + 1, 1, none⟩ = some (.slice (some ⟨g2, 0, none⟩) f.2.length c) → SS W from by rw [hSS]; exact fun _ h => h)
              have HS2 := Lib.hid (show ∀ W, SS W → W.cell? ⟨w.heap.size + 1, 1, none⟩ = some (.slice (some ⟨g2, 0, none⟩) f.2.length c) from by rw [hSS]; exact fun _ h => h)
              clear hSS
              have F0 := Lib.hid F2.out.drew
              have S0 := Lib.hid (HS1.out _ (F0.out.fact.cell 1))
              have hpos : (0 : Int) < (f.2.length : Int) := by omega
              refine wp_region_rel SS 6 7 (by kernel_rfl) rfl ?_
              refine wpAnyR_pure (i := 0) (oi := _) ?v0d rfl rfl (by kernel_rfl) (by decide) (fun _ _ _ h => h) rfl ?hy0d (fun _ => S0.out) ?rest0d
              case hy0d => (intro W; go_simp; (try with_reducible rfl))
              try simp only [List.setIfInBounds_toArray, List.set_cons_zero, List.set_cons_succ]
              refine wpAnyR_take (i := 1) (oi := _) ?v1d rfl rfl (by kernel_rfl) (fun _ _ _ h => h) rfl ?hy1d S0.out ?rest1d
              case hy1d => (intro W hW; have e1 := HS2.out W hW; go_simp; (try with_reducible rfl))
              try simp only [List.setIfInBounds_toArray, List.set_cons_zero, List.set_cons_succ]
              refine wpAnyR_pure (i := 2) (oi := _) ?v2d rfl rfl (by kernel_rfl) (by decide) (fun _ _ _ h => h) rfl ?hy2d (fun _ => S0.out) ?rest2d
              case hy2d => (intro W; go_simp; (try with_reducible rfl))
              try simp only [List.setIfInBounds_toArray, List.set_cons_zero, List.set_cons_succ]
              refine wpAnyR_one (i := 3) (by kernel_rfl) rfl (fun K hK => ?_)
              go_simp
              refine hK.out _ _ (fun _ => HS1.out _ ((F0.out.alloc _).fact.cell 1)) ?_
              clear hK K
              try simp only [List.setIfInBounds_toArray, List.set_cons_zero, List.set_cons_succ, Act.put]
              refine wpAnyR_one (i := 4) (by kernel_rfl) rfl (fun K hK => ?_)
              go_simp
              refine (FaRel.num_calls F0.out hgl (by omega) 6 (-1) 5).mono ?_
              rintro e w9 ⟨v9, rfl, ⟨x9, rfl⟩, hf9⟩
              have F9 := Lib.hid hf9
              have HST := Lib.hid (hf9.first hgl x9)
              obtain ⟨e1, e2⟩ := hf9.head hn0
              clear hf9
              refine hK.out _ _ (fun _ => HS1.out _ (F9.out.fact.cell 1)) ?_
              clear hK K
              try simp only [List.setIfInBounds_toArray, List.set_cons_zero, List.set_cons_succ, Act.put]
              refine wpAnyR_pure (i := 5) (oi := _) (.pointer (some ⟨g2, 0, none⟩)) rfl rfl (by kernel_rfl) (by decide) (fun _ _ _ h => h) rfl ?hy5d (fun _ => HS1.out _ (F9.out.fact.cell 1)) ?rest5d
              case hy5d => (intro W; go_simp; (try with_reducible rfl))
              try simp only [List.setIfInBounds_toArray, List.set_cons_zero, List.set_cons_succ]
              refine wpAnyR_one (i := 6) (by kernel_rfl) rfl (fun K hK => ?_)
              go_simp
              refine hK.out _ _ (fun hf => absurd hf (by decide)) ?_
              clear hK K
              refine wpAnyR_done (by kernel_rfl) ?_
              go_wp2_with (fail)
              go_meet
              exact ⟨_, _, (f.1, f.2.set 0 x9), _, by simp; omega, by omega, HST.out⟩
            · have hdn : decide ((0 : Int) < f.2.length) = false := by simpa using hn0
              go_wp2_with (fail)
              go_meet
              exact ⟨A, c, f, _, by omega, by omega, F2.out⟩
      · have hd1 : (x1 == 0) = false := by simpa using h1
        go_wp2_with (fail)
        go_meet
        exact ⟨A, c, f, _, by omega, by omega, F1.out⟩
    case rest =>
      obtain ⟨A, c, f, q, hfl, hq, hf⟩ := hcut
      have k0 : wc.cell? ⟨w.heap.size + 1, 0, none⟩ = some (.int .i64 f.1) := hf.fact.cell 0
      have k1 : wc.cell? ⟨w.heap.size + 1, 1, none⟩ = some (.slice A f.2.length c) := hf.fact.cell 1
      have j0 : wc.cell? ⟨w.heap.size, 0, none⟩ = some (.int .i64 0) := hf.res.cell 0
      have j1 : wc.cell? ⟨w.heap.size, 1, none⟩ = some (.slice none 0 0) := hf.res.cell 1
      have l0 := hf.res.frozen 0
      have l1 := hf.res.frozen 1
      obtain ⟨hd0, hd1, hd2, hd3⟩ := hf.done hgl
      have HD := Lib.hid (And.intro hd0 (And.intro hd1 hd2))
      obtain ⟨W, hW⟩ : ∃ W, W = (wc.setCell ⟨w.heap.size, 0, none⟩ (.int .i64 f.1)).setCell ⟨w.heap.size, 1, none⟩ (.slice A f.2.length c) := ⟨_, rfl⟩
      rw [← hW] at HD
      have d0 : W.cell? ⟨w.heap.size, 0, none⟩ = some (.int .i64 f.1) := by rw [hW, hd3.cell 0]; rfl
      have d1 : W.cell? ⟨w.heap.size, 1, none⟩ = some (.slice A f.2.length c) := by rw [hW, hd3.cell 1]; rfl
      have HW := Lib.hid hW
      clear hW hd0 hd1 hd2 hd3 hf
      go_wp2_with (fail)
      rw [← HW.out]
      refine bodyPost_ret (v := .agg #[.int .i64 f.1, .slice A f.2.length c]) (by simp [results, Try.results144, go_sem, d0, d1]) rfl ?_
      obtain ⟨h1, h2, h3⟩ := HD.out
      exact ⟨A, c, f, q, rfl, hfl, by omega, h1, h2, h3⟩

end Go.Proofs.Ytocpfmbieedpgaa
/-
  A fact drawn, its arguments in a row of the call's own.
-/
namespace Go.Proofs.Ytocpfmbieedpgaa
open Go.RowKit

theorem OwnInts.offG {w W : World} {lo hi g : Nat} {v : Value} {xs : List Int} (h : OwnInts w lo hi v xs) (k : Only g (g + 1) w W) (hg : g < lo) : OwnInts W lo hi v xs :=
  h.kept fun b hb => k.block b (h.1.lt b hb).2 (.inr (by have := (h.1.lt b hb).1; omega))
theorem DrRel.ints {w wr : World} {g : Nat} {bs : List Nat} {p k : Nat} {A : Option Addr} {c : Nat} {xs : List Int} (h : DrRel w wr g bs p k A c xs) : OwnInts wr w.heap.size wr.heap.size (.slice A k c) xs :=
  ⟨by rw [h.len]; exact h.own, fun b hb => (h.own.lt b hb).2⟩

theorem l1Fact_own (g : Nat) (bs : List Nat) (p lo hi : Nat) (v : Value) (ar : List Int) (w : World) (h : Rdr w g bs p) (hp : p ≤ 1048576) (ha : OwnInts w lo hi v ar) (hg : g < lo) (hh : hi ≤ w.heap.size) (hr : ∀ x ∈ ar, 0 ≤ x ∧ x ≤ 2) (hl : ar.length ≤ 1048576) :
    Calls Try.prog 144 #[.pointer (some ⟨g, 0, none⟩), v] w fun e w' => ∃ (A : Option Addr) (c : Nat) (f : LFact) (q : Nat), e = .returned (.agg #[.int .i64 f.1, .slice A f.2.length c]) ∧ f.2.length ≤ 3 ∧ q ≤ p + 20 ∧
      OwnInts w' w.heap.size w'.heap.size (.slice A f.2.length c) f.2 ∧ Rdr w' g bs q ∧ Only g (g + 1) w w' :=
  (l1Fact_any g bs p v ar w h hp (ha.rd.more hh) (fun _ k => (ha.offG k hg).rd.more (Nat.le_trans hh k.size)) hr hl).mono fun _ _ ⟨A, c, f, q, he, hf, hq, ho, hR, hO⟩ =>
    ⟨A, c, f, q, he, hf, hq, (show OwnInts _ _ _ _ _ from ⟨ho, fun b hb => (ho.lt b hb).2⟩).mono (Nat.le_add_right _ 2) (Nat.le_refl _), hR, hO⟩

end Go.Proofs.Ytocpfmbieedpgaa
/-
  A row of integers that a draw makes: the words; the walk of l3Draw.
-/
namespace Go.Proofs.Ytocpfmbieedpgaa
open Go.RowKit

/-- What a draw of integers keeps: the row lies from w on, the reader is read on. -/
structure DrI (w wr : World) (g : Nat) (bs : List Nat) (q : Nat) (A : Option Addr) (c : Nat) (xs : List Int) : Prop where
  own : OwnInts wr w.heap.size wr.heap.size (.slice A xs.length c) xs
  rdr : Rdr wr g bs q
  only : Only g (g + 1) w wr
section
variable {w wr w' w4 : World} {g q : Nat} {bs : List Nat} {A : Option Addr} {c : Nat} {xs : List Int}
theorem DrI.empty (h : Rdr w g bs q) : DrI w (w.alloc (.cells #[] 3)) g bs q (some ⟨w.heap.size, 0, none⟩) 0 [] :=
  ⟨⟨World.ownsRow_made w #[] 0 (Nat.le_refl _) (by decide) rfl, fun b hb => by simp [Value.ownBlock] at hb; subst hb; simp⟩, h.below (below1 _ _) h.lt, Only.of_below (below1 _ _)⟩
theorem DrI.on (h : DrI w wr g bs q A c xs) (hb : Below wr.heap.size wr w') : DrI w w' g bs q A c xs :=
  ⟨(h.own.below hb (Nat.le_refl _)).mono (Nat.le_refl _) hb.size, h.rdr.below hb h.rdr.lt, h.only.trans (Only.of_below hb)⟩
theorem DrI.pick (h : DrI w wr g bs q A c xs) (hg : g < w.heap.size) (hk : Picked wr w' g bs q) : DrI w w' g bs (q + 1) A c xs :=
  ⟨(h.own.only hk.2 (.inr (by omega))).mono (Nat.le_refl _) hk.2.size, hk.1, h.only.trans hk.2⟩
theorem DrI.low (h : DrI w wr g bs q A c xs) (hg : wr.grownBy w' (Value.slice A xs.length c).ownBlock) : ∀ b, b < w.heap.size → w'.heap[b]? = wr.heap[b]? := fun b hb =>
  hg.block b (by have := h.only.size; omega) (fun e => by have := (h.own.lt e.symm).1; omega)
theorem DrI.push {g2 cap : Nat} {x : Int} {o : Obj} (h : DrI w wr g bs q A c xs) (hgw : g < w.heap.size) (hg : (wr.alloc o).grownBy w4 (Value.slice A xs.length c).ownBlock)
    (hown : w4.ownsRow w.heap.size 3 1 (.slice (some ⟨g2, 0, none⟩) (xs.length + 1) cap) (xs.length + 1) (xs.map (Value.int .i64) ++ [.int .i64 x])) : DrI w w4 g bs q (some ⟨g2, 0, none⟩) cap (xs ++ [x]) := by
  have hg2 := grown_from_alloc hg
  have hlow := h.low hg2
  have hl : (xs ++ [x]).length = xs.length + 1 := by simp
  refine ⟨?_, h.rdr.same fun k hk => hlow k (by omega), ?_⟩
  · rw [hl]
    exact ⟨by simpa using hown, fun b hb => (hown.lt b hb).2⟩
  · exact ⟨hg2.os.trans h.only.os, hg2.tape.trans h.only.tape, hg2.output.trans h.only.output, Nat.le_trans h.only.size hg2.size, fun b hb hn => (hlow b hb).trans (h.only.block b hb hn)⟩
theorem DrI.form (h : DrI w wr g bs q A c xs) (hn : 0 < xs.length) : ∃ b, A = some ⟨b, 0, none⟩ ∧ w.heap.size ≤ b := by
  rcases h.own.1.2 with ⟨e, h0⟩ | ⟨b, cap, cur, e, hb, _⟩
  · omega
  · injection e with e _ _
    exact ⟨b, e, hb⟩
theorem DrI.cap (h : DrI w wr g bs q A c xs) : xs.length ≤ c := by
  obtain ⟨A', c', e, hc, _⟩ := h.own.rd
  injection e with _ _ e
  omega
theorem DrI.cell {b : Nat} (h : DrI w wr g bs q (some ⟨b, 0, none⟩) c xs) {j : Nat} (hj : j < xs.length) : wr.cell? ⟨b, j, none⟩ = some (.int .i64 xs[j]) ∧ wr.frozen? ⟨b, j, none⟩ = false := by
  refine ⟨?_, h.own.1.frozenAt j⟩
  rw [h.own.1.cellAt j (by omega)]
  simp [hj]
theorem DrI.set {b : Nat} (h : DrI w wr g bs q (some ⟨b, 0, none⟩) c xs) (hgw : g < w.heap.size) {j : Nat} (hj : j < xs.length) (x : Int) : DrI w (wr.setCell ⟨b, j, none⟩ (.int .i64 x)) g bs q (some ⟨b, 0, none⟩) c (xs.set j x) := by
  have hb := (h.own.lt (g := b) rfl)
  refine ⟨?_, h.rdr.same fun k hk => Below.heap_setCell _ _ _ _ (by show k ≠ b; omega), ⟨h.only.os, h.only.tape, h.only.output, by simpa using h.only.size, fun k hk hn => (Below.heap_setCell _ _ _ _ (by show k ≠ b; omega)).trans (h.only.block k hk hn)⟩⟩
  have := h.own.store rfl hj x
  simpa using this
theorem DrI.take {b n : Nat} (h : DrI w wr g bs q (some ⟨b, 0, none⟩) c xs) (hn : n ≤ xs.length) : DrI w wr g bs q (some ⟨b, 0, none⟩) c (xs.take n) := by
  refine ⟨?_, h.rdr, h.only⟩
  have hl : (xs.take n).length = n := by rw [List.length_take]; omega
  rw [hl]
  refine ⟨⟨by first | (simp; done) | (simp; omega), .inr ?_⟩, h.own.2⟩
  rcases h.own.1.2 with ⟨e, _⟩ | ⟨b', cap, cur, e, hb, hg, hnc, hcm, hcs, ht⟩
  · cases e
  · injection e with e1 e2 e3
    injection e1 with e1
    injection e1 with e1 _ _
    subst e1
    subst e3
    refine ⟨b, c, cur, by rw [hl], hb, hg, by omega, hcm, hcs, ?_⟩
    rw [hl]
    have := congrArg (List.take n) ht
    rw [List.take_take] at this
    simp only [Nat.mul_one] at this ⊢
    rw [show min n xs.length = n by omega] at this
    rw [this, List.map_take]
theorem DrI.same (h : DrI w wr g bs q A c xs) : RdInts wr wr.heap.size (.slice A xs.length c) xs := h.own.rd
end

end Go.Proofs.Ytocpfmbieedpgaa
/-
  An atom drawn: the words; the walk of l2Draw.
-/
namespace Go.Proofs.Ytocpfmbieedpgaa
open Go.RowKit

/-- What l2Draw keeps: r is the result's block, r + 1 the fact's. -/
structure AoRel (w wr : World) (g : Nat) (bs : List Nat) (p : Nat) (A : Option Addr) (c : Nat) (f : LFact) : Prop where
  res : Blk wr w.heap.size 25 #[.int .i64 0, .slice none 0 0]
  fact : Blk wr (w.heap.size + 1) 25 #[.int .i64 f.1, .slice A f.2.length c]
  own : wr.ownsRow (w.heap.size + 2) 3 1 (.slice A f.2.length c) f.2.length (f.2.map (Value.int .i64))
  rdr : Rdr wr g bs p
  only : Only g (g + 1) w wr

theorem AoRel.start {w : World} {g : Nat} {bs : List Nat} {p : Nat} (h : Rdr w g bs p) :
    AoRel w ((w.alloc (Obj.cells #[Value.int IntKind.i64 0, Value.slice none 0 0] 25)).alloc (Obj.cells #[Value.int IntKind.i64 0, Value.slice none 0 0] 25)) g bs p none 0 (0, []) :=
  ⟨(Blk.new w _ _).alloc _, by simpa using Blk.new (w.alloc (Obj.cells #[Value.int IntKind.i64 0, Value.slice none 0 0] 25)) 25 #[.int .i64 0, .slice none 0 0], World.ownsRow_nil _ _ _ _, h.below (below2 w _ _) h.lt, Only.of_below (below2 w _ _)⟩

/-- A pick keeps the rest. -/
theorem AoRel.pick {w wr w' : World} {g : Nat} {bs : List Nat} {p : Nat} {A : Option Addr} {c : Nat} {f : LFact} (h : AoRel w wr g bs p A c f) (hg : g < w.heap.size) (hk : Picked wr w' g bs p) : AoRel w w' g bs (p + 1) A c f :=
  ⟨h.res.only hk.2 (by omega), h.fact.only hk.2 (by omega), ownsRow_only h.own (fun b hb => hk.2.block b (h.own.lt b hb).2 (by have := (h.own.lt b hb).1; omega)), hk.1, h.only.trans hk.2⟩

/-- The predicate stored. -/
theorem AoRel.pred {w wr : World} {g : Nat} {bs : List Nat} {p : Nat} {A : Option Addr} {c : Nat} {f : LFact} (h : AoRel w wr g bs p A c f) (hg : g < w.heap.size) (x : Int) : AoRel w (wr.setCell ⟨w.heap.size + 1, 0, none⟩ (.int .i64 x)) g bs p A c (x, f.2) :=
  ⟨h.res.far (by show w.heap.size ≠ w.heap.size + 1; omega) _, h.fact.set_ 0 _, ownsRow_only h.own (fun b hb => Below.heap_setCell _ _ _ _ (by have := (h.own.lt b hb).1; show b ≠ w.heap.size + 1; omega)),
    h.rdr.same fun k hk => Below.heap_setCell _ _ _ _ (by show k ≠ w.heap.size + 1; omega),
    ⟨h.only.os, h.only.tape, h.only.output, by simpa using h.only.size, fun k hk hn => (Below.heap_setCell _ _ _ _ (by show k ≠ w.heap.size + 1; omega)).trans (h.only.block k hk hn)⟩⟩

/-- A new block keeps all. -/
theorem AoRel.alloc {w wr : World} {g : Nat} {bs : List Nat} {p : Nat} {A : Option Addr} {c : Nat} {f : LFact} (h : AoRel w wr g bs p A c f) (o : Obj) : AoRel w (wr.alloc o) g bs p A c f :=
  ⟨h.res.alloc o, h.fact.alloc o, h.own.alloc o, h.rdr.below (below1 wr o) h.rdr.lt, h.only.trans (Only.of_below (below1 wr o))⟩
theorem AoRel.drewN {w wr : World} {g : Nat} {bs : List Nat} {p : Nat} {A : Option Addr} {c : Nat} {f : LFact} (h : AoRel w wr g bs p A c f) (n : Nat) : AoRel w (wr.drewN n) g bs p A c f :=
  ⟨h.res, h.fact, h.own, h.rdr, ⟨h.only.os, h.only.tape, h.only.output, h.only.size, h.only.block⟩⟩

theorem AoRel.drew {w wr : World} {g : Nat} {bs : List Nat} {p : Nat} {A : Option Addr} {c : Nat} {f : LFact} (h : AoRel w wr g bs p A c f) : AoRel w wr.drew g bs p A c f :=
  ⟨h.res, h.fact, h.own, h.rdr, ⟨h.only.os, h.only.tape, h.only.output, h.only.size, h.only.block⟩⟩

theorem AoRel.push {w wr w4 : World} {g : Nat} {bs : List Nat} {p : Nat} {A : Option Addr} {c : Nat} {P : Int} {xs : List Int} (h : AoRel w wr g bs p A c (P, xs)) (hg : g < w.heap.size)
    (hgr : wr.grownBy w4 (Value.slice A xs.length c).ownBlock) {g2 cap : Nat} {x : Int} (hown : w4.ownsRow (w.heap.size + 2) 3 1 (.slice (some ⟨g2, 0, none⟩) (xs.length + 1) cap) (xs.length + 1) (xs.map (Value.int .i64) ++ [.int .i64 x])) :
    AoRel w (w4.setCell ⟨w.heap.size + 1, 1, none⟩ (.slice (some ⟨g2, 0, none⟩) (xs.length + 1) cap)) g bs p (some ⟨g2, 0, none⟩) cap (P, xs ++ [x]) := by
  have hs := h.fact.lt
  have hlow : ∀ b, b < w.heap.size + 2 → w4.heap[b]? = wr.heap[b]? := fun b hb => hgr.block b (by omega) (fun e => by have := (h.own.lt b e.symm).1; omega)
  have hlow2 : ∀ b, b < w.heap.size + 1 → (w4.setCell ⟨w.heap.size + 1, 1, none⟩ (.slice (some ⟨g2, 0, none⟩) (xs.length + 1) cap)).heap[b]? = wr.heap[b]? := fun b hb =>
    (Below.heap_setCell _ _ _ _ (by show b ≠ w.heap.size + 1; omega)).trans (hlow b (by omega))
  refine ⟨(hlow2 _ (by omega)).trans h.res, ?_, ?_, h.rdr.same fun k hk => hlow2 k (by omega), ⟨hgr.os.trans h.only.os, hgr.tape.trans h.only.tape, hgr.output.trans h.only.output, Nat.le_trans h.only.size (Nat.le_trans hgr.size (by simp)), fun k hk hn => (hlow2 k (by omega)).trans (h.only.block k hk hn)⟩⟩
  · have := (show Blk w4 (w.heap.size + 1) 25 _ from (hlow _ (by omega)).trans h.fact).set_ 1 (.slice (some ⟨g2, 0, none⟩) (xs.length + 1) cap)
    simpa using this
  · simpa using ownsRow_only hown (fun b hb => Below.heap_setCell _ _ _ _ (by have := (hown.lt b hb).1; show b ≠ w.heap.size + 1; omega))

theorem AoRel.keepFact {w wr w4 : World} {g : Nat} {bs : List Nat} {p : Nat} {A : Option Addr} {c : Nat} {f : LFact} (h : AoRel w wr g bs p A c f) (hgr : wr.grownBy w4 (Value.slice A f.2.length c).ownBlock) : Blk w4 (w.heap.size + 1) 25 #[.int .i64 f.1, .slice A f.2.length c] :=
  (hgr.block _ h.fact.lt (fun e => by have := (h.own.lt _ e.symm).1; omega)).trans h.fact

/-- A row of one or more begins at its block. -/
theorem AoRel.form {w W : World} {g : Nat} {bs : List Nat} {q : Nat} {A : Option Addr} {c : Nat} {f : LFact} (h : AoRel w W g bs q A c f) (hn : 0 < f.2.length) : ∃ g2, A = some ⟨g2, 0, none⟩ := by
  obtain ⟨g2, cap, e, _⟩ := h.own.form hn
  injection e with e1 _ _
  exact ⟨g2, e1⟩
theorem AoRel.head {w W : World} {g : Nat} {bs : List Nat} {q g2 c : Nat} {f : LFact} (h : AoRel w W g bs q (some ⟨g2, 0, none⟩) c f) (hn : 0 < f.2.length) : W.cell? ⟨g2, 0, none⟩ = some (.int .i64 (f.2[0]'hn)) ∧ W.frozen? ⟨g2, 0, none⟩ = false := by
  refine ⟨?_, h.own.frozenAt 0⟩
  rw [h.own.cellAt 0 (by omega)]
  simp [hn]
/-- The first place is set anew. -/
theorem AoRel.first {w W : World} {g : Nat} {bs : List Nat} {q g2 c : Nat} {f : LFact} (h : AoRel w W g bs q (some ⟨g2, 0, none⟩) c f) (hg : g < w.heap.size) (x : Int) :
    AoRel w (W.setCell ⟨g2, 0, none⟩ (.int .i64 x)) g bs q (some ⟨g2, 0, none⟩) c (f.1, f.2.set 0 x) := by
  have hb := (h.own.lt g2 rfl).1
  have hs := h.own.stored 0 (.int .i64 x)
  refine ⟨h.res.far (by show w.heap.size ≠ g2; omega) _, ?_, ?_, h.rdr.same fun k hk => Below.heap_setCell _ _ _ _ (by show k ≠ g2; omega),
    ⟨h.only.os, h.only.tape, h.only.output, by simpa using h.only.size, fun k hk hn => (Below.heap_setCell _ _ _ _ (by show k ≠ g2; omega)).trans (h.only.block k hk hn)⟩⟩
  · simpa using h.fact.far (p := ⟨g2, 0, none⟩) (by show w.heap.size + 1 ≠ g2; omega) (.int .i64 x)
  · have := hs.1
    rw [← List.map_set] at this
    simpa using this
/-- The result is laid. -/
theorem AoRel.done {w W : World} {g : Nat} {bs : List Nat} {q : Nat} {A : Option Addr} {c : Nat} {f : LFact} (h : AoRel w W g bs q A c f) (hg : g < w.heap.size) :
    ((W.setCell ⟨w.heap.size, 0, none⟩ (.int .i64 f.1)).setCell ⟨w.heap.size, 1, none⟩ (.slice A f.2.length c)).ownsRow (w.heap.size + 2) 3 1 (.slice A f.2.length c) f.2.length (f.2.map (Value.int .i64)) ∧
    Rdr ((W.setCell ⟨w.heap.size, 0, none⟩ (.int .i64 f.1)).setCell ⟨w.heap.size, 1, none⟩ (.slice A f.2.length c)) g bs q ∧
    Only g (g + 1) w ((W.setCell ⟨w.heap.size, 0, none⟩ (.int .i64 f.1)).setCell ⟨w.heap.size, 1, none⟩ (.slice A f.2.length c)) ∧
    Blk ((W.setCell ⟨w.heap.size, 0, none⟩ (.int .i64 f.1)).setCell ⟨w.heap.size, 1, none⟩ (.slice A f.2.length c)) w.heap.size 25 #[.int .i64 f.1, .slice A f.2.length c] := by
  have hb : ∀ k, k ≠ w.heap.size → ((W.setCell ⟨w.heap.size, 0, none⟩ (.int .i64 f.1)).setCell ⟨w.heap.size, 1, none⟩ (.slice A f.2.length c)).heap[k]? = W.heap[k]? := fun k hk =>
    (Below.heap_setCell _ _ _ _ (by show k ≠ w.heap.size; exact hk)).trans (Below.heap_setCell _ _ _ _ (by show k ≠ w.heap.size; exact hk))
  refine ⟨ownsRow_only h.own (fun b hb' => hb b (by have := (h.own.lt b hb').1; omega)), h.rdr.same fun k hk => hb k (by omega), ⟨h.only.os, h.only.tape, h.only.output, by simpa using h.only.size, fun k hk hn => (hb k (by omega)).trans (h.only.block k hk hn)⟩, ?_⟩
  have := (h.res.set_ 0 (.int .i64 f.1)).set_ 1 (.slice A f.2.length c)
  simpa using this


theorem AoRel.startAt {w : World} {g : Nat} {bs : List Nat} {p : Nat} (h : Rdr w g bs p) (x : Int) :
    AoRel w ((w.alloc (Obj.cells #[Value.int IntKind.i64 0, Value.slice none 0 0] 25)).alloc (Obj.cells #[Value.int IntKind.i64 x, Value.slice none 0 0] 25)) g bs p none 0 (x, []) :=
  ⟨(Blk.new w _ _).alloc _, by simpa using Blk.new (w.alloc (Obj.cells #[Value.int IntKind.i64 0, Value.slice none 0 0] 25)) 25 #[.int .i64 x, .slice none 0 0], World.ownsRow_nil _ _ _ _, h.below (below2 w _ _) h.lt, Only.of_below (below2 w _ _)⟩

set_option maxHeartbeats 4000000 in
set_option maxRecDepth 100000 in
theorem l2Draw_any (g : Nat) (bs : List Nat) (p lo hi j m n : Nat) (v : Value) (ar : List Int) (w : World) (h : Rdr w g bs p) (hp : p ≤ 1048576) (ha : OwnInts w lo hi v ar) (hg : g < lo) (hh : hi ≤ w.heap.size) (hj : j < ar.length) (hm : ar[j] = (m : Int)) (hm2 : m ≤ 2) (hl : ar.length ≤ 1048576) (hn : n ≤ 1048576) :
    Calls Try.prog 166 #[.pointer (some ⟨g, 0, none⟩), v, .int .i64 j, .int .i64 n] w fun e w' => ∃ (A : Option Addr) (c : Nat) (xs : List Int) (q : Nat), e = .returned (.agg #[.int .i64 j, .slice A xs.length c]) ∧ xs.length ≤ 2 ∧ q ≤ p + 6 ∧
      OwnInts w' w.heap.size w'.heap.size (.slice A xs.length c) xs ∧ Rdr w' g bs q ∧ Only g (g + 1) w w' := by
  obtain ⟨i0, hi0, hz0, hz1, hz2⟩ := info_parts Try.infoInt
  have hgl := h.lt
  have HOW := Lib.hid ha
  have HM := Lib.hid hm
  have HS := Lib.hid (AoRel.startAt h (j : Int))
  obtain ⟨A0, c0, hv0⟩ := ha.form
  subst hv0
  clear h ha hm
  go_enter Try.func166, Try.ntmps166
  go_wp2_with (fail)
  go_loopw [10] (fun i wr => ∃ (k : Nat) (A : Option Addr) (c : Nat) (xs : List Int) (q : Nat), k ≤ m ∧ i = .int .i64 k ∧ xs.length = k ∧ q ≤ p + 3 * k ∧ AoRel w wr g bs q A c ((j : Int), xs)) (fun i _ => m - (intOf i).toNat)
  case atStart => exact ⟨0, none, 0, [], p, Nat.zero_le _, rfl, rfl, by omega, HS.out⟩
  case round =>
    obtain ⟨k, A, c, xs, q, hk, rfl, hxl, hq, hfr⟩ := hrel
    have HXL := Lib.hid hxl
    have hxl2 : xs.length ≤ 2 := by omega
    have how := HOW.out.only hfr.only (.inr (by omega))
    obtain ⟨A', c', e0, hc', hcell⟩ := how.rd
    injection e0 with e1 e3 e2
    clear e3
    subst e1
    subst e2
    obtain ⟨b, o, rfl, hbB, hx⟩ := hcell (by omega)
    have k3 : wr.cell? ⟨b, o + j, none⟩ = some (.int .i64 (m : Int)) := by rw [hx j hj, HM.out]
    have HR := Lib.hid hfr
    clear hcell hx hfr how hxl
    by_cases hlt : k < m
    · go_wp2_with (fail)
      refine (pick_any g bs q 3 _ HR.out.rdr (by omega) (by omega)).mono ?_
      rintro e w1 ⟨⟨x1, rfl, _⟩, hp1⟩
      have H1 := Lib.hid (HR.out.pick hgl hp1)
      clear hp1
      by_cases hn0 : 0 < n
      · have hnb : decide ((0 : Int) < (n : Int)) = true := by simpa using hn0
        go_wp2_with (fail)
        refine (pick_any g bs (q + 1) 5 _ H1.out.rdr (by omega) (by omega)).mono ?_
        rintro e w2 ⟨⟨x2, rfl, _⟩, hp2⟩
        have H2 := Lib.hid (H1.out.pick hgl hp2)
        clear hp2
        by_cases hx2 : 0 < x2
        · have hxb : decide (0 < x2) = true := by simpa using hx2
          go_wp2_with (fail)
          refine (pick_any g bs (q + 1 + 1) n _ H2.out.rdr (by omega) (by omega)).mono ?_
          rintro e w3 ⟨⟨x3, rfl, hx3⟩, hp3⟩
          have hx3r : 0 ≤ x3 ∧ x3 < n := hx3.1 (by omega)
          obtain ⟨wS, rfl⟩ : ∃ wS, wS = w3 := ⟨_, rfl⟩
          have H3 := Lib.hid (H2.out.pick hgl hp3)
          have hw3 : IntKind.i64.wrap (-1 - x3) = -1 - x3 := by
            unfold IntKind.wrap
            simp [IntKind.bits, IntKind.signed] <;> omega
          clear hp3 hx3
          have a1 : wS.cell? ⟨w.heap.size + 1, 1, none⟩ = some (.slice A xs.length c) := H3.out.fact.cell 1
          go_wp2_with (at_builtin; refine wpList_append_lies _ rfl (.tmp 36) (.tmp 38) 23 rfl (w.heap.size + 2) 3 i0 (.int .i64 0) 1 8 Try.underlying23 hi0 hz0 hz1 hz2 rfl (by decide) (.slice A xs.length c) xs.length (xs.map (Value.int .i64)) rfl ?c1 ⟨wS.heap.size, 0, none⟩ 1 1 [.int .i64 (-1 - x3)] rfl rfl (cell_one_new _ _ _) ?c2 (by omega) (by unfold maxLen; omega) (by omega) ?c3 _ rfl ?_)
          case c1 => exact (H3.out.alloc _).own
          case c2 => intro u hu; simp at hu; subst hu; rfl
          case c3 => exact (H3.out.alloc _).fact.lt
          intro g2 cap w5 hown hgr _ _
          have HST := Lib.hid (AoRel.push (H3.out.alloc _) hgl hgr hown)
          have hkf := AoRel.keepFact (H3.out.alloc _) hgr
          have e1 : w5.cell? ⟨w.heap.size + 1, 1, none⟩ = some (.slice A xs.length c) := hkf.cell 1
          have e2 := hkf.frozen 1
          clear hkf hown hgr
          go_wp2_with (fail)
          go_roundw
          case rel => exact ⟨k + 1, _, _, xs ++ [(-1 - x3)], q + 1 + 1 + 1, by omega, by go_num, by simp; exact HXL.out, by omega, by simpa using HST.out⟩
          case measure => simp [intOf]; omega
        · have hxb : decide (0 < x2) = false := by simpa using hx2
          obtain ⟨wS, rfl⟩ : ∃ wS, wS = w2 := ⟨_, rfl⟩
          have a1 : wS.cell? ⟨w.heap.size + 1, 1, none⟩ = some (.slice A xs.length c) := H2.out.fact.cell 1
          go_wp2_with (at_builtin; refine wpList_append_lies _ rfl (.tmp 36) (.tmp 38) 23 rfl (w.heap.size + 2) 3 i0 (.int .i64 0) 1 8 Try.underlying23 hi0 hz0 hz1 hz2 rfl (by decide) (.slice A xs.length c) xs.length (xs.map (Value.int .i64)) rfl ?c1 ⟨wS.heap.size, 0, none⟩ 1 1 [.int .i64 x1] rfl rfl (cell_one_new _ _ _) ?c2 (by omega) (by unfold maxLen; omega) (by omega) ?c3 _ rfl ?_)
          case c1 => exact (H2.out.alloc _).own
          case c2 => intro u hu; simp at hu; subst hu; rfl
          case c3 => exact (H2.out.alloc _).fact.lt
          intro g2 cap w5 hown hgr _ _
          have HST := Lib.hid (AoRel.push (H2.out.alloc _) hgl hgr hown)
          have hkf := AoRel.keepFact (H2.out.alloc _) hgr
          have e1 : w5.cell? ⟨w.heap.size + 1, 1, none⟩ = some (.slice A xs.length c) := hkf.cell 1
          have e2 := hkf.frozen 1
          clear hkf hown hgr
          go_wp2_with (fail)
          go_roundw
          case rel => exact ⟨k + 1, _, _, xs ++ [x1], q + 1 + 1, by omega, by go_num, by simp; exact HXL.out, by omega, by simpa using HST.out⟩
          case measure => simp [intOf]; omega
      · have hnb : decide ((0 : Int) < (n : Int)) = false := by simpa using hn0
        obtain ⟨wS, rfl⟩ : ∃ wS, wS = w1 := ⟨_, rfl⟩
        have a1 : wS.cell? ⟨w.heap.size + 1, 1, none⟩ = some (.slice A xs.length c) := H1.out.fact.cell 1
        go_wp2_with (at_builtin; refine wpList_append_lies _ rfl (.tmp 36) (.tmp 38) 23 rfl (w.heap.size + 2) 3 i0 (.int .i64 0) 1 8 Try.underlying23 hi0 hz0 hz1 hz2 rfl (by decide) (.slice A xs.length c) xs.length (xs.map (Value.int .i64)) rfl ?c1 ⟨wS.heap.size, 0, none⟩ 1 1 [.int .i64 x1] rfl rfl (cell_one_new _ _ _) ?c2 (by omega) (by unfold maxLen; omega) (by omega) ?c3 _ rfl ?_)
        case c1 => exact (H1.out.alloc _).own
        case c2 => intro u hu; simp at hu; subst hu; rfl
        case c3 => exact (H1.out.alloc _).fact.lt
        intro g2 cap w5 hown hgr _ _
        have HST := Lib.hid (AoRel.push (H1.out.alloc _) hgl hgr hown)
        have hkf := AoRel.keepFact (H1.out.alloc _) hgr
        have e1 : w5.cell? ⟨w.heap.size + 1, 1, none⟩ = some (.slice A xs.length c) := hkf.cell 1
        have e2 := hkf.frozen 1
        clear hkf hown hgr
        go_wp2_with (fail)
        go_roundw
        case rel => exact ⟨k + 1, _, _, xs ++ [x1], q + 1, by omega, by go_num, by simp; exact HXL.out, by omega, by simpa using HST.out⟩
        case measure => simp [intOf]; omega
    · have hkn : xs.length = m := by have := HXL.out; omega
      have hf := HR.out
      have q0 : wr.cell? ⟨w.heap.size + 1, 0, none⟩ = some (.int .i64 (j : Int)) := hf.fact.cell 0
      have q1 : wr.cell? ⟨w.heap.size + 1, 1, none⟩ = some (.slice A xs.length c) := hf.fact.cell 1
      have j0 : wr.cell? ⟨w.heap.size, 0, none⟩ = some (.int .i64 0) := hf.res.cell 0
      have j1 : wr.cell? ⟨w.heap.size, 1, none⟩ = some (.slice none 0 0) := hf.res.cell 1
      have l0 := hf.res.frozen 0
      have l1 := hf.res.frozen 1
      obtain ⟨hd0, hd1, hd2, hd3⟩ := hf.done hgl
      have HD := Lib.hid (And.intro hd0 (And.intro hd1 hd2))
      obtain ⟨W, hW⟩ : ∃ W, W = (wr.setCell ⟨w.heap.size, 0, none⟩ (.int .i64 (j : Int))).setCell ⟨w.heap.size, 1, none⟩ (.slice A xs.length c) := ⟨_, rfl⟩
      have HD := Lib.hid (show W.ownsRow (w.heap.size + 2) 3 1 (.slice A xs.length c) xs.length (xs.map (Value.int .i64)) ∧ Rdr W g bs q ∧ Only g (g + 1) w W from by rw [hW]; exact HD.out)
      have d0 : W.cell? ⟨w.heap.size, 0, none⟩ = some (.int .i64 (j : Int)) := by rw [hW]; exact hd3.cell 0
      have d1 : W.cell? ⟨w.heap.size, 1, none⟩ = some (.slice A xs.length c) := by rw [hW]; exact hd3.cell 1
      have HW := Lib.hid hW
      clear hW hd0 hd1 hd2 hd3 hf hkn
      go_wp2_with (fail)
      rw [← HW.out]
      refine bodyPost_ret (v := .agg #[.int .i64 (j : Int), .slice A xs.length c]) (by simp [results, Try.results166, go_sem, d0, d1]) rfl ?_
      obtain ⟨h1, h2, h3⟩ := HD.out
      exact ⟨A, c, xs, rfl, hxl2, q, by omega, (show OwnInts _ _ _ _ _ from ⟨h1, fun b hb => (h1.lt b hb).2⟩).mono (Nat.le_add_right _ 2) (Nat.le_refl _), h2, h3⟩

end Go.Proofs.Ytocpfmbieedpgaa
/-
  A row that make laid and a loop fills, element by element, each element's own memory behind the one's ahead of it: so no two share a cell. The words; no walk.
-/
namespace Go.Proofs.Ytocpfmbieedpgaa
open Go.RowKit

section
variable {α : Type}
/-- What holds at the loop that fills block g with xs: k elements are there; element j's own memory lies in blocks from f j on and below f (j + 1). -/
structure Fill (t : TypeId) (z0 z1 z2 : Value) (O : World → Nat → Nat → Value → Value → Value → α → Prop) (g : Nat) (wr : World) (xs : List α) (k : Nat) (f : Nat → Nat) : Prop where
  row : ∃ cur : Array Value, Blk wr g t cur ∧ (∀ j, j < k → ∀ hx : j < xs.length, ∃ u0 u1 u2, cur[j * 3]? = some u0 ∧ cur[j * 3 + 1]? = some u1 ∧ cur[j * 3 + 2]? = some u2 ∧ O wr (f j) (f (j + 1)) u0 u1 u2 xs[j]) ∧
    (∀ j, k ≤ j → j < xs.length → cur[j * 3]? = some z0 ∧ cur[j * 3 + 1]? = some z1 ∧ cur[j * 3 + 2]? = some z2)
  mono : ∀ j, j < k → f j ≤ f (j + 1)
  lo : g < f 0
  hi : f k ≤ wr.heap.size

variable {t : TypeId} {z0 z1 z2 : Value} {O : World → Nat → Nat → Value → Value → Value → α → Prop} {g : Nat} {w wr w4 : World} {xs : List α} {k : Nat} {f : Nat → Nat}
theorem Fill.start (h : Blk w g t (madeCells #[z0, z1, z2] (xs.length * 3))) (m : Nat) (hm : g < m) (hw : m ≤ w.heap.size) : Fill t z0 z1 z2 O g w xs 0 (fun _ => m) :=
  ⟨⟨_, h, fun j hj => absurd hj (by omega), fun j _ hj => by
    have e0 : j * 3 % 3 = 0 := by omega
    have e1 : (j * 3 + 1) % 3 = 1 := by omega
    have e2 : (j * 3 + 2) % 3 = 2 := by omega
    have l0 : j * 3 < xs.length * 3 := by omega
    have l1 : j * 3 + 1 < xs.length * 3 := by omega
    have l2 : j * 3 + 2 < xs.length * 3 := by omega
    refine ⟨?_, ?_, ?_⟩ <;> simp [madeCells, *]⟩, fun j hj => absurd hj (by omega), hm, hw⟩
theorem Fill.le (h : Fill t z0 z1 z2 O g wr xs k f) : ∀ {i j : Nat}, i ≤ j → j ≤ k → f i ≤ f j := by
  intro i j hij
  induction j with
  | zero => intro _; rw [show i = 0 by omega]; exact Nat.le_refl _
  | succ j ih =>
    intro hj
    by_cases e : i = j + 1
    · rw [e]; exact Nat.le_refl _
    · exact Nat.le_trans (ih (by omega) (by omega)) (h.mono j (by omega))
theorem Fill.room (h : Fill t z0 z1 z2 O g wr xs k f) (hlt : k < xs.length) (hb : w4.heap[g]? = wr.heap[g]?) :
    w4.cell? ⟨g, k * 3, none⟩ = some z0 ∧ w4.cell? ⟨g, k * 3 + 1, none⟩ = some z1 ∧ w4.cell? ⟨g, k * 3 + 2, none⟩ = some z2 ∧
    w4.frozen? ⟨g, k * 3, none⟩ = false ∧ w4.frozen? ⟨g, k * 3 + 1, none⟩ = false ∧ w4.frozen? ⟨g, k * 3 + 2, none⟩ = false := by
  obtain ⟨cur, hcur, _, hz⟩ := h.row
  have h4 : Blk w4 g t cur := hb.trans hcur
  obtain ⟨c0, c1, c2⟩ := hz k (Nat.le_refl _) hlt
  exact ⟨(h4.cell _).trans c0, (h4.cell _).trans c1, (h4.cell _).trans c2, h4.frozen _, h4.frozen _, h4.frozen _⟩
theorem Fill.kept (keep : ∀ {w w' : World} {lo hi : Nat} {u0 u1 u2 : Value} {x : α}, O w lo hi u0 u1 u2 x → (∀ g, lo ≤ g → g < hi → w'.heap[g]? = w.heap[g]?) → O w' lo hi u0 u1 u2 x)
    (h : Fill t z0 z1 z2 O g wr xs k f) (hb : w4.heap[g]? = wr.heap[g]?) (hk : ∀ b, f 0 ≤ b → b < f k → w4.heap[b]? = wr.heap[b]?) (hsz : wr.heap.size ≤ w4.heap.size) : Fill t z0 z1 z2 O g w4 xs k f := by
  obtain ⟨cur, hcur, hdone, hz⟩ := h.row
  refine ⟨⟨cur, hb.trans hcur, fun j hj hx => ?_, hz⟩, h.mono, h.lo, Nat.le_trans h.hi hsz⟩
  obtain ⟨v0, v1, v2, c0, c1, c2, hO⟩ := hdone j hj hx
  have g1 := h.le (Nat.zero_le j) (by omega)
  have g2 := h.le (show j + 1 ≤ k by omega) (Nat.le_refl _)
  exact ⟨v0, v1, v2, c0, c1, c2, keep hO fun b h1 h2 => hk b (by omega) (by omega)⟩
/-- One more element. -/
theorem Fill.step (keep : ∀ {w w' : World} {lo hi : Nat} {u0 u1 u2 : Value} {x : α}, O w lo hi u0 u1 u2 x → (∀ g, lo ≤ g → g < hi → w'.heap[g]? = w.heap[g]?) → O w' lo hi u0 u1 u2 x)
    (omono : ∀ {w : World} {lo hi lo' hi' : Nat} {u0 u1 u2 : Value} {x : α}, O w lo hi u0 u1 u2 x → lo' ≤ lo → hi ≤ hi' → O w lo' hi' u0 u1 u2 x)
    (h : Fill t z0 z1 z2 O g wr xs k f) (hlt : k < xs.length) (hb : w4.heap[g]? = wr.heap[g]?) (hk : ∀ b, f 0 ≤ b → b < f k → w4.heap[b]? = wr.heap[b]?) (hsz : wr.heap.size ≤ w4.heap.size)
    {u0 u1 u2 : Value} (ha : O w4 wr.heap.size w4.heap.size u0 u1 u2 xs[k]) :
    Fill t z0 z1 z2 O g (((w4.setCell ⟨g, k * 3, none⟩ u0).setCell ⟨g, k * 3 + 1, none⟩ u1).setCell ⟨g, k * 3 + 2, none⟩ u2) xs (k + 1) (fun j => if j ≤ k then f j else w4.heap.size) := by
  have hh := h.hi
  have hlo := h.lo
  have hf : ∀ b, b ≠ g → (((w4.setCell ⟨g, k * 3, none⟩ u0).setCell ⟨g, k * 3 + 1, none⟩ u1).setCell ⟨g, k * 3 + 2, none⟩ u2).heap[b]? = w4.heap[b]? := fun b hne => by
    rw [Below.heap_setCell _ _ _ _ hne, Below.heap_setCell _ _ _ _ hne, Below.heap_setCell _ _ _ _ hne]
  obtain ⟨cur, hcur, hdone, hz⟩ := h.row
  have h4 : Blk w4 g t cur := hb.trans hcur
  have hlast : cur.size > k * 3 + 2 := by
    have := (hz k (Nat.le_refl _) hlt).2.2
    exact (Array.getElem?_eq_some_iff.1 this).1
  refine ⟨⟨_, ((h4.set_ (k * 3) u0).set_ (k * 3 + 1) u1).set_ (k * 3 + 2) u2, fun j hj hx => ?_, fun j hj hx => ?_⟩, fun j hj => ?_, by simp; omega, by rw [if_neg (by omega)]; simp⟩
  · by_cases e : j = k
    · subst e
      refine ⟨u0, u1, u2, ?_, ?_, ?_, ?_⟩
      · simp [Array.getElem?_setIfInBounds]; omega
      · simp [Array.getElem?_setIfInBounds]; omega
      · simp [Array.getElem?_setIfInBounds]; omega
      · rw [if_pos (Nat.le_refl _), if_neg (by omega)]
        exact omono (keep ha fun b h1 _ => hf b (by have := h.le (Nat.zero_le j) (Nat.le_refl _); omega)) hh (Nat.le_refl _)
    · obtain ⟨v0, v1, v2, c0, c1, c2, hO⟩ := hdone j (by omega) hx
      refine ⟨v0, v1, v2, ?_, ?_, ?_, ?_⟩
      · rw [← c0]; simp only [Array.getElem?_setIfInBounds, Array.size_setIfInBounds]; rw [if_neg (by omega), if_neg (by omega), if_neg (by omega)]
      · rw [← c1]; simp only [Array.getElem?_setIfInBounds, Array.size_setIfInBounds]; rw [if_neg (by omega), if_neg (by omega), if_neg (by omega)]
      · rw [← c2]; simp only [Array.getElem?_setIfInBounds, Array.size_setIfInBounds]; rw [if_neg (by omega), if_neg (by omega), if_neg (by omega)]
      · rw [if_pos (by omega), if_pos (by omega)]
        refine keep hO fun b h1 h2 => ?_
        have g1 := h.le (Nat.zero_le j) (by omega)
        have g2 := h.le (show j + 1 ≤ k by omega) (Nat.le_refl _)
        rw [hf b (by omega)]
        exact hk b (by omega) (by omega)
  · obtain ⟨c0, c1, c2⟩ := hz j (by omega) hx
    refine ⟨?_, ?_, ?_⟩
    · rw [← c0]; simp only [Array.getElem?_setIfInBounds, Array.size_setIfInBounds]; rw [if_neg (by omega), if_neg (by omega), if_neg (by omega)]
    · rw [← c1]; simp only [Array.getElem?_setIfInBounds, Array.size_setIfInBounds]; rw [if_neg (by omega), if_neg (by omega), if_neg (by omega)]
    · rw [← c2]; simp only [Array.getElem?_setIfInBounds, Array.size_setIfInBounds]; rw [if_neg (by omega), if_neg (by omega), if_neg (by omega)]
  · by_cases e : j = k
    · subst e
      rw [if_pos (Nat.le_refl _), if_neg (by omega)]
      omega
    · rw [if_pos (by omega), if_pos (by omega)]
      exact h.mono j (by omega)
end

/-- A filled row of literals reads so, and its leaves are once each. -/
theorem Fill.lits {z0 z1 z2 : Value} {g : Nat} {wr : World} {ls : List LLit} {f : Nat → Nat} {c lo hi : Nat} (h : Fill 81 z0 z1 z2 OLit g wr ls ls.length f) (hc : ls.length ≤ c) (hlo : lo ≤ g) (hhi : wr.heap.size ≤ hi) :
    OwnLits wr lo hi (.slice (some ⟨g, 0, none⟩) ls.length c) ls ∧ ∃ ps, LvLits wr lo hi (.slice (some ⟨g, 0, none⟩) ls.length c) ls ps ∧ ps.Nodup ∧ ∀ p ∈ ps, p.block = g ∨ (f 0 ≤ p.block ∧ p.block < wr.heap.size) := by
  obtain ⟨cur, hcur, hdone, _⟩ := h.row
  have hgl := hcur.lt
  have hfl : ∀ j, j < ls.length → f 0 ≤ f j ∧ f (j + 1) ≤ wr.heap.size := fun j hj => ⟨h.le (Nat.zero_le j) (by omega), Nat.le_trans (h.le (show j + 1 ≤ ls.length by omega) (Nat.le_refl _)) h.hi⟩
  have hlo0 := h.lo
  refine ⟨⟨_, c, rfl, hc, fun _ => ⟨g, 0, rfl, hlo, by omega, fun j hj => ?_⟩⟩, ?_⟩
  · obtain ⟨u0, u1, u2, c0, c1, c2, e0, e1, hI⟩ := hdone j hj hj
    have := hfl j hj
    exact ⟨⟨hcur.frozen _, hcur.frozen _⟩, u0, u1, u2, by simpa using (hcur.cell (j * 3)).trans c0, by simpa using (hcur.cell (j * 3 + 1)).trans c1, by simpa using (hcur.cell (j * 3 + 2)).trans c2, e0, e1, hI.mono (by omega) (by omega)⟩
  · rcases Nat.eq_zero_or_pos ls.length with hz | hp
    · refine ⟨[], ⟨_, c, rfl, hc, fun _ => rfl, fun hn => absurd hn (by omega)⟩, List.nodup_nil, fun p hp => by simp at hp⟩
    · have hex : ∀ j, ∃ q : List Addr, ∀ (hj : j < ls.length), ∃ u2, cur[j * 3 + 2]? = some u2 ∧ LvInts wr (f j) (f (j + 1)) u2 ls[j].2.2.length q := fun j => by
        by_cases hj : j < ls.length
        · obtain ⟨u0, u1, u2, c0, c1, c2, e0, e1, hI⟩ := hdone j hj hj
          obtain ⟨q, hq⟩ := hI.leaves
          exact ⟨q, fun _ => ⟨u2, c2, hq⟩⟩
        · exact ⟨[], fun hj' => absurd hj' hj⟩
      obtain ⟨qs, hqs⟩ := Classical.axiomOfChoice hex
      have hblk : ∀ j, j < ls.length → ∀ p ∈ qs j, f j ≤ p.block ∧ p.block < f (j + 1) := fun j hj p hp => by
        obtain ⟨u2, _, hL⟩ := hqs j hj
        exact hL.block hp
      refine ⟨preL (litEl g 0 qs) ls.length, ⟨_, c, rfl, hc, fun hz => absurd hp (by omega), fun _ => ⟨g, 0, qs, rfl, hlo, by omega, rfl, fun j hj => ?_⟩⟩, ?_, fun p hp => ?_⟩
      · obtain ⟨u0, u1, u2, c0, c1, c2, rfl, rfl, hI⟩ := hdone j hj hj
        obtain ⟨u2', c2', hL⟩ := hqs j hj
        have hu : u2 = u2' := Option.some.inj (c2.symm.trans c2')
        subst hu
        have := hfl j hj
        refine ⟨⟨hcur.frozen _, hcur.frozen _⟩, _, _, u2, by simpa using (hcur.cell (j * 3)).trans c0, by simpa using (hcur.cell (j * 3 + 1)).trans c1, by simpa using (hcur.cell (j * 3 + 2)).trans c2, hL.mono (by omega) (by omega)⟩
      · refine preL_nodup_of (fun j hj => ?_) (fun i j hij hj p hpi hpj => ?_)
        · obtain ⟨u2, _, hL⟩ := hqs j hj
          have hb := hblk j hj
          have := hfl j hj
          refine List.nodup_cons.2 ⟨fun hm => ?_, List.nodup_cons.2 ⟨fun hm => ?_, hL.nodup⟩⟩
          · rcases List.mem_cons.1 hm with e | hm
            · injection e with _ e _
              omega
            · have := hb _ hm
              simp at this
              omega
          · have := hb _ hm
            simp at this
            omega
        · have hi := hblk i (by omega)
          have hj' := hblk j hj
          have h1 := hfl i (by omega)
          have h2 := hfl j hj
          have h3 := h.le (show i + 1 ≤ j by omega) (by omega)
          have hcase : ∀ k, ∀ q ∈ litEl g 0 qs k, q = ⟨g, 0 + k * 3, none⟩ ∨ q = ⟨g, 0 + k * 3 + 1, none⟩ ∨ q ∈ qs k := fun k q hq => by
            simpa [litEl] using hq
          rcases hcase i p hpi with rfl | rfl | hpi <;> rcases hcase j _ hpj with e | e | hpj
          · injection e with _ e _; omega
          · injection e with _ e _; omega
          · have := hj' _ hpj; simp at this; omega
          · injection e with _ e _; omega
          · injection e with _ e _; omega
          · have := hj' _ hpj; simp at this; omega
          · have := hi _ hpi; rw [e] at this; simp at this; omega
          · have := hi _ hpi; rw [e] at this; simp at this; omega
          · have := hi _ hpi; have := hj' _ hpj; omega
      · obtain ⟨j, hj, hpj⟩ := mem_preL.1 hp
        have hb := hblk j hj
        have := hfl j hj
        simp only [litEl, List.mem_cons] at hpj
        rcases hpj with rfl | rfl | hpj
        · exact .inl rfl
        · exact .inl rfl
        · have := hb _ hpj
          exact .inr (by omega)

end Go.Proofs.Ytocpfmbieedpgaa
/-
  The program's renaming: the walks of ruleHasTerms and Renamed.
-/
namespace Go.Proofs.Ytocpfmbieedpgaa
open Go.RowKit

theorem Blk.last (w : World) (o : Obj) (t : TypeId) (cs : Array Value) : Blk ((w.alloc o).alloc (.cells cs t)).drew (w.heap.size + 1) t cs := by
  have := Blk.new (w.alloc o) t cs
  rw [World.size_alloc] at this
  exact this
theorem Only.al {lo hi : Nat} {w W : World} (h : Only lo hi w W) (o : Obj) : Only lo hi w (W.alloc o) := h.trans (Only.of_below (below1 _ _))
theorem Only.setNew {lo hi : Nat} {w W : World} (h : Only lo hi w W) {p : Addr} (hp : w.heap.size ≤ p.block) (u : Value) : Only lo hi w (W.setCell p u) :=
  ⟨h.os, h.tape, h.output, by simpa using h.size, fun k hk ho => (Below.heap_setCell _ _ _ _ (by omega)).trans (h.block k hk ho)⟩

section
variable {w2 W3 : World} {g m la : Nat} {p : Int} {s0 : Ren} {xs : List Int} {A : Option Addr} {c : Nat}
/-- The row of a new body, before it is filled. -/
abbrev litRow (m : Nat) : Obj := Obj.cells (madeCells #[Value.int IntKind.i64 0, Value.int IntKind.i64 0, Value.slice none 0 0] (m * 3)) 81
abbrev outRow (p : Int) (A : Option Addr) (n c gB m : Nat) : Obj := Obj.cells #[Value.int IntKind.i64 p, Value.slice A n c, Value.slice (some ⟨gB, 0, none⟩) m m] 28
theorem OwnInts.al {w : World} {lo hi : Nat} {v : Value} {ys : List Int} (h : OwnInts w lo hi v ys) (hh : hi ≤ w.heap.size) (o : Obj) : OwnInts (w.alloc o) lo hi v ys := h.below (below1 _ _) hh
theorem OwnInts.set3 {w : World} {lo hi gO : Nat} {v : Value} {ys : List Int} (h : OwnInts w lo hi v ys) (hp : gO < lo) (u0 u1 u2 : Value) : OwnInts (((w.setCell ⟨gO, 0, none⟩ u0).setCell ⟨gO, 1, none⟩ u1).setCell ⟨gO, 2, none⟩ u2) lo hi v ys :=
  ((h.set (p := ⟨gO, 0, none⟩) (.inl hp) _).set (p := ⟨gO, 1, none⟩) (.inl hp) _).set (p := ⟨gO, 2, none⟩) (.inl hp) _
theorem Only.set3 {w W : World} {lo hi gO : Nat} (h : Only lo hi w W) (hp : w.heap.size ≤ gO) (u0 u1 u2 : Value) : Only lo hi w (((W.setCell ⟨gO, 0, none⟩ u0).setCell ⟨gO, 1, none⟩ u1).setCell ⟨gO, 2, none⟩ u2) :=
  ((h.setNew (p := ⟨gO, 0, none⟩) hp _).setNew (p := ⟨gO, 1, none⟩) hp _).setNew (p := ⟨gO, 2, none⟩) hp _
theorem Blk.set3 {w : World} {gO : Nat} {t : TypeId} {v0 v1 v2 : Value} (h : Blk w gO t #[v0, v1, v2]) (u0 u1 u2 : Value) : Blk (((w.setCell ⟨gO, 0, none⟩ u0).setCell ⟨gO, 1, none⟩ u1).setCell ⟨gO, 2, none⟩ u2) gO t #[u0, u1, u2] := by
  simpa using ((h.set_ 0 u0).set_ 1 u1).set_ 2 u2
theorem Blk.far3 {w : World} {g gO : Nat} {t : TypeId} {cs : Array Value} (h : Blk w g t cs) (hp : g ≠ gO) (u0 u1 u2 : Value) : Blk (((w.setCell ⟨gO, 0, none⟩ u0).setCell ⟨gO, 1, none⟩ u1).setCell ⟨gO, 2, none⟩ u2) g t cs :=
  ((h.far (p := ⟨gO, 0, none⟩) hp _).far (p := ⟨gO, 1, none⟩) hp _).far (p := ⟨gO, 2, none⟩) hp _
theorem size_set3 (w : World) (gO : Nat) (u0 u1 u2 : Value) : (((w.setCell ⟨gO, 0, none⟩ u0).setCell ⟨gO, 1, none⟩ u1).setCell ⟨gO, 2, none⟩ u2).heap.size = w.heap.size := by simp
/-- The new rule before it is filled. -/
abbrev ruleRow : Obj := Obj.cells #[Value.int IntKind.i64 0, Value.slice none 0 0, Value.slice none 0 0] 28
end

theorem But2.then_ {w wc wr : World} {g r : Nat} (hb : Below w.heap.size w wc) (h : But2 g r wc wr) (h1 : w.heap.size ≤ g) (h2 : w.heap.size ≤ r) : Below w.heap.size w wr :=
  hb.trans ⟨h.os, h.tape, h.output, h.size, fun k hk => h.block k (Nat.lt_of_lt_of_le hk hb.size) (by omega) (by omega)⟩
theorem But2.trans {w wc wr : World} {g r : Nat} (h : But2 g r w wc) (k : But2 g r wc wr) : But2 g r w wr :=
  ⟨k.os.trans h.os, k.tape.trans h.tape, k.output.trans h.output, Nat.le_trans h.size k.size, fun b hb h1 h2 => (k.block b (Nat.lt_of_lt_of_le hb h.size) h1 h2).trans (h.block b hb h1 h2)⟩
theorem But2.of_below {w w' : World} {g r : Nat} (h : Below w.heap.size w w') : But2 g r w w' := ⟨h.os, h.tape, h.output, h.size, fun k hk _ _ => h.block k hk⟩
theorem But2.set3 {g r a b c : Nat} {w w1 : World} (h : But2 g r w w1) (u0 u1 u2 : Value) : But2 g r w (((w1.setCell ⟨r, a, none⟩ u0).setCell ⟨r, b, none⟩ u1).setCell ⟨r, c, none⟩ u2) := ((h.set u0).set u1).set u2
theorem renBody_count : ∀ (ls : List LLit) (s : Ren), (renBody s ls).2 ≤ s.2 + totL ls
  | [], s => by simp [renBody]
  | l :: ls, s => by
    have h1 := renBody_count ls (renList s l.2.2)
    have h2 := renList_count l.2.2 s
    show (renBody (renList s l.2.2) ls).2 ≤ _
    simp only [totL, List.map_cons, List.sum_cons] at h1 ⊢
    omega
theorem totL_take_le (ls : List LLit) (k : Nat) : totL (ls.take k) ≤ totL ls := by
  have := congrArg (fun l => (l.map fun l : LLit => l.2.2.length).sum) (List.take_append_drop k ls)
  simp only [List.map_append, List.sum_append] at this
  unfold totL
  omega
theorem renLits_at {s : Ren} {ls xs : List LLit} (hxs : xs = renLits s ls) {k : Nat} (h : k < ls.length) (h' : k < xs.length) : xs[k] = (ls[k].1, ls[k].2.1, renOut (renBody s (ls.take k)) ls[k].2.2) := by
  subst hxs
  have e1 : ls.getD k (0, (0, [])) = ls[k] := by simp [h]
  simp [renLits, h]

theorem LvLits.length {w : World} {lo hi : Nat} {v : Value} {ls : List LLit} {ps : List Addr} (h : LvLits w lo hi v ls ps) : ps.length = 2 * ls.length + totL ls := by
  obtain ⟨A, c, rfl, hc, h0, h⟩ := h
  rcases Nat.eq_zero_or_pos ls.length with hz | hp
  · rw [h0 hz, List.eq_nil_of_length_eq_zero hz]
    simp [totL]
  · obtain ⟨b, o, qs, rfl, h1, h2, rfl, hx⟩ := h hp
    have : ∀ j, j ≤ ls.length → (preL (litEl b o qs) j).length = 2 * j + totL (ls.take j) := by
      intro j
      induction j with
      | zero => intro _; simp [preL_zero, totL]
      | succ j ih =>
        intro hj
        obtain ⟨_, x, y, u2, _, _, _, hI⟩ := hx j (by omega)
        rw [preL_succ, List.length_append, ih (by omega), litEl_len hI, totL_take ls j (by omega)]
        omega
    have := this ls.length (Nat.le_refl _)
    rwa [List.take_length] at this
theorem LvRule.length {w : World} {lo hi : Nat} {v : Value} {r : LRule} {ps : List Addr} (h : LvRule w lo hi v r ps) : ps.length ≤ 2 * szR r := by
  obtain ⟨p, a, b, qs, rs, rfl, rfl, ⟨_, _, _, _, hl, _⟩, h2⟩ := h
  rw [List.length_append, hl, h2.length]
  unfold szR
  omega

end Go.Proofs.Ytocpfmbieedpgaa
/-
  A row of literals that grows: the words; the specification's renaming: the walk of l2Rule.
-/
namespace Go.Proofs.Ytocpfmbieedpgaa
open Go.RowKit

/-- The cells of literals, a literal's three behind each other. -/
def flatL : List LLit → List Value → List Value
  | l :: ls, u :: us => .int .i64 l.1 :: .int .i64 l.2.1 :: u :: flatL ls us
  | _, _ => []
theorem flatL_length : ∀ (ls : List LLit) (us : List Value), us.length = ls.length → (flatL ls us).length = ls.length * 3
  | [], _, _ => by simp [flatL]
  | l :: ls, [], h => by simp at h
  | l :: ls, u :: us, h => by
    have := flatL_length ls us (by simpa using h)
    simp only [flatL, List.length_cons, this]
    omega
theorem flatL_at : ∀ (ls : List LLit) (us : List Value) (_ : us.length = ls.length) (k : Nat) (hk : k < ls.length) (hk' : k < us.length),
    (flatL ls us)[k * 3]? = some (.int .i64 ls[k].1) ∧ (flatL ls us)[k * 3 + 1]? = some (.int .i64 ls[k].2.1) ∧ (flatL ls us)[k * 3 + 2]? = some us[k]
  | [], _, _, k, hk, _ => absurd hk (by simp)
  | l :: ls, [], h, _, _, _ => by simp at h
  | l :: ls, u :: us, h, 0, _, _ => by simp [flatL]
  | l :: ls, u :: us, h, k + 1, hk, hk' => by
    have := flatL_at ls us (by simpa using h) k (by simpa using hk) (by simpa using hk')
    simpa [flatL, Nat.add_mul] using this
theorem flatL_snoc : ∀ (ls : List LLit) (us : List Value) (_ : us.length = ls.length) (l : LLit) (u : Value), flatL (ls ++ [l]) (us ++ [u]) = flatL ls us ++ [.int .i64 l.1, .int .i64 l.2.1, u]
  | [], [], _, l, u => by simp [flatL]
  | [], u' :: us, h, _, _ => by simp at h
  | l :: ls, [], h, _, _ => by simp at h
  | l :: ls, u :: us, h, m, b => by simp [flatL, flatL_snoc ls us (by simpa using h) m b]

/-- A row of literals of the call's own that grows, with its rows of integers us, in blocks from base on. -/
structure ColL (base : Nat) (wr : World) (ls : List LLit) (A : Option Addr) (c : Nat) (us : List Value) : Prop where
  len : us.length = ls.length
  own : ∀ i (h : i < ls.length) (h' : i < us.length), OwnInts wr base wr.heap.size us[i] ls[i].2.2
  row : wr.ownsRow base 81 3 (.slice A ls.length c) ls.length (flatL ls us)
section
variable {base : Nat} {wr w2 w4 : World} {ls : List LLit} {A : Option Addr} {c : Nat} {us : List Value}
theorem ColL.nil (base : Nat) (w : World) : ColL base w [] none 0 [] := ⟨rfl, fun i h => absurd h (by simp), by simpa [flatL] using World.ownsRow_nil w base 81 3⟩
theorem ColL.below (h : ColL base wr ls A c us) (hb : Below wr.heap.size wr w2) : ColL base w2 ls A c us :=
  ⟨h.len, fun i h1 h2 => ((h.own i h1 h2).below hb (Nat.le_refl _)).mono (Nat.le_refl _) hb.size, ownsRow_only h.row fun g hg => hb.block g (h.row.lt g hg).2⟩
theorem int_ne_lit {n : Nat} {v a : Value} {zs : List Value} {xs : List Int} {lo hi g : Nat} (hr : wr.ownsRow base 81 3 v n zs) (hv : v.ownBlock = some g) (ha : OwnInts wr lo hi a xs) : a.ownBlock ≠ some g := by
  rcases hr.2 with ⟨rfl, _⟩ | ⟨g1, c1, cur1, rfl, _, h1, _⟩
  · cases hv
  · have e : g1 = g := by simpa [Value.ownBlock] using hv
    subst e
    rcases ha.1.2 with ⟨rfl, _⟩ | ⟨g2, c2, cur2, rfl, _, h2, _⟩
    · simp [Value.ownBlock]
    · intro e
      have e : g2 = g1 := by simpa [Value.ownBlock] using e
      subst e
      rw [h1] at h2
      injection h2 with h2
      injection h2 with _ h2
      exact absurd h2 (by decide)
/-- One more literal. -/
theorem ColL.push {l : LLit} {u : Value} {g cap : Nat} {o : Obj} (h : ColL base wr ls A c us) (hb : Below wr.heap.size wr w2) (hu : OwnInts w2 base w2.heap.size u l.2.2)
    (hg : (w2.alloc o).grownBy w4 (Value.slice A ls.length c).ownBlock) (hown : w4.ownsRow base 81 3 (.slice (some ⟨g, 0, none⟩) (ls.length + 1) cap) (ls.length + 1) (flatL ls us ++ [.int .i64 l.1, .int .i64 l.2.1, u])) :
    ColL base w4 (ls ++ [l]) (some ⟨g, 0, none⟩) cap (us ++ [u]) := by
  have h2 := h.below hb
  have hg2 := grown_from_alloc hg
  have hl : (ls ++ [l]).length = ls.length + 1 := by simp
  have keep : ∀ {v : Value} {xs : List Int}, OwnInts w2 base w2.heap.size v xs → OwnInts w4 base w4.heap.size v xs := fun {v xs} hv =>
    (hv.kept (fun b hb' => hg2.block b (hv.lt hb').2.2 (fun e => int_ne_lit h2.row e.symm hv hb'))).mono (Nat.le_refl _) hg2.size
  refine ⟨by simp [h.len], fun i h1 h3 => ?_, ?_⟩
  · by_cases e : i < ls.length
    · have e' : i < us.length := by rw [h.len]; exact e
      rw [List.getElem_append_left e', List.getElem_append_left e]
      exact keep (h2.own i e e')
    · have e2 : i = ls.length := by simp at h1; omega
      subst e2
      simp [← h.len]
      simpa using keep hu
  · rw [hl, flatL_snoc ls us h.len]
    exact hown
theorem ColL.lits (h : ColL base wr ls A c us) (hn : ls.length ≤ c) : OwnLits wr base wr.heap.size (.slice A ls.length c) ls := by
  have hcells := @World.ownsRow.cells wr base 81 3 (.slice A ls.length c) ls.length (flatL ls us) h.row
  have hlt := h.row.lt
  have hl := h.len
  refine ⟨A, c, rfl, hn, fun hpos => ?_⟩
  rcases h.row.2 with ⟨e, h0⟩ | ⟨g, cap, cur, e, hb, hgg, _⟩
  · omega
  · injection e with e1 _ e3
    subst e1
    refine ⟨g, 0, rfl, hb, (hlt g rfl).2, fun k hk => ⟨⟨by simp [World.frozen?, hgg], by simp [World.frozen?, hgg]⟩, ?_⟩⟩
    obtain ⟨c0, c1, c2⟩ := flatL_at ls us hl k hk (by omega)
    have d0 := hcells (g := g) rfl _ _ c0
    have d1 := hcells (g := g) rfl _ _ c1
    have d2 := hcells (g := g) rfl _ _ c2
    rw [Go.WideShapes.add_plain] at d0 d1 d2
    exact ⟨_, _, _, d0, d1, d2, rfl, rfl, h.own k hk (by omega)⟩
theorem ColL.set {p : Addr} (h : ColL base wr ls A c us) (hp : p.block < base) (u : Value) : ColL base (wr.setCell p u) ls A c us :=
  ⟨h.len, fun i h1 h2 => ((h.own i h1 h2).set (.inl hp) u).mono (Nat.le_refl _) (by simp), ownsRow_only h.row fun g hg => Below.heap_setCell _ _ _ _ (by have := (h.row.lt g hg).1; omega)⟩
theorem ColL.cap (h : ColL base wr ls A c us) : ls.length ≤ c := by
  rcases h.row.2 with ⟨e, h0⟩ | ⟨g, cap, cur, e, hb, hgg, hn, _⟩
  · injection e with _ _ e
    omega
  · injection e with _ _ e
    omega
end

end Go.Proofs.Ytocpfmbieedpgaa
