/-
  Texts that the claim's last one imports, laid together: part 11 of 13. No condition of its own.
-/
import Derived.Deep.RegionHeld3
import Derived.Deep.RegionWith
import Derived.Deep.RegionLaw
import Derived.Laws.BitsAllLaws
import Derived.Deep.DeepCutAuto
import Derived.Laws.CopyOwn
import Derived.Deep.WholeRow
import Derived.Test.YtofkcmihcgmmpaaGreatMFr1
import Derived.Test.YtofkcmihcgmmpaaGreatMFr2
import Derived.Test.YtofkcmihcgmmpaaGreatMFr3
import Derived.Test.YtofkcmihcgmmpaaGreatMFr5
import Derived.Test.YtofkcmihcgmmpaaGreatMFr6
import Derived.Test.YtofkcmihcgmmpaaGreatMFr7
import Derived.Test.YtofkcmihcgmmpaaGreatMFr10
/-
  The specification's Consequences and Closed.
-/
namespace Go.Proofs.YtofkcmihcgmmpaaGreat
open Go.RowKit

/-- The heads that follow. -/
def consL (p : LProg) (fs : List LFact) : List LFact := if progOk p && factsOk p.1 fs then headsAll p.2 fs else []
def closedL (p : LProg) (fs : List LFact) : Bool := progOk p && (factsOk p.1 fs && decide ((pickL (headsAll p.2 fs) fs false).length = 0))

theorem factsOk_parts {ar : List Int} {fs : List LFact} (h : factsOk ar fs = true) : arityOk ar = true ∧ (∀ f ∈ fs, factFits ar f = true) ∧ Asc fs := by
  simp only [factsOk, Bool.and_eq_true, List.all_eq_true, List.mem_range] at h
  obtain ⟨h1, h2⟩ := h
  refine ⟨h1, fun f hf => ?_, ?_⟩
  · obtain ⟨k, hk, rfl⟩ := List.getElem_of_mem hf
    have := h2 k hk
    unfold roundOk at this
    rw [getD_at hk, Bool.and_eq_true] at this
    exact this.1
  · have hs : ∀ k (h0 : k + 1 < fs.length), factOrder (fs[k]'(by omega)) fs[k + 1] < 0 := fun k h0 => by
      have := h2 (k + 1) h0
      unfold roundOk at this
      rw [getD_at h0, Nat.add_sub_cancel, getD_at (show k < fs.length by omega), Bool.and_eq_true] at this
      simpa using this.2
    have hd : ∀ d k (h0 : k + d + 1 < fs.length), factOrder (fs[k]'(by omega)) fs[k + d + 1] < 0 := fun d => by
      induction d with
      | zero => intro k h0; exact hs k h0
      | succ d ih =>
        intro k h0
        exact order_less (ih k (by omega)) (hs (k + d + 1) h0)
    unfold Asc
    rw [List.pairwise_iff_getElem]
    intro i j hi hj hij
    obtain ⟨d, rfl⟩ : ∃ d, j = i + d + 1 := ⟨j - i - 1, by omega⟩
    exact hd d i hj
theorem prog_parts {p : LProg} (h : progOk p = true) : arityOk p.1 = true ∧ p.2.length ≤ 60 ∧ ∀ r ∈ p.2, ruleFits p.1 r = true := by
  simp only [progOk, Bool.and_eq_true, decide_eq_true_eq, List.all_eq_true] at h
  exact ⟨h.1, h.2.1, h.2.2⟩

end Go.Proofs.YtofkcmihcgmmpaaGreat
/-
  The heads of a rule by its solutions: plain mathematics.
-/
namespace Go.Proofs.YtofkcmihcgmmpaaGreat
open Go.RowKit

theorem safeTo_or {a b y : Nat} (h : safeTo (a ||| b) y 4 = true) : safeTo b y 4 = true := by
  rw [safeTo_iff] at h ⊢
  intro v hv hb
  exact h v hv (by rw [Nat.testBit_or, hb, Bool.or_true])
/-- A rule that fits has a body that can be asked. -/
theorem fits_body {ar : List Int} {r : LRule} (h : ruleFits ar r = true) : bodySafe r.2 = true := by
  simp only [ruleFits, Bool.and_eq_true, decide_eq_true_eq] at h
  obtain ⟨_, h4, hl, hs⟩ := h
  unfold bodySafe
  rw [Bool.and_eq_true, Bool.and_eq_true, decide_eq_true_eq, List.all_eq_true]
  refine ⟨⟨fun l hm => ?_, h4⟩, ?_⟩
  · have hf := List.all_eq_true.1 hl l hm
    refine litFine_yes ?_ (lit_terms hf)
    unfold litFits at hf
    split at hf
    · omega
    · split at hf
      · omega
      · cases hf
  · rw [ruleSafe_eq] at hs ⊢
    rw [ruleMask_body]
    exact safeTo_or hs
/-- The variables of the head stand in an atom that is to hold. -/
theorem fits_head {ar : List Int} {r : LRule} (h : ruleFits ar r = true) : ∀ v, v < 4 → (maskOf r.1.2).testBit v = true → ∃ l ∈ r.2, l.1 = 0 ∧ (maskOf l.2.2).testBit v = true := by
  simp only [ruleFits, Bool.and_eq_true, decide_eq_true_eq] at h
  obtain ⟨_, _, _, hs⟩ := h
  rw [ruleSafe_eq, safeTo_iff] at hs
  intro v hv hm
  have := hs v hv (by unfold ruleMask; rw [Nat.testBit_or, hm, Bool.true_or])
  unfold yesMask at this
  rw [yesMask_bit] at this
  simpa using this
/-- A solution makes a head. -/
theorem sols_head {ar : List Int} {r : LRule} {fs : List LFact} {S : List (List Int)} (h : ruleFits ar r = true) (hS : IsSols (questL fs r.2) S) : ∀ b ∈ S, headOk r.1 b = true := by
  intro b hb
  obtain ⟨h1, h2, _⟩ := (hS.2 b).1 hb
  have hf := h
  simp only [ruleFits, atomFits, Bool.and_eq_true, decide_eq_true_eq] at hf
  refine headOk_yes h1 hf.1.2 (List.all_eq_true.2 fun x hx => ?_)
  obtain ⟨t, ht, rfl⟩ := List.mem_map.1 hx
  have htk : termOk t = true := List.all_eq_true.1 hf.1.2 t ht
  have hbd := termVal_bounds h1 htk
  rcases term_cases htk with h' | ⟨v, hv, rfl⟩
  · rw [termVal_const h'.1]
    simp [constOk]
    exact h'
  · have hm : (maskOf r.1.2).testBit v = true := by unfold maskOf; rw [maskFrom_bit hv]; exact .inr ht
    obtain ⟨l, hl, _, hlm⟩ := fits_head h v hv hm
    have hne := (h2 v hv).2 ⟨(l, fs), List.mem_map.2 ⟨l, hl, rfl⟩, hlm⟩
    rw [termVal_v] at hbd ⊢
    unfold constOk
    exact decide_eq_true (by omega)
theorem headsTo_mem (a : LFact) (S : List (List Int)) (f : LFact) : ∀ k, k ≤ S.length → (f ∈ headsTo a S k ↔ ∃ b ∈ S.take k, headOk a b = true ∧ f = headOf a b)
  | 0, _ => by simp [headsTo]
  | k + 1, hk => by
    have ih := headsTo_mem a S f k (by omega)
    have hlt : k < S.length := by omega
    rw [take_snoc S k hlt]
    cases e : headOk a S[k]
    · rw [headsTo_no hlt e, ih]
      constructor
      · rintro ⟨b, hb, h⟩; exact ⟨b, List.mem_append_left _ hb, h⟩
      · rintro ⟨b, hb, h⟩
        rcases List.mem_append.1 hb with hb | hb
        · exact ⟨b, hb, h⟩
        · obtain rfl : b = S[k] := by simpa using hb
          rw [e] at h; cases h.1
    · rw [headsTo_yes hlt e, factsWith_mem, ih]
      constructor
      · rintro (⟨b, hb, h⟩ | rfl)
        · exact ⟨b, List.mem_append_left _ hb, h⟩
        · exact ⟨S[k], List.mem_append_right _ (List.mem_singleton_self _), e, rfl⟩
      · rintro ⟨b, hb, h⟩
        rcases List.mem_append.1 hb with hb | hb
        · exact .inl ⟨b, hb, h⟩
        · obtain rfl : b = S[k] := by simpa using hb
          exact .inr h.2
/-- The heads, by whatever list of the solutions. -/
theorem headsL_mem {ar : List Int} {r : LRule} {fs : List LFact} {S : List (List Int)} (h : ruleFits ar r = true) (hS : IsSols (questL fs r.2) S) (hc : ∀ f ∈ fs, f.2.all constOk = true) (hn : fs.Nodup) (f : LFact) :
    f ∈ headsL r fs ↔ ∃ b ∈ S, f = (r.1.1, r.1.2.map (termVal b)) := by
  obtain ⟨_, h2⟩ := solsOf_is (fs := fs) (gs := fs) (SafeB.of (fits_body h)) hc hn (fun _ => Iff.rfl)
  unfold headsL
  rw [headsTo_mem _ _ _ _ (Nat.le_refl _), List.take_length]
  constructor
  · rintro ⟨b, hb, e, rfl⟩
    exact ⟨b, (hS.2 b).2 ((h2.2 b).1 hb), headOf_yes e⟩
  · rintro ⟨b, hb, rfl⟩
    have e := sols_head h hS b hb
    exact ⟨b, (h2.2 b).2 ((hS.2 b).1 hb), e, (headOf_yes e).symm⟩

end Go.Proofs.YtofkcmihcgmmpaaGreat
/-
  Tables of facts: a word for each predicate.
-/
namespace Go.Proofs.YtofkcmihcgmmpaaGreat
open Go.RowKit

/-- The words of a table, with one fact more. -/
def setBit (T : List Nat) (p n : Nat) : List Nat := T.set p (T.getD p 0 ||| 2 ^ n)
def tabCells (T : List Nat) : Array Value := (T.map fun x => Value.int .u64 ((x : Nat) : Int)).toArray
theorem bit_one_t (x n : Nat) (hx : x < 18446744073709551616) : (bits .and .u64 ((x : Int) / 2 ^ n) 1 == 1) = x.testBit n := by
  have e : ((x : Int) / 2 ^ n) = ((x / 2 ^ n : Nat) : Int) := by simp
  have h1 : x / 2 ^ n < 18446744073709551616 := Nat.lt_of_le_of_lt (Nat.div_le_self _ _) hx
  rw [e, show (1 : Int) = ((1 : Nat) : Int) from rfl, u64_and_nat _ 1 h1 (by decide), Nat.and_one_is_mod]
  have h2 : x.testBit n = decide (x / 2 ^ n % 2 = 1) := by
    rw [Nat.testBit, Nat.shiftRight_eq_div_pow, Nat.one_and_eq_mod_two]
    have := Nat.mod_two_eq_zero_or_one (x / 2 ^ n)
    rcases this with h | h <;> simp [h]
  rw [h2, Bool.eq_iff_iff, beq_iff_eq, decide_eq_true_eq]
  omega

end Go.Proofs.YtofkcmihcgmmpaaGreat
/-
  A table of facts is filled: constantsNumber, addAll.
-/
namespace Go.Proofs.YtofkcmihcgmmpaaGreat
open Go.RowKit

/-- The number of which constants are the digits. -/
def numF (xs : List Int) : Nat := xs.foldl (fun n c => n * 6 + c.toNat) 0
theorem numF_take {xs : List Int} {k : Nat} (h : k < xs.length) : numF (xs.take (k + 1)) = numF (xs.take k) * 6 + xs[k].toNat := by
  unfold numF
  rw [take_snoc xs k h, List.foldl_append]
  rfl
theorem numF_lt {xs : List Int} (hc : xs.all constOk = true) : ∀ k, k ≤ xs.length → numF (xs.take k) < 6 ^ k
  | 0, _ => by simp [numF]
  | k + 1, hk => by
    have ih := numF_lt hc k (by omega)
    rw [numF_take (by omega), Nat.pow_succ]
    have : 0 ≤ xs[k] ∧ xs[k] ≤ 5 := by simpa [constOk] using List.all_eq_true.1 hc _ (List.getElem_mem (show k < xs.length by omega))
    omega

/-- The facts of a table's predicates. -/
def TabFact (f : LFact) : Prop := 0 ≤ f.1 ∧ f.1 < 24 ∧ f.2.all constOk = true ∧ f.2.length ≤ 2
def tabWith (T : List Nat) (fs : List LFact) : List Nat := fs.foldl (fun T f => setBit T f.1.toNat (numF f.2)) T
theorem tabWith_take {T : List Nat} {fs : List LFact} {k : Nat} (h : k < fs.length) : tabWith T (fs.take (k + 1)) = setBit (tabWith T (fs.take k)) fs[k].1.toNat (numF fs[k].2) := by
  unfold tabWith
  rw [take_snoc fs k h, List.foldl_append]
  rfl
theorem numF_64 {xs : List Int} (hc : xs.all constOk = true) (hl : xs.length ≤ 2) : numF xs < 64 := by
  have := numF_lt hc xs.length (Nat.le_refl _)
  rw [List.take_length] at this
  have h2 : (6 : Nat) ^ xs.length ≤ 6 ^ 2 := Nat.pow_le_pow_right (by decide) hl
  omega

end Go.Proofs.YtofkcmihcgmmpaaGreat
/-
  The walk of Solutions.
-/
namespace Go.Proofs.YtofkcmihcgmmpaaGreat
open Go.RowKit

/-- A row of slices that make laid and a loop fills: k of them stand. -/
structure FillS (g n : Nat) (wr : World) (xss : List (List Int)) (av : List Value) : Prop where
  args : OwnArgs wr (g + 1) wr.heap.size av xss
  row : ∃ cur, wr.heap[g]? = some (.cells cur 33 (0, 0)) ∧ cur.size = n ∧ cur.toList.take xss.length = av
theorem FillS.start (w : World) (cs : Array Value) (n : Nat) (h : cs.size = n) : FillS w.heap.size n (w.alloc (.cells cs 33)) [] [] :=
  ⟨OwnArgs.nil, cs, heap_alloc_new w _, h, by simp⟩
theorem FillS.lt {g n : Nat} {wr : World} {xss : List (List Int)} {av : List Value} (h : FillS g n wr xss av) : g < wr.heap.size := by
  obtain ⟨_, cur, hg, _⟩ := h
  exact Blk.lt hg
theorem FillS.on {g n : Nat} {wr w4 : World} {xss : List (List Int)} {av : List Value} (h : FillS g n wr xss av) (hb : Below wr.heap.size wr w4) : FillS g n w4 xss av := by
  have hlt := h.lt
  obtain ⟨ha, cur, hg, h1, h2⟩ := h
  exact ⟨(ha.below hb (Nat.le_refl _)).mono (Nat.le_refl _) hb.size, cur, (hb.block g hlt).trans hg, h1, h2⟩
theorem FillS.free {g n : Nat} {wr : World} {xss : List (List Int)} {av : List Value} (h : FillS g n wr xss av) {k : Nat} (hk : k < n) : (∃ x, wr.cell? ⟨g, k, none⟩ = some x) ∧ wr.frozen? ⟨g, k, none⟩ = false := by
  obtain ⟨_, cur, hg, h1, _⟩ := h
  exact ⟨⟨cur[k]'(by omega), by rw [Blk.cell hg, Array.getElem?_eq_getElem]⟩, Blk.frozen hg k⟩
theorem FillS.step {g n k : Nat} {wr w4 : World} {xss : List (List Int)} {xs : List Int} {av : List Value} {u : Value} (h : FillS g n wr xss av) (hk : xss.length = k) (hkn : k < n) (hb : Below wr.heap.size wr w4) (hu : OwnInts w4 wr.heap.size w4.heap.size u xs) :
    FillS g n (w4.setCell ⟨g, k, none⟩ u) (xss ++ [xs]) (av ++ [u]) := by
  have hlt := h.lt
  have hl := h.args.len
  have h4 := (h.args.below hb (Nat.le_refl _)).snoc hu (by omega) hb.size
  obtain ⟨_, cur, hg, h1, h2⟩ := h
  have hg4 : Blk w4 g 33 cur := (hb.block g hlt).trans hg
  refine ⟨by simpa using h4.set (p := ⟨g, k, none⟩) (.inl (Nat.lt_succ_self g)) u, _, hg4.set_ k u, by simpa using h1, ?_⟩
  have hlen : (xss ++ [xs]).length = k + 1 := by simp [hk]
  rw [hlen, Array.toList_setIfInBounds]
  rw [hk] at h2
  apply List.ext_getElem?
  intro j
  by_cases hj : j < k
  · rw [List.getElem?_take_of_lt (by omega), List.getElem?_set_ne (by omega), List.getElem?_append_left (by omega), ← h2, List.getElem?_take_of_lt hj]
  · by_cases hj2 : j = k
    · subst hj2
      rw [List.getElem?_take_of_lt (by omega), List.getElem?_set_self (by simp; omega), List.getElem?_append_right (by omega)]
      simp [hl, hk]
    · rw [List.getElem?_eq_none (by simp; omega), List.getElem?_eq_none (by simp; omega)]
theorem FillS.done {g n : Nat} {wr : World} {xss : List (List Int)} {av : List Value} (h : FillS g n wr xss av) (hn : xss.length = n) (hm : n ≤ maxLen) : OwnRows wr g wr.heap.size (.slice (some ⟨g, 0, none⟩) xss.length n) xss := by
  have hlt := h.lt
  have hl := h.args.len
  obtain ⟨ha, cur, hg, h1, h2⟩ := h
  exact ⟨av, ha.mono (by omega) (Nat.le_refl _), ⟨by omega, .inr ⟨g, n, cur, rfl, Nat.le_refl _, hg, by omega, hm, by omega, by rw [Nat.mul_one]; exact h2⟩⟩, fun g' hg' => by simp [Value.ownBlock] at hg'; omega⟩

theorem OwnRows.nil (w : World) (lo hi : Nat) : OwnRows w lo hi (.slice none 0 0) [] := ⟨[], OwnArgs.nil, World.ownsRow_nil _ _ _ _, fun g hg => by cases hg⟩

set_option maxHeartbeats 4000000 in
set_option maxRecDepth 100000 in
theorem solutionsIn_any (v v2 : Value) (fs : List LFact) (ls : List LLit) (hsf : bodySafe ls = true) (hcf : constsL fs = true) (w : World) (h : RdFacts w w.heap.size v fs) (h2 : RdLits w w.heap.size v2 ls) (hn : fs.length ≤ 1048576) (ht : tot fs ≤ 1048576) (hl : ls.length + totL ls ≤ 1048576) :
    Calls Tryz.prog 31 #[v, v2] w fun e w' => ∃ (A : Option Addr) (c lo hi : Nat) (S : List (List Int)), e = .returned (.slice A S.length c) ∧ S = solsL fs ls ∧ w.heap.size ≤ lo ∧ hi ≤ w'.heap.size ∧ OwnW w' lo hi (.slice A S.length c) S ∧ (∀ b ∈ S, bindOk b = true) ∧ S.length ≤ 65536 ∧ Below w.heap.size w w' := by
  have H := Lib.hid h
  have H2 := Lib.hid h2
  obtain ⟨A, c, rfl, hc, _⟩ := h
  obtain ⟨A2, c2, rfl, hc2, _⟩ := h2
  have HSF := Lib.hid hsf
  have HCF := Lib.hid hcf
  have hS := SafeB.of HSF.out
  have hC := consts_of HCF.out
  have CQ := Lib.hid (questionsOf_any (.slice A fs.length c) (.slice A2 ls.length c2) fs ls w H.out H2.out (by omega))
  have HQL := Lib.hid (show (questL fs ls).length = ls.length by simp [questL])
  have HQK := Lib.hid (hS.qok hC hn ht (by omega))
  have HSQ := Lib.hid (hS.quests fs)
  clear hS hC hsf hcf
  go_enter Tryz.func31, Tryz.ntmps31
  go_wp2_with (first
    | (go_at_call 54; refine CQ.out.mono ?_; rintro e w3 ⟨g, us, rfl, hg, at3, rd3, hb3⟩
       have HB3 := Lib.hid hb3
       have CS := solve_any g ls.length w.heap.size us (questL fs ls) w3 at3 rd3 hg (by rw [HQL.out]; omega) HQK.out HSQ.out
       rw [HQL.out] at CS
       have HCS := Lib.hid CS
       have HG := Lib.hid hg
       clear CS hg at3 rd3 hb3)
    | (go_at_call 41; refine HCS.out.mono ?_; rintro e w4 ⟨A4, c4, S, rfl, own4, on4, is4⟩
       have HSO := Lib.hid (sortW_any w3.heap.size w4.heap.size (.slice A4 S.length c4) S w4 own4 (Nat.le_trans (binds_len is4.1 is4.ok) (by decide)))
       have H4 := Lib.hid (And.intro on4 is4)
       clear own4 on4 is4)
    | (go_at_call 21; refine HSO.out.mono ?_; rintro e w5 ⟨rfl, S', hp, hup, own5, only5⟩
       have H5 := Lib.hid (And.intro hp (And.intro hup (And.intro own5 only5)))
       clear hp hup own5 only5))
  go_ret
  obtain ⟨on4, is4⟩ := H4.out
  obtain ⟨hp, hup, own5, only5⟩ := H5.out
  obtain ⟨hub, is5⟩ := is4.up hp hup
  have hRS : S' = solsL fs ls := solsL_is HSF.out HCF.out hub is5
  have hlenS : S.length = S'.length := hp.length_eq.symm
  have hz3 := HB3.out.size
  have hzg := HG.out
  have hz4 := on4.size
  have hz5 := only5.size
  have B5 : Below w.heap.size w w5 := Only.then_ (Only.then_ HB3.out on4 (by omega)) only5 (by omega)
  rw [hlenS] at own5 ⊢
  exact ⟨A4, c4, w3.heap.size, w4.heap.size, S', rfl, hRS, hz3, hz5, own5, is5.ok, binds_len is5.1 is5.ok, B5⟩

set_option maxHeartbeats 4000000 in
set_option maxRecDepth 100000 in
theorem numberLists_any (hi : Nat) (A4 : Option Addr) (c4 : Nat) (S' : List (List Int)) (w5 : World) (hrd0 : RdW w5 hi (.slice A4 S'.length c4) S') (hz45 : hi ≤ w5.heap.size) (hok : ∀ b ∈ S', bindOk b = true) (hSn : S'.length ≤ 65536) :
    Calls Tryz.prog 22 #[.slice A4 S'.length c4] w5 fun e w' => ∃ A c, e = .returned (.slice A S'.length c) ∧ OwnRows w' w5.heap.size w'.heap.size (.slice A S'.length c) S' ∧ Below w5.heap.size w5 w' := by
  have HRD := Lib.hid hrd0
  have HOK := Lib.hid hok
  clear hrd0 hok
  obtain ⟨i0, hi0, hz0, hz1, hzb⟩ := info_parts Tryz.infoIntS
  have hmk := fun W => run_make_rowN (P := Tryz.prog) 27 33 i0 (.slice none 0 0) Tryz.underlying27 hi0 hz0 .i64 .i64 S'.length S'.length (Nat.le_refl _) (by rw [hzb]; omega) (by omega) W
  rw [hz1] at hmk
  simp only [Value.cells, Nat.mul_one] at hmk
  obtain ⟨cs, hcs⟩ : ∃ cs, cs = madeCells #[Value.slice none 0 0] S'.length := ⟨_, rfl⟩
  have hcsz : cs.size = S'.length := by rw [hcs]; simp [madeCells]
  have HF0 := Lib.hid (FillS.start w5 cs S'.length hcsz)
  rw [← hcs] at hmk
  clear hcs hcsz
  go_enter Tryz.func22, Tryz.ntmps22
  go_wp2_with fail
  obtain ⟨w6, hw6⟩ : ∃ w6, w6 = w5.alloc (Obj.cells cs 33) := ⟨_, rfl⟩
  have hB6 := Lib.hid (show Below w5.heap.size w5 w6 by rw [hw6]; exact below1 _ _)
  rw [← hw6] at HF0 ⊢
  clear hw6 hmk
  go_loopw [11] (fun i wr => ∃ (k : Nat) (av : List Value), k ≤ S'.length ∧ i = .int .i64 k ∧ FillS w5.heap.size S'.length wr (S'.take k) av ∧ Below w5.heap.size w5 wr) (fun i _ => S'.length - (intOf i).toNat)
  case atStart => exact ⟨0, [], Nat.zero_le _, rfl, HF0.out, hB6.out⟩
  case round =>
    obtain ⟨k, av, hk, rfl, hfi, hbe⟩ := hrel
    by_cases hlt : k < S'.length
    · have hrd := HRD.out.below hbe hz45
      obtain ⟨A7, c7, e7, _, hx⟩ := hrd
      injection e7 with e7 e9 e8
      clear e9
      subst e7 e8
      obtain ⟨b, o, rfl, _, hx⟩ := hx (by omega)
      have hck : wr.cell? ⟨b, o + k, none⟩ = some (.int .u32 ((encB S'[k] : Nat) : Int)) := hx k hlt
      have hbk := HOK.out _ (List.getElem_mem hlt)
      have CN := Lib.hid (numbers_any S'[k] hbk wr)
      have HFI := Lib.hid hfi
      have HBE := Lib.hid hbe
      have HTK := Lib.hid (take_snoc S' k hlt)
      have hgl := hfi.lt
      clear hx hfi hbe hbk
      go_upto_region 5 with fail
      go_wp2_with (first
        | (go_at_call 46; refine CN.out.mono ?_; rintro e w7 ⟨A8, c8, rfl, o8, b8⟩
           have f7 := (HFI.out.on b8).free hlt
           obtain ⟨⟨x7, hx7⟩, hf7⟩ := f7
           have HST := Lib.hid (HFI.out.step (by simp; omega) hlt b8 o8)
           have HB7 := Lib.hid (bthen HBE.out b8)
           clear o8 b8))
      go_roundw
      case rel => exact ⟨k + 1, _, by omega, by go_num, by rw [HTK.out]; exact HST.out, HB7.out.setCell (Nat.le_refl _) _⟩
      case measure => simp [intOf]; omega
    · have hkn : k = S'.length := by omega
      have HFI := Lib.hid (show FillS w5.heap.size S'.length wr S' av by rw [hkn, List.take_length] at hfi; exact hfi)
      have HBE := Lib.hid hbe
      clear hkn hfi hbe
      go_wp2_with fail
      go_ret
      have hd := HFI.out.done rfl (by unfold maxLen; omega)
      exact ⟨_, _, rfl, hd, HBE.out⟩

set_option maxHeartbeats 4000000 in
set_option maxRecDepth 100000 in
theorem implSolutions_any (v v2 : Value) (fs : List LFact) (ls : List LLit) (R : List (List Int)) (hR : R = solsL fs ls) (w : World) (h : RdFacts w w.heap.size v fs) (h2 : RdLits w w.heap.size v2 ls) (hn : fs.length ≤ 1048576) (ht : tot fs ≤ 1048576) (hl : ls.length + totL ls ≤ 1048576) :
    Calls Tryz.prog 10 #[v, v2] w fun e w' => ∃ A c, e = .returned (.slice A R.length c) ∧ OwnRows w' w.heap.size w'.heap.size (.slice A R.length c) R ∧ Below w.heap.size w w' := by
  have H := Lib.hid h
  have H2 := Lib.hid h2
  have HR := Lib.hid hR
  obtain ⟨A, c, rfl, hc, _⟩ := h
  obtain ⟨A2, c2, rfl, hc2, _⟩ := h2
  clear hR
  obtain ⟨sf, hsf⟩ : ∃ sf, sf = bodySafe ls := ⟨_, rfl⟩
  obtain ⟨cf, hcf⟩ : ∃ cf, cf = constsL fs := ⟨_, rfl⟩
  have CB := Lib.hid (implBodySafe_any (.slice A2 ls.length c2) ls w H2.out hl)
  rw [← hsf] at CB
  have CH := Lib.hid (fun W (hW : Below w.heap.size w W) => haveConstants_any (.slice A fs.length c) fs cf hcf.symm W (H.out.on hW) hn ht)
  have HSF := Lib.hid hsf
  have HCF := Lib.hid hcf
  clear hsf hcf
  cases sf
  · have HE := Lib.hid (show R = [] by rw [HR.out]; unfold solsL; rw [← HSF.out]; rfl)
    go_enter Tryz.func10, Tryz.ntmps10
    go_wp2_with (go_at_call 8; refine CB.out.mono ?_; rintro e w1 ⟨rfl, hb1⟩; have HB1 := Lib.hid hb1; clear hb1)
    go_ret
    rw [HE.out]
    exact ⟨none, 0, rfl, OwnRows.nil _ _ _, HB1.out⟩
  · cases cf
    · have HE := Lib.hid (show R = [] by rw [HR.out]; unfold solsL; rw [← HSF.out, ← HCF.out]; rfl)
      go_enter Tryz.func10, Tryz.ntmps10
      go_wp2_with (first
        | (go_at_call 8; refine CB.out.mono ?_; rintro e w1 ⟨rfl, hb1⟩; have HB1 := Lib.hid hb1; clear hb1)
        | (go_at_call 16; refine (CH.out _ HB1.out).mono ?_; rintro e w2 ⟨rfl, hb2⟩; have HB2 := Lib.hid (bthen HB1.out hb2); clear hb2))
      go_ret
      rw [HE.out]
      exact ⟨none, 0, rfl, OwnRows.nil _ _ _, HB2.out⟩
    · have CQ := Lib.hid (fun W (hW : Below w.heap.size w W) => solutionsIn_any (.slice A fs.length c) (.slice A2 ls.length c2) fs ls HSF.out.symm HCF.out.symm W (H.out.on hW) (H2.out.on hW) hn ht hl)
      go_enter Tryz.func10, Tryz.ntmps10
      go_wp2_with (first
        | (go_at_call 8; refine CB.out.mono ?_; rintro e w1 ⟨rfl, hb1⟩; have HB1 := Lib.hid hb1; clear hb1)
        | (go_at_call 16; refine (CH.out _ HB1.out).mono ?_; rintro e w2 ⟨rfl, hb2⟩; have HB2 := Lib.hid (bthen HB1.out hb2); clear hb2)
        | (go_at_call 31; refine (CQ.out _ HB2.out).mono ?_; rintro e w5 ⟨A4, c4, lo5, hi5, S', rfl, hRS, hlo5, hz45, own5, hok5, hSn, b5⟩
           have CNL := Lib.hid (numberLists_any hi5 A4 c4 S' w5 own5.rd hz45 hok5 hSn)
           have HRS := Lib.hid (show S' = R by rw [hRS, HR.out])
           have HB5 := Lib.hid (bthen HB2.out b5)
           clear hRS own5 hok5 b5 hlo5 hz45 hSn)
        | (go_at_call 22; refine CNL.out.mono ?_; rintro e w6 ⟨A6, c6, rfl, o6, b6⟩; have H6 := Lib.hid (And.intro o6 b6); clear o6 b6))
      go_ret
      obtain ⟨o6, b6⟩ := H6.out
      rw [← HRS.out]
      exact ⟨_, _, rfl, o6.mono HB5.out.size (Nat.le_refl _), bthen HB5.out b6⟩

end Go.Proofs.YtofkcmihcgmmpaaGreat
/-
  The walk of headsIn.
-/
namespace Go.Proofs.YtofkcmihcgmmpaaGreat
open Go.RowKit

def zeroT : List Nat := List.replicate 24 0
def hdOf (r : LRule) (b : List Int) : LFact := (r.1.1, r.1.2.map (termVal b))
theorem tabWith_snoc (T : List Nat) (fs : List LFact) (f : LFact) : tabWith T (fs ++ [f]) = setBit (tabWith T fs) f.1.toNat (numF f.2) := by
  unfold tabWith
  rw [List.foldl_append]
  rfl
end Go.Proofs.YtofkcmihcgmmpaaGreat
/-
  hasAll: a table has all of another one.
-/
namespace Go.Proofs.YtofkcmihcgmmpaaGreat
open Go.RowKit

def wordIn (T2 T : List Nat) (p : Nat) : Bool := bits .andNot .u64 ((T2.getD p 0 : Nat) : Int) ((T.getD p 0 : Nat) : Int) == 0
def tabIn (T2 T : List Nat) : Bool := (List.range 24).all (wordIn T2 T)

end Go.Proofs.YtofkcmihcgmmpaaGreat
/-
  The walk of the program's FactsOk.
-/
namespace Go.Proofs.YtofkcmihcgmmpaaGreat
open Go.RowKit

end Go.Proofs.YtofkcmihcgmmpaaGreat
/-
  The program's Closed, by its tables.
-/
namespace Go.Proofs.YtofkcmihcgmmpaaGreat
open Go.RowKit

/-- What the program's Closed answers. -/
def ClosedT (p : LProg) (fs : List LFact) (R : Bool) : Prop := ((progOk p && factsOk p.1 fs) = false ∧ R = false) ∨ ((progOk p && factsOk p.1 fs) = true ∧ ∃ F, (∀ f, f ∈ F ↔ f ∈ headsAll p.2 fs) ∧ R = tabIn (tabWith zeroT F) (tabWith zeroT fs))

theorem tabWith_len (T : List Nat) (fs : List LFact) : (tabWith T fs).length = T.length := by
  induction fs generalizing T with
  | nil => rfl
  | cons f fs ih =>
    show (tabWith (setBit T f.1.toNat (numF f.2)) fs).length = _
    rw [ih]
    simp [setBit]
theorem tabCells_one (T : List Nat) : (tabCells T).all (·.oneCell') = true := by
  unfold tabCells
  rw [List.all_toArray, List.all_map, List.all_eq_true]
  intro x _
  rfl

end Go.Proofs.YtofkcmihcgmmpaaGreat
/-
  Tables by their bits: one table stands in another as its facts do.
-/
namespace Go.Proofs.YtofkcmihcgmmpaaGreat
open Go.RowKit

theorem setBit_bit {T : List Nat} {p q m n : Nat} (hp : p < T.length) : ((setBit T q m).getD p 0).testBit n = true ↔ (T.getD p 0).testBit n = true ∨ (q = p ∧ m = n) := by
  unfold setBit
  by_cases e : q = p
  · subst e
    have h1 : (T.set q (T.getD q 0 ||| 2 ^ m)).getD q 0 = T.getD q 0 ||| 2 ^ m := by simp [List.getD_eq_getElem?_getD, hp]
    rw [h1, Nat.testBit_or, Bool.or_eq_true, Nat.testBit_two_pow, decide_eq_true_eq]
    simp
  · have h1 : (T.set q (T.getD q 0 ||| 2 ^ m)).getD p 0 = T.getD p 0 := by simp [List.getD_eq_getElem?_getD, List.getElem?_set_ne e]
    rw [h1]
    simp [e]
theorem tabWith_bit {p n : Nat} : ∀ (fs : List LFact) (T : List Nat), p < T.length → (((tabWith T fs).getD p 0).testBit n = true ↔ (T.getD p 0).testBit n = true ∨ ∃ f ∈ fs, f.1.toNat = p ∧ numF f.2 = n)
  | [], T, _ => by simp [tabWith]
  | f :: fs, T, hp => by
    have e : tabWith T (f :: fs) = tabWith (setBit T f.1.toNat (numF f.2)) fs := rfl
    rw [e, tabWith_bit fs _ (by simpa [setBit] using hp), setBit_bit hp]
    constructor
    · rintro ((h | h) | ⟨g, hg, h⟩)
      · exact .inl h
      · exact .inr ⟨f, List.mem_cons_self .., h⟩
      · exact .inr ⟨g, List.mem_cons_of_mem _ hg, h⟩
    · rintro (h | ⟨g, hg, h⟩)
      · exact .inl (.inl h)
      · rcases List.mem_cons.1 hg with rfl | hg
        · exact .inl (.inr h)
        · exact .inr ⟨g, hg, h⟩
theorem zero_bit {p n : Nat} : (zeroT.getD p 0).testBit n = false := by
  have : zeroT.getD p 0 = 0 := by
    by_cases hp : p < zeroT.length
    · rw [getD_at hp]
      exact (List.mem_replicate.1 (List.getElem_mem hp)).2
    · simp [List.getD_eq_getElem?_getD, List.getElem?_eq_none (by omega : zeroT.length ≤ p)]
  rw [this, Nat.zero_testBit]
theorem numF_inj {xs ys : List Int} (hx : xs.all constOk = true) (hy : ys.all constOk = true) (hl : xs.length = ys.length) (h2 : xs.length ≤ 2) (e : numF xs = numF ys) : xs = ys := by
  rcases xs with _ | ⟨x, _ | ⟨y, _ | ⟨z, xs⟩⟩⟩ <;> rcases ys with _ | ⟨x', _ | ⟨y', _ | ⟨z', ys⟩⟩⟩ <;> (try (simp at hl; done)) <;> (try (simp at h2; done))
  · rfl
  · simp only [List.all_cons, List.all_nil, Bool.and_true] at hx hy
    have := const_range hx
    have := const_range hy
    simp [numF] at e
    simp; omega
  · simp only [List.all_cons, List.all_nil, Bool.and_true, Bool.and_eq_true] at hx hy
    have := const_range hx.1
    have := const_range hx.2
    have := const_range hy.1
    have := const_range hy.2
    simp [numF] at e
    simp; omega
/-- A fact's bit tells the fact. -/
theorem fact_of_bit {ar : List Int} {f g : LFact} (ha : arityOk ar = true) (hf : factFits ar f = true) (hg : factFits ar g = true) (e1 : f.1.toNat = g.1.toNat) (e2 : numF f.2 = numF g.2) : f = g := by
  obtain ⟨⟨h0, _, hl⟩, hc⟩ := fits_parts hf
  obtain ⟨⟨h0', _, hl'⟩, hc'⟩ := fits_parts hg
  have e : f.1 = g.1 := by omega
  rw [← e] at hl'
  exact Prod.ext e (numF_inj hc hc' (by omega) (fits_short ha hf) e2)

end Go.Proofs.YtofkcmihcgmmpaaGreat
/-
  What the program's Closed answers by its tables is what the specification's answers.
-/
namespace Go.Proofs.YtofkcmihcgmmpaaGreat
open Go.RowKit

theorem word_in {a b : Nat} (ha : a < 18446744073709551616) (hb : b < 18446744073709551616) : (bits .andNot .u64 (a : Int) (b : Int) == 0) = true ↔ ∀ n, a.testBit n = true → b.testBit n = true := by
  have e : (18446744073709551615 - b : Nat) = 2 ^ 64 - (b + 1) := by omega
  have hb' : b < 2 ^ 64 := hb
  rw [u64_andNot_nat a b ha hb, beq_iff_eq, e]
  constructor
  · intro h n hn
    have h0 : a &&& (2 ^ 64 - (b + 1)) = 0 := by exact_mod_cast h
    have h1 := congrArg (fun y => y.testBit n) h0
    simp only [Nat.testBit_and, Nat.zero_testBit, hn, Bool.true_and, Nat.testBit_two_pow_sub_succ hb'] at h1
    have hlt : n < 64 := by
      apply Classical.byContradiction
      intro h64
      have h2 := Nat.ge_two_pow_of_testBit hn
      have h3 : (2 : Nat) ^ 64 ≤ 2 ^ n := Nat.pow_le_pow_right (by decide) (by omega)
      omega
    simpa [hlt] using h1
  · intro h
    have h0 : a &&& (2 ^ 64 - (b + 1)) = 0 := by
      apply Nat.eq_of_testBit_eq
      intro n
      rw [Nat.testBit_and, Nat.zero_testBit, Nat.testBit_two_pow_sub_succ hb']
      cases hn : a.testBit n
      · rfl
      · rw [h n hn]
        simp
    rw [h0]
    rfl
theorem setBit_lt {T : List Nat} {p n : Nat} (h : ∀ x ∈ T, x < 18446744073709551616) (hn : n < 64) : ∀ x ∈ setBit T p n, x < 18446744073709551616 := by
  intro x hx
  rcases List.mem_or_eq_of_mem_set hx with h4 | rfl
  · exact h x h4
  · refine Nat.or_lt_two_pow (n := 64) ?_ (Nat.pow_lt_pow_right (by decide) hn)
    by_cases hp : p < T.length
    · rw [getD_at hp]
      exact h _ (List.getElem_mem hp)
    · simp [List.getD_eq_getElem?_getD, List.getElem?_eq_none (by omega : T.length ≤ p)]
theorem tabWith_lt : ∀ (fs : List LFact) (T : List Nat), (∀ x ∈ T, x < 18446744073709551616) → (∀ f ∈ fs, numF f.2 < 64) → ∀ x ∈ tabWith T fs, x < 18446744073709551616
  | [], _, h, _ => h
  | f :: fs, T, h, hf => tabWith_lt fs (setBit T f.1.toNat (numF f.2)) (setBit_lt h (hf f (List.mem_cons_self ..))) (fun g hg => hf g (List.mem_cons_of_mem _ hg))
theorem word_lt {T : List Nat} {p : Nat} (h : ∀ x ∈ T, x < 18446744073709551616) : T.getD p 0 < 18446744073709551616 := by
  by_cases hp : p < T.length
  · rw [getD_at hp]
    exact h _ (List.getElem_mem hp)
  · simp [List.getD_eq_getElem?_getD, List.getElem?_eq_none (by omega : T.length ≤ p)]
theorem zeroT_lt : ∀ x ∈ zeroT, x < 18446744073709551616 := fun x hx => by
  obtain ⟨_, rfl⟩ := List.mem_replicate.1 hx
  decide

theorem pickL_in (a b : List LFact) (t : Bool) (f : LFact) : f ∈ pickL a b t ↔ f ∈ a ∧ decide (f ∈ b) = t := by
  unfold pickL
  rw [setOf_mem, List.mem_filter, factsHas_in]
  simp

/-- One table of facts stands in another as its facts do. -/
theorem tabIn_facts {ar : List Int} (ha : arityOk ar = true) {F fs : List LFact} (hF : ∀ f ∈ F, factFits ar f = true) (hf : ∀ f ∈ fs, factFits ar f = true) : tabIn (tabWith zeroT F) (tabWith zeroT fs) = true ↔ ∀ f ∈ F, f ∈ fs := by
  have hl : ar.length ≤ 24 := by simp only [arityOk, Bool.and_eq_true, decide_eq_true_eq] at ha; exact ha.1
  have h64 : ∀ f, factFits ar f = true → numF f.2 < 64 := fun f h => numF_64 (fits_parts h).2 (fits_short ha h)
  have hz : ∀ p : Nat, p < 24 → p < zeroT.length := fun p hp => by simpa [zeroT] using hp
  unfold tabIn
  rw [List.all_eq_true]
  have hw : ∀ p, p < 24 → (wordIn (tabWith zeroT F) (tabWith zeroT fs) p = true ↔ ∀ n, (∃ f ∈ F, f.1.toNat = p ∧ numF f.2 = n) → ∃ f ∈ fs, f.1.toNat = p ∧ numF f.2 = n) := fun p hp => by
    unfold wordIn
    rw [word_in (word_lt (tabWith_lt F _ zeroT_lt fun f h => h64 f (hF f h))) (word_lt (tabWith_lt fs _ zeroT_lt fun f h => h64 f (hf f h)))]
    simp only [tabWith_bit _ _ (hz p hp), zero_bit, Bool.false_eq_true, false_or]
  constructor
  · intro h f hm
    have hp := (fits_parts (hF f hm)).1
    have h1 := (hw f.1.toNat (by omega)).1 (h _ (List.mem_range.2 (by omega))) (numF f.2) ⟨f, hm, rfl, rfl⟩
    obtain ⟨g, hg, e1, e2⟩ := h1
    rw [fact_of_bit ha (hF f hm) (hf g hg) e1.symm e2.symm]
    exact hg
  · intro h p hp
    rw [hw p (List.mem_range.1 hp)]
    rintro n ⟨f, hm, e⟩
    exact ⟨f, h f hm, e⟩

theorem closedT_eq {p : LProg} {fs : List LFact} {R : Bool} (h : ClosedT p fs R) : R = closedL p fs := by
  rcases h with ⟨h1, rfl⟩ | ⟨h1, F, hF, rfl⟩
  · unfold closedL
    rw [← Bool.and_assoc, h1, Bool.false_and]
  · rw [Bool.and_eq_true] at h1
    obtain ⟨har, _, hfit⟩ := prog_parts h1.1
    obtain ⟨_, hff, _⟩ := factsOk_parts h1.2
    unfold closedL
    rw [h1.1, h1.2, Bool.true_and, Bool.true_and, Bool.eq_iff_iff, tabIn_facts har (fun f h => headsAll_fits fs hfit f ((hF f).1 h)) hff, decide_eq_true_eq, List.length_eq_zero_iff, List.eq_nil_iff_forall_not_mem]
    constructor
    · intro h f hm
      rw [pickL_in] at hm
      have := h f ((hF f).2 hm.1)
      simp [this] at hm
    · intro h f hm
      apply Classical.byContradiction
      intro hn
      exact h f ((pickL_in _ _ _ _).2 ⟨(hF f).1 hm, by simpa using hn⟩)

end Go.Proofs.YtofkcmihcgmmpaaGreat
/-
  Rounds that bring facts: plain mathematics.
-/
namespace Go.Proofs.YtofkcmihcgmmpaaGreat
open Go.RowKit

/-- What makes a body hold in facts. -/
def DomL (ls : List LLit) (b : List Int) : Prop := ∀ v, v < 4 → (b.getD v (-1) ≠ -1 ↔ ∃ l ∈ ls, (maskOf l.2.2).testBit v = true)
def SolOf (fs : List LFact) (ls : List LLit) (b : List Int) : Prop := bindOk b = true ∧ DomL ls b ∧ ∀ l ∈ ls, litHolds fs l b = true
theorem isSols_iff {fs : List LFact} {ls : List LLit} {S : List (List Int)} : IsSols (questL fs ls) S ↔ S.Nodup ∧ ∀ b, b ∈ S ↔ SolOf fs ls b := by
  have e : ∀ b, (bindOk b = true ∧ (∀ v, v < 4 → (b.getD v (-1) ≠ -1 ↔ ∃ q ∈ questL fs ls, (maskOf q.1.2.2).testBit v = true)) ∧ ∀ q ∈ questL fs ls, holdsQ q b = true) ↔ SolOf fs ls b := fun b => by
    have e1 : ∀ v, (∃ q ∈ questL fs ls, (maskOf q.1.2.2).testBit v = true) ↔ ∃ l ∈ ls, (maskOf l.2.2).testBit v = true := fun v => by
      constructor
      · rintro ⟨q, hq, h⟩
        obtain ⟨l, hl, rfl⟩ := List.mem_map.1 hq
        exact ⟨l, hl, h⟩
      · rintro ⟨l, hl, h⟩
        exact ⟨(l, fs), List.mem_map.2 ⟨l, hl, rfl⟩, h⟩
    have e2 : (∀ q ∈ questL fs ls, holdsQ q b = true) ↔ ∀ l ∈ ls, litHolds fs l b = true := by
      constructor
      · intro h l hl
        exact h (l, fs) (List.mem_map.2 ⟨l, hl, rfl⟩)
      · intro h q hq
        obtain ⟨l, hl, rfl⟩ := List.mem_map.1 hq
        exact h l hl
    unfold SolOf DomL
    rw [e2]
    refine and_congr_right fun _ => and_congr_left fun _ => ?_
    exact forall_congr' fun v => forall_congr' fun _ => by rw [e1 v]
  unfold IsSols
  exact and_congr_right fun _ => forall_congr' fun b => by rw [e b]

theorem hold_yes {fs : List LFact} {l : LLit} {b : List Int} (h : l.1 = 0) : litHolds fs l b = true ↔ headOk l.2 b = true ∧ headOf l.2 b ∈ fs := by
  unfold litHolds
  rw [if_neg (by omega), factsHas_in, h]
  cases headOk l.2 b <;> simp
theorem hold_no {fs : List LFact} {l : LLit} {b : List Int} (h : l.1 = 1) : litHolds fs l b = true ↔ headOk l.2 b = true ∧ headOf l.2 b ∉ fs := by
  unfold litHolds
  rw [if_neg (by omega), factsHas_in, h]
  cases headOk l.2 b <;> simp
theorem hold_cmp {fs gs : List LFact} {l : LLit} {b : List Int} (h : l.1 = 2 ∨ l.1 = 3) : litHolds fs l b = litHolds gs l b := by
  unfold litHolds
  rw [if_pos h, if_pos h]

/-- The facts of one predicate. -/
def ofP (L : List LFact) (p : Int) : List LFact := L.filter fun f => decide (f.1 = p)
theorem ofP_mem {L : List LFact} {p : Int} {f : LFact} : f ∈ ofP L p ↔ f ∈ L ∧ f.1 = p := by simp [ofP]
theorem ofP_append (L M : List LFact) (p : Int) : ofP (L ++ M) p = ofP L p ++ ofP M p := by simp [ofP]
theorem ofP_len (L : List LFact) (p : Int) : (ofP L p).length ≤ L.length := List.length_filter_le _ _
theorem take_mid {L : List LFact} {o e : Nat} (h : o ≤ e) : L.take e = L.take o ++ (L.take e).drop o := by
  have h1 := (List.take_append_drop o (L.take e)).symm
  rw [List.take_take, Nat.min_eq_left h] at h1
  exact h1
theorem ofP_take (L : List LFact) (p : Int) (n : Nat) : ofP (L.take n) p = (ofP L p).take (ofP (L.take n) p).length := by
  have h := congrArg (fun x => ofP x p) (List.take_append_drop n L)
  simp only [ofP_append] at h
  rw [← h, List.take_left']
  rfl
theorem ofP_take_le (L : List LFact) (p : Int) (n : Nat) : (ofP (L.take n) p).length ≤ (ofP L p).length := by
  have h := congrArg (fun x => ofP x p) (List.take_append_drop n L)
  simp only [ofP_append] at h
  rw [← h, List.length_append]
  omega
theorem head_pred {a : LFact} {b : List Int} (h : headOk a b = true) : (headOf a b).1 = a.1 := by rw [headOf_yes h]
theorem hold_ofP {fs : List LFact} {l : LLit} {b : List Int} : litHolds (ofP fs l.2.1) l b = litHolds fs l b := by
  unfold litHolds
  split
  · rfl
  · rw [factsHas_in, factsHas_in]
    cases h : headOk l.2 b
    · rfl
    · congr 2
      exact decide_eq_decide.2 (by rw [ofP_mem]; exact ⟨fun h => h.1, fun h2 => ⟨h2, head_pred h⟩⟩)

/-- The facts of which a literal is asked: all, old ones, new ones. -/
abbrev LAge := List LFact × List LFact × List LFact
def litD (ls : List LLit) (j : Nat) : LLit := ls.getD j (0, 0, [])
def ageD (ag : List LAge) (j : Nat) : LAge := ag.getD j ([], [], [])
theorem litD_lt {ls : List LLit} {j : Nat} (h : j < ls.length) : litD ls j = ls[j] := by simp [litD, h]
theorem ageD_lt {ag : List LAge} {j : Nat} (h : j < ag.length) : ageD ag j = ag[j] := by simp [ageD, h]
theorem litD_mem {ls : List LLit} {j : Nat} (h : j < ls.length) : litD ls j ∈ ls := by rw [litD_lt h]; exact List.getElem_mem h
def qAt (ls : List LLit) (ag : List LAge) (i j : Nat) : LQ := (litD ls j, if j < i ∧ (litD ls j).1 = 0 then (ageD ag j).2.1 else (ageD ag j).1)
def freshTo (ls : List LLit) (ag : List LAge) (i k : Nat) : List LQ := (litD ls i, (ageD ag i).2.2) :: (List.range k).flatMap fun j => if j = i then [] else [qAt ls ag i j]
theorem freshTo_zero (ls : List LLit) (ag : List LAge) (i : Nat) : freshTo ls ag i 0 = [(litD ls i, (ageD ag i).2.2)] := by simp [freshTo]
theorem freshTo_same (ls : List LLit) (ag : List LAge) (i : Nat) : freshTo ls ag i (i + 1) = freshTo ls ag i i := by simp [freshTo, List.range_succ]
theorem freshTo_snoc (ls : List LLit) (ag : List LAge) {i k : Nat} (h : k ≠ i) : freshTo ls ag i (k + 1) = freshTo ls ag i k ++ [qAt ls ag i k] := by simp [freshTo, List.range_succ, h]
theorem freshTo_len (ls : List LLit) (ag : List LAge) (i : Nat) : ∀ k, (freshTo ls ag i k).length ≤ k + 1 ∧ (i < k → (freshTo ls ag i k).length = k) ∧ (k ≤ i → (freshTo ls ag i k).length = k + 1)
  | 0 => by simp [freshTo_zero]
  | k + 1 => by
    obtain ⟨h1, h2, h3⟩ := freshTo_len ls ag i k
    by_cases e : k = i
    · subst e
      rw [freshTo_same]
      refine ⟨by omega, fun _ => h3 (Nat.le_refl _), fun h => absurd h (by omega)⟩
    · rw [freshTo_snoc ls ag e, List.length_append, List.length_singleton]
      refine ⟨by omega, fun h => ?_, fun h => ?_⟩
      · rw [h2 (by omega)]
      · rw [h3 (by omega)]
theorem freshTo_mem {ls : List LLit} {ag : List LAge} {i k : Nat} {q : LQ} : q ∈ freshTo ls ag i k ↔ q = (litD ls i, (ageD ag i).2.2) ∨ ∃ j, j < k ∧ j ≠ i ∧ q = qAt ls ag i j := by
  unfold freshTo
  rw [List.mem_cons, List.mem_flatMap]
  refine or_congr_right ?_
  constructor
  · rintro ⟨j, hj, h⟩
    split at h
    · cases h
    · rename_i e
      exact ⟨j, List.mem_range.1 hj, e, by simpa using h⟩
  · rintro ⟨j, hj, e, rfl⟩
    exact ⟨j, List.mem_range.2 hj, by rw [if_neg e]; exact List.mem_singleton_self _⟩
/-- The body holds with atom i among the new facts, and those ahead of it among the old ones. -/
def FreshAt (ls : List LLit) (ag : List LAge) (i : Nat) (b : List Int) : Prop :=
  litHolds (ageD ag i).2.2 (litD ls i) b = true ∧ ∀ j, j < ls.length → j ≠ i → litHolds (qAt ls ag i j).2 (litD ls j) b = true
theorem freshQ_dom {ls : List LLit} {ag : List LAge} {i v : Nat} (hi : i < ls.length) : (∃ q ∈ freshTo ls ag i ls.length, (maskOf q.1.2.2).testBit v = true) ↔ ∃ l ∈ ls, (maskOf l.2.2).testBit v = true := by
  constructor
  · rintro ⟨q, hq, h⟩
    rcases freshTo_mem.1 hq with rfl | ⟨j, hj, _, rfl⟩
    · exact ⟨_, litD_mem hi, h⟩
    · exact ⟨_, litD_mem hj, h⟩
  · rintro ⟨l, hl, h⟩
    obtain ⟨j, hj, rfl⟩ := List.getElem_of_mem hl
    rw [← litD_lt hj] at h
    by_cases e : j = i
    · subst e
      exact ⟨_, freshTo_mem.2 (.inl rfl), h⟩
    · exact ⟨_, freshTo_mem.2 (.inr ⟨j, hj, e, rfl⟩), h⟩
theorem freshQ_is {ls : List LLit} {ag : List LAge} {i : Nat} (hi : i < ls.length) {S : List (List Int)} (h : IsSols (freshTo ls ag i ls.length) S) : S.Nodup ∧ ∀ b, b ∈ S ↔ bindOk b = true ∧ DomL ls b ∧ FreshAt ls ag i b := by
  refine ⟨h.1, fun b => ?_⟩
  rw [h.2 b]
  refine and_congr_right fun _ => and_congr ?_ ?_
  · exact forall_congr' fun v => forall_congr' fun _ => by rw [freshQ_dom hi]
  · constructor
    · intro hq
      exact ⟨hq _ (freshTo_mem.2 (.inl rfl)), fun j hj e => hq (qAt ls ag i j) (freshTo_mem.2 (.inr ⟨j, hj, e, rfl⟩))⟩
    · rintro ⟨h1, h2⟩ q hq
      rcases freshTo_mem.1 hq with rfl | ⟨j, hj, e, rfl⟩
      · exact h1
      · exact h2 j hj e
theorem freshQ_safe {ls : List LLit} {ag : List LAge} {i : Nat} (hi : i < ls.length) (h : SafeB ls) : SafeQ (freshTo ls ag i ls.length) := fun q hq v hv hm => by
  have hl : ∃ l ∈ ls, (maskOf l.2.2).testBit v = true := (freshQ_dom (ag := ag) hi).1 ⟨q, hq, hm⟩
  obtain ⟨l, hl, hm⟩ := hl
  obtain ⟨l', hl', h0, hm'⟩ := h.safe l hl v hv hm
  obtain ⟨j, hj, rfl⟩ := List.getElem_of_mem hl'
  rw [← litD_lt hj] at h0 hm'
  by_cases e : j = i
  · subst e
    exact ⟨_, freshTo_mem.2 (.inl rfl), h0, hm'⟩
  · exact ⟨_, freshTo_mem.2 (.inr ⟨j, hj, e, rfl⟩), h0, hm'⟩
/-- What is asked of the facts of an age. -/
structure AgeOk (a : LAge) : Prop where
  consts : ∀ f ∈ a.1, f.2.all constOk = true
  len : a.1.length ≤ 1048576
  tot : tot a.1 ≤ 1048576
  constsO : ∀ f ∈ a.2.1, f.2.all constOk = true
  lenO : a.2.1.length ≤ 1048576
  totO : Go.Proofs.YtofkcmihcgmmpaaGreat.tot a.2.1 ≤ 1048576
  constsF : ∀ f ∈ a.2.2, f.2.all constOk = true
  lenF : a.2.2.length ≤ 1048576
  totF : Go.Proofs.YtofkcmihcgmmpaaGreat.tot a.2.2 ≤ 1048576
theorem freshQ_ok {ls : List LLit} {ag : List LAge} {i : Nat} (hi : i < ls.length) (hl : ag.length = ls.length) (h : SafeB ls) (ht : totL ls ≤ 1048576) (ha : ∀ a ∈ ag, AgeOk a) : ∀ q ∈ freshTo ls ag i ls.length, QOk q := fun q hq => by
  have key : ∀ j, j < ls.length → ((litD ls j).1 = 0 ∨ (litD ls j).1 = 1 ∨ (litD ls j).1 = 2 ∨ (litD ls j).1 = 3) ∧ (litD ls j).2.2.all termOk = true ∧ (litD ls j).2.2.length ≤ 1048576 ∧ AgeOk (ageD ag j) := fun j hj => by
    have hk := h.kind _ (litD_mem hj)
    refine ⟨by omega, h.terms _ (litD_mem hj), ?_, by rw [ageD_lt (by omega)]; exact ha _ (List.getElem_mem _)⟩
    rw [litD_lt hj]
    exact Nat.le_trans (len_le_totL ls j hj) ht
  rcases freshTo_mem.1 hq with rfl | ⟨j, hj, e, rfl⟩
  · obtain ⟨k1, k2, k3, k4⟩ := key i hi
    exact ⟨k1, k2, k4.constsF, k3, k4.lenF, k4.totF⟩
  · obtain ⟨k1, k2, k3, k4⟩ := key j hj
    unfold qAt
    by_cases e2 : j < i ∧ (litD ls j).1 = 0
    · rw [if_pos e2]
      exact ⟨k1, k2, k4.constsO, k3, k4.lenO, k4.totO⟩
    · rw [if_neg e2]
      exact ⟨k1, k2, k4.consts, k3, k4.len, k4.tot⟩

/-- The new solutions, body by body. -/
def FreshSol (ls : List LLit) (ag : List LAge) (b : List Int) : Prop := bindOk b = true ∧ DomL ls b ∧ ∃ i, i < ls.length ∧ (litD ls i).1 = 0 ∧ FreshAt ls ag i b
/-- .. up to the literal k. -/
def FreshSolTo (ls : List LLit) (ag : List LAge) (k : Nat) (b : List Int) : Prop := bindOk b = true ∧ DomL ls b ∧ ∃ i, i < k ∧ (litD ls i).1 = 0 ∧ FreshAt ls ag i b
theorem fresh_all {ls : List LLit} {ag : List LAge} {b : List Int} (h : SafeB ls) (ha : ∀ j, j < ls.length → ∀ f, f ∈ (ageD ag j).1 ↔ f ∈ (ageD ag j).2.1 ∨ f ∈ (ageD ag j).2.2) :
    FreshSol ls ag b ↔ bindOk b = true ∧ DomL ls b ∧ (∀ j, j < ls.length → litHolds (ageD ag j).1 (litD ls j) b = true) ∧ ∃ i, i < ls.length ∧ (litD ls i).1 = 0 ∧ litHolds (ageD ag i).2.2 (litD ls i) b = true := by
  unfold FreshSol
  refine and_congr_right fun _ => and_congr_right fun _ => ?_
  constructor
  · rintro ⟨i, hi, h0, h1, h2⟩
    refine ⟨fun j hj => ?_, i, hi, h0, h1⟩
    by_cases e : j = i
    · subst e
      rw [hold_yes h0] at h1 ⊢
      exact ⟨h1.1, (ha j hj _).2 (.inr h1.2)⟩
    · have h3 := h2 j hj e
      unfold qAt at h3
      by_cases e2 : j < i ∧ (litD ls j).1 = 0
      · rw [if_pos e2, hold_yes e2.2] at h3
        rw [hold_yes e2.2]
        exact ⟨h3.1, (ha j hj _).2 (.inl h3.2)⟩
      · rw [if_neg e2] at h3
        exact h3
  · rintro ⟨hall, hex⟩
    -- the least one
    have least : ∀ n, (∃ i, i < n ∧ i < ls.length ∧ (litD ls i).1 = 0 ∧ litHolds (ageD ag i).2.2 (litD ls i) b = true) → ∃ i, i < ls.length ∧ (litD ls i).1 = 0 ∧ litHolds (ageD ag i).2.2 (litD ls i) b = true ∧ ∀ j, j < i → (litD ls j).1 = 0 → litHolds (ageD ag j).2.2 (litD ls j) b = false := by
      intro n
      induction n with
      | zero => rintro ⟨i, hi, _⟩; omega
      | succ n ih =>
        rintro ⟨i, hi, h1, h2, h3⟩
        by_cases hl : ∃ j, j < i ∧ (litD ls j).1 = 0 ∧ litHolds (ageD ag j).2.2 (litD ls j) b = true
        · obtain ⟨j, hj, h4, h5⟩ := hl
          exact ih ⟨j, by omega, by omega, h4, h5⟩
        · refine ⟨i, h1, h2, h3, fun j hj h4 => ?_⟩
          cases h5 : litHolds (ageD ag j).2.2 (litD ls j) b
          · rfl
          · exact absurd ⟨j, hj, h4, h5⟩ hl
    obtain ⟨i0, g1, g2, g3⟩ := hex
    obtain ⟨i, hi, h0, h1, hmin⟩ := least (i0 + 1) ⟨i0, Nat.lt_succ_self _, g1, g2, g3⟩
    refine ⟨i, hi, h0, h1, fun j hj e => ?_⟩
    unfold qAt
    by_cases e2 : j < i ∧ (litD ls j).1 = 0
    · rw [if_pos e2]
      have h4 := hall j hj
      have h5 := hmin j e2.1 e2.2
      rw [hold_yes e2.2] at h4
      show litHolds _ (litD ls j) b = true
      rw [hold_yes e2.2]
      refine ⟨h4.1, ?_⟩
      rcases (ha j hj _).1 h4.2 with h6 | h6
      · exact h6
      · rw [(hold_yes e2.2).2 ⟨h4.1, h6⟩] at h5
        cases h5
    · rw [if_neg e2]
      exact hall j hj
theorem fresh_apart {ls : List LLit} {ag : List LAge} {b : List Int} {i j : Nat} (hi : i < ls.length) (hij : i < j) (h0 : (litD ls i).1 = 0) (hd : ∀ f, f ∈ (ageD ag i).2.1 → f ∉ (ageD ag i).2.2) (h1 : FreshAt ls ag i b) (h2 : FreshAt ls ag j b) : False := by
  have h3 := h2.2 i hi (by omega)
  unfold qAt at h3
  rw [if_pos ⟨hij, h0⟩, hold_yes h0] at h3
  have h4 := (hold_yes h0).1 h1.1
  exact hd _ h3.2 h4.2

/-- The ages of what has grown. -/
def ageOf (L : List LFact) (o e : Nat) (p : Int) : LAge := (ofP (L.take e) p, ofP (L.take o) p, (ofP (L.take e) p).drop (ofP (L.take o) p).length)
def agesOf (L : List LFact) (o e : Nat) (ls : List LLit) : List LAge := ls.map fun l => ageOf L o e l.2.1
theorem agesOf_at {L : List LFact} {o e j : Nat} {ls : List LLit} (h : j < ls.length) : ageD (agesOf L o e ls) j = ageOf L o e (litD ls j).2.1 := by
  rw [ageD_lt (by simpa [agesOf] using h), litD_lt h]
  simp [agesOf]
theorem ageOf_split {L : List LFact} {o e : Nat} (h : o ≤ e) (p : Int) : (ageOf L o e p).1 = (ageOf L o e p).2.1 ++ (ageOf L o e p).2.2 := by
  unfold ageOf
  have h1 := congrArg (fun x => ofP x p) (take_mid (L := L) h)
  simp only [ofP_append] at h1
  show ofP (L.take e) p = ofP (L.take o) p ++ (ofP (L.take e) p).drop (ofP (L.take o) p).length
  rw [h1, List.drop_left']
  rfl
theorem solOf_mono_neg {L : List LFact} {o e : Nat} (h : o ≤ e) {f : LFact} (hf : f ∈ L.take o) : f ∈ L.take e := by
  rw [take_mid h]
  exact List.mem_append_left _ hf
/-- A solution uses a new fact, or was one before. -/
theorem fresh_or_old {L : List LFact} {o e : Nat} (h : o ≤ e) {ls : List LLit} (hs : SafeB ls) {b : List Int} : (SolOf (L.take e) ls b → FreshSol ls (agesOf L o e ls) b ∨ SolOf (L.take o) ls b) ∧ (FreshSol ls (agesOf L o e ls) b → SolOf (L.take e) ls b) := by
  have hspl : ∀ j, j < ls.length → ∀ f, f ∈ (ageD (agesOf L o e ls) j).1 ↔ f ∈ (ageD (agesOf L o e ls) j).2.1 ∨ f ∈ (ageD (agesOf L o e ls) j).2.2 := fun j hj f => by
    rw [agesOf_at hj, ageOf_split h, List.mem_append]
  rw [fresh_all hs hspl]
  have hat : ∀ j, j < ls.length → litHolds (ageD (agesOf L o e ls) j).1 (litD ls j) b = litHolds (L.take e) (litD ls j) b := fun j hj => by
    rw [agesOf_at hj]
    exact hold_ofP
  constructor
  · rintro ⟨h1, h2, h3⟩
    by_cases hex : ∃ i, i < ls.length ∧ (litD ls i).1 = 0 ∧ litHolds (ageD (agesOf L o e ls) i).2.2 (litD ls i) b = true
    · exact .inl ⟨h1, h2, fun j hj => by rw [hat j hj]; exact h3 _ (litD_mem hj), hex⟩
    · refine .inr ⟨h1, h2, fun l hl => ?_⟩
      obtain ⟨j, hj, rfl⟩ := List.getElem_of_mem hl
      rw [← litD_lt hj]
      have h4 := h3 _ (litD_mem hj)
      have hk := hs.kind _ (litD_mem hj)
      rcases (by omega : (litD ls j).1 = 0 ∨ (litD ls j).1 = 1 ∨ ((litD ls j).1 = 2 ∨ (litD ls j).1 = 3)) with e0 | e0 | e0
      · rw [hold_yes e0] at h4 ⊢
        refine ⟨h4.1, ?_⟩
        have h5 : headOf (litD ls j).2 b ∈ (ageOf L o e (litD ls j).2.1).1 := ofP_mem.2 ⟨h4.2, head_pred h4.1⟩
        rw [ageOf_split h] at h5
        rcases List.mem_append.1 h5 with h6 | h6
        · exact (ofP_mem.1 h6).1
        · exact absurd ⟨j, hj, e0, by rw [agesOf_at hj, hold_yes e0]; exact ⟨h4.1, h6⟩⟩ hex
      · rw [hold_no e0] at h4 ⊢
        exact ⟨h4.1, fun hc => h4.2 (solOf_mono_neg h hc)⟩
      · rw [hold_cmp (gs := L.take e) e0]
        exact h4
  · rintro ⟨h1, h2, h3, _⟩
    refine ⟨h1, h2, fun l hl => ?_⟩
    obtain ⟨j, hj, rfl⟩ := List.getElem_of_mem hl
    rw [← litD_lt hj, ← hat j hj]
    exact h3 j hj

/-- The head of a rule, for a solution. -/
def hdOf' (r : LRule) (b : List Int) : LFact := (r.1.1, r.1.2.map (termVal b))
theorem headsL_sol {ar : List Int} {r : LRule} {fs : List LFact} (h : ruleFits ar r = true) (hc : ∀ f ∈ fs, f.2.all constOk = true) (hn : fs.Nodup) (f : LFact) : f ∈ headsL r fs ↔ ∃ b, SolOf fs r.2 b ∧ f = hdOf' r b := by
  obtain ⟨_, h2⟩ := solsOf_is (fs := fs) (gs := fs) (SafeB.of (fits_body h)) hc hn (fun _ => Iff.rfl)
  rw [headsL_mem h h2 hc hn]
  have h3 := (isSols_iff.1 h2).2
  constructor
  · rintro ⟨b, hb, e⟩; exact ⟨b, (h3 b).1 hb, e⟩
  · rintro ⟨b, hb, e⟩; exact ⟨b, (h3 b).2 hb, e⟩
theorem headsAll_sol {ar : List Int} {rs : List LRule} {fs : List LFact} (h : ∀ r ∈ rs, ruleFits ar r = true) (hc : ∀ f ∈ fs, f.2.all constOk = true) (hn : fs.Nodup) (f : LFact) : f ∈ headsAll rs fs ↔ ∃ r ∈ rs, ∃ b, SolOf fs r.2 b ∧ f = hdOf' r b := by
  unfold headsAll
  rw [setOf_mem, List.mem_flatMap]
  constructor
  · rintro ⟨r, hr, hf⟩; exact ⟨r, hr, (headsL_sol (h r hr) hc hn f).1 hf⟩
  · rintro ⟨r, hr, hf⟩; exact ⟨r, hr, (headsL_sol (h r hr) hc hn f).2 hf⟩
theorem solOf_same {fs gs : List LFact} (h : ∀ f, f ∈ fs ↔ f ∈ gs) (ls : List LLit) (b : List Int) : SolOf fs ls b ↔ SolOf gs ls b := by
  unfold SolOf
  refine and_congr_right fun _ => and_congr_right fun _ => forall_congr' fun l => forall_congr' fun _ => ?_
  rw [litHolds_same h]

theorem nodup_sub {α : Type} [DecidableEq α] : ∀ {l m : List α}, l.Nodup → (∀ x ∈ l, x ∈ m) → l.length ≤ m.length
  | [], _, _, _ => Nat.zero_le _
  | x :: l, m, hn, hs => by
    rw [List.nodup_cons] at hn
    have h1 := nodup_sub (m := m.erase x) hn.2 fun y hy => (List.mem_erase_of_ne (show y ≠ x from fun e => by subst e; exact hn.1 hy)).2 (hs y (List.mem_cons_of_mem _ hy))
    have hx := hs x List.mem_cons_self
    rw [List.length_erase_of_mem hx] at h1
    have := List.length_pos_of_mem hx
    simp only [List.length_cons]
    omega
theorem setOf_len {L : List LFact} (h : L.Nodup) : (setOf L).length = L.length :=
  Nat.le_antisymm (nodup_sub (asc_nodup (setOf_asc L)) fun x hx => (setOf_mem L x).1 hx) (nodup_sub h fun x hx => (setOf_mem L x).2 hx)

/-- A list grows by what it has not yet. -/
def Brings (L : List LFact) (X : LFact → Prop) (L' : List LFact) : Prop := (∃ N, L' = L ++ N) ∧ L'.Nodup ∧ ∀ f, f ∈ L' ↔ f ∈ L ∨ X f
theorem Brings.refl {L : List LFact} (h : L.Nodup) {X : LFact → Prop} (hX : ∀ f, X f → f ∈ L) : Brings L X L := ⟨⟨[], by simp⟩, h, fun f => ⟨.inl, fun h => h.elim id (hX f)⟩⟩
theorem Brings.trans {L L1 L2 : List LFact} {X Y Z : LFact → Prop} (h : Brings L X L1) (h2 : Brings L1 Y L2) (hZ : ∀ f, Z f ↔ X f ∨ Y f) : Brings L Z L2 := by
  obtain ⟨⟨N, e⟩, _, m1⟩ := h
  obtain ⟨⟨N2, e2⟩, n2, m2⟩ := h2
  exact ⟨⟨N ++ N2, by rw [e2, e, List.append_assoc]⟩, n2, fun f => by rw [m2, m1, hZ, or_assoc]⟩
theorem Brings.step {L : List LFact} {f : LFact} (h : L.Nodup) (hf : f ∉ L) : Brings L (fun g => g = f) (L ++ [f]) :=
  ⟨⟨[f], rfl⟩, by
    rw [List.nodup_append]
    exact ⟨h, by simp, fun a ha b hb e => hf (by rw [List.mem_singleton.1 hb] at e; exact e ▸ ha)⟩, fun g => by simp⟩

def stepL (rs : List LRule) (F : List LFact) : List LFact := setOf (F ++ headsAll rs F)
def iterL (rs : List LRule) (F : List LFact) : Nat → List LFact
  | 0 => F
  | n + 1 => stepL rs (iterL rs F n)
/-- m rounds bring more facts, and the next one none. -/
def RoundsM (rs : List LRule) (F : List LFact) (m : Nat) : Prop := (∀ k, k < m → (iterL rs F (k + 1)).length ≠ (iterL rs F k).length) ∧ (iterL rs F (m + 1)).length = (iterL rs F m).length
theorem RoundsM.unique {rs : List LRule} {F : List LFact} {m n : Nat} (h : RoundsM rs F m) (h2 : RoundsM rs F n) : m = n := by
  rcases Nat.lt_trichotomy m n with h3 | h3 | h3
  · exact absurd h.2 (h2.1 m h3)
  · exact h3
  · exact absurd h2.2 (h.1 n h3)
theorem iter_succ (rs : List LRule) (F : List LFact) : ∀ n, iterL rs F (n + 1) = iterL rs (stepL rs F) n
  | 0 => rfl
  | n + 1 => by
    show stepL rs (iterL rs F (n + 1)) = stepL rs (iterL rs (stepL rs F) n)
    rw [iter_succ rs F n]

/-- Facts that fit, each once. -/
structure FitL (ar : List Int) (L : List LFact) : Prop where
  nodup : L.Nodup
  fits : ∀ f ∈ L, factFits ar f = true
theorem FitL.take {ar : List Int} {L : List LFact} (h : FitL ar L) (n : Nat) : FitL ar (L.take n) := ⟨List.Nodup.sublist (List.take_sublist _ _) h.nodup, fun f hf => h.fits f (List.mem_of_mem_take hf)⟩
theorem FitL.consts {ar : List Int} {L : List LFact} (h : FitL ar L) : ∀ f ∈ L, f.2.all constOk = true := fun f hf => (fits_parts (h.fits f hf)).2
theorem FitL.set {ar : List Int} {L : List LFact} (h : ∀ f ∈ L, factFits ar f = true) : FitL ar (setOf L) := ⟨asc_nodup (setOf_asc L), fun f hf => h f ((setOf_mem L f).1 hf)⟩
theorem stepL_fit {ar : List Int} {rs : List LRule} {F : List LFact} (h : ∀ r ∈ rs, ruleFits ar r = true) (hF : FitL ar F) : FitL ar (stepL rs F) :=
  FitL.set fun f hf => by
    rcases List.mem_append.1 hf with h1 | h1
    · exact hF.fits f h1
    · exact headsAll_fits F h f h1
theorem iterL_fit {ar : List Int} {rs : List LRule} {F : List LFact} (h : ∀ r ∈ rs, ruleFits ar r = true) (hF : FitL ar F) : ∀ n, FitL ar (iterL rs F n)
  | 0 => hF
  | n + 1 => stepL_fit h (iterL_fit h hF n)
/-- The same facts have the same heads. -/
theorem headsAll_same {ar : List Int} {rs : List LRule} {F G : List LFact} (h : ∀ r ∈ rs, ruleFits ar r = true) (hF : FitL ar F) (hG : FitL ar G) (e : ∀ f, f ∈ F ↔ f ∈ G) (f : LFact) : f ∈ headsAll rs F ↔ f ∈ headsAll rs G := by
  rw [headsAll_sol h hF.consts hF.nodup, headsAll_sol h hG.consts hG.nodup]
  constructor
  · rintro ⟨r, hr, b, hb, e2⟩; exact ⟨r, hr, b, (solOf_same e _ _).1 hb, e2⟩
  · rintro ⟨r, hr, b, hb, e2⟩; exact ⟨r, hr, b, (solOf_same e _ _).2 hb, e2⟩
theorem stepL_mem {rs : List LRule} {F : List LFact} (f : LFact) : f ∈ stepL rs F ↔ f ∈ F ∨ f ∈ headsAll rs F := by unfold stepL; rw [setOf_mem, List.mem_append]

/-- A round over what is new brings all that the rules say. -/
theorem round_brings {ar : List Int} {rs : List LRule} {L L' : List LFact} {o e : Nat} (h : ∀ r ∈ rs, ruleFits ar r = true) (hL : FitL ar L) (ho : o ≤ e) (he : e = L.length) (hb : ∀ f, f ∈ headsAll rs (L.take o) → f ∈ L)
    (hB : Brings L (fun f => ∃ r ∈ rs, ∃ b, FreshSol r.2 (agesOf L o e r.2) b ∧ f = hdOf' r b) L') : ∀ f, f ∈ L' ↔ f ∈ L ∨ f ∈ headsAll rs L := by
  intro f
  have hte : L.take e = L := by rw [he, List.take_length]
  rw [hB.2.2 f, headsAll_sol h hL.consts hL.nodup]
  constructor
  · rintro (h1 | ⟨r, hr, b, hb, e2⟩)
    · exact .inl h1
    · refine .inr ⟨r, hr, b, ?_, e2⟩
      have := (fresh_or_old (L := L) ho (SafeB.of (fits_body (h r hr))) (b := b)).2 hb
      rw [hte] at this
      exact this
  · rintro (h1 | ⟨r, hr, b, h2, e2⟩)
    · exact .inl h1
    · rw [← hte] at h2
      rcases (fresh_or_old (L := L) ho (SafeB.of (fits_body (h r hr))) (b := b)).1 h2 with h3 | h3
      · exact .inr ⟨r, hr, b, h3, e2⟩
      · exact .inl (hb f ((headsAll_sol h (hL.take o).consts (hL.take o).nodup f).2 ⟨r, hr, b, h3, e2⟩))

theorem brings_pre {L L' : List LFact} {X : LFact → Prop} (h : Brings L X L') : L'.take L.length = L ∧ L.length ≤ L'.length := by
  obtain ⟨⟨N, e⟩, _⟩ := h
  subst e
  simp
theorem lastD_snoc (E : List Nat) (x : Nat) : (E ++ [x]).getLastD 0 = x := by simp
/-- Within growOn: j rounds have been ended. -/
structure OnInv (ar : List Int) (rs : List LRule) (L0 : List LFact) (E0 : List Nat) (L : List LFact) (E : List Nat) (e j : Nat) : Prop where
  fit : FitL ar L
  pre : ∃ N, L = L0 ++ N
  ends : ∃ M, E = E0 ++ M ∧ M.length = j ∧ ∀ k, k < j → M.getD k 0 ≤ L.length ∧ ∀ f, f ∈ L.take (M.getD k 0) ↔ f ∈ iterL rs (setOf L0) k
  last : E.getLastD 0 = e
  le : e ≤ L.length
  heads : ∀ f, f ∈ headsAll rs (L.take e) → f ∈ L
  now : ∀ f, f ∈ L ↔ f ∈ iterL rs (setOf L0) j
  grow : ∀ k, k + 1 < j → (iterL rs (setOf L0) (k + 1)).length ≠ (iterL rs (setOf L0) k).length
  zero : j = 0 → L = L0
  up : E.Pairwise (· < ·)
  ub : ∀ x ∈ E, x ≤ e
  first : 0 < j → E0.getLastD 0 < L0.length
  lst : 0 < j → (iterL rs (setOf L0) (j - 1)).length = e
theorem OnInv.start {ar : List Int} {rs : List LRule} {L : List LFact} {E : List Nat} {e : Nat} (hL : FitL ar L) (he : E.getLastD 0 = e) (hl : e ≤ L.length) (hh : ∀ f, f ∈ headsAll rs (L.take e) → f ∈ L) (hu : E.Pairwise (· < ·)) (hb : ∀ x ∈ E, x ≤ e) : OnInv ar rs L E L E e 0 :=
  ⟨hL, ⟨[], by simp⟩, ⟨[], by simp, rfl, fun k hk => absurd hk (by omega)⟩, he, hl, hh, fun f => (setOf_mem L f).symm, fun k hk => absurd hk (by omega), fun _ => rfl, hu, hb, fun h => absurd h (by omega), fun h => absurd h (by omega)⟩
theorem set_len {ar : List Int} {F G : List LFact} (hF : FitL ar F) (hG : FitL ar G) (h : ∀ f, f ∈ F ↔ f ∈ G) : F.length = G.length :=
  Nat.le_antisymm (nodup_sub hF.nodup fun x hx => (h x).1 hx) (nodup_sub hG.nodup fun x hx => (h x).2 hx)
theorem OnInv.step {ar : List Int} {rs : List LRule} {L0 L L' : List LFact} {E0 E : List Nat} {e j : Nat} (hr : ∀ r ∈ rs, ruleFits ar r = true) (h0 : FitL ar L0) (h : OnInv ar rs L0 E0 L E e j) (hlt : e < L.length)
    (hf : FitL ar L') (hB : Brings L (fun f => ∃ r ∈ rs, ∃ b, FreshSol r.2 (agesOf L e L.length r.2) b ∧ f = hdOf' r b) L') : OnInv ar rs L0 E0 L' (E ++ [L.length]) L.length (j + 1) := by
  obtain ⟨hp, hpl⟩ := brings_pre hB
  have hm := round_brings hr h.fit h.le rfl h.heads hB
  have hS : FitL ar (setOf L0) := FitL.set h0.fits
  have hi := iterL_fit hr hS
  have hlen : (iterL rs (setOf L0) j).length = L.length := (set_len h.fit (hi j) h.now).symm
  refine ⟨hf, ?_, ?_, lastD_snoc _ _, hpl, ?_, ?_, ?_, fun e => absurd e (by omega), ?_, ?_, fun _ => ?_, fun _ => by simpa using hlen⟩
  · obtain ⟨N, e1⟩ := h.pre
    obtain ⟨N2, e2⟩ := hB.1
    exact ⟨N ++ N2, by rw [e2, e1, List.append_assoc]⟩
  · obtain ⟨M, e1, e2, e3⟩ := h.ends
    refine ⟨M ++ [L.length], by rw [e1, List.append_assoc], by simp [e2], fun k hk => ?_⟩
    by_cases hkj : k < j
    · obtain ⟨g1, g2⟩ := e3 k hkj
      have e4 : (M ++ [L.length]).getD k 0 = M.getD k 0 := by
        simp only [List.getD_eq_getElem?_getD]
        rw [List.getElem?_append_left (by omega)]
      rw [e4]
      refine ⟨by omega, fun f => ?_⟩
      rw [← g2 f]
      obtain ⟨N2, e5⟩ := hB.1
      rw [e5, List.take_append_of_le_length g1]
    · have e4 : (M ++ [L.length]).getD k 0 = L.length := by
        have : k = M.length := by omega
        subst this
        simp
      rw [e4]
      refine ⟨hpl, fun f => ?_⟩
      rw [hp, show k = j by omega]
      exact h.now f
  · intro f hfh
    rw [hp] at hfh
    exact (hm f).2 (.inr hfh)
  · intro f
    rw [hm f]
    show _ ↔ f ∈ stepL rs (iterL rs (setOf L0) j)
    rw [stepL_mem, h.now f, headsAll_same hr h.fit (hi j) h.now]
  · intro k hk
    by_cases e1 : k + 1 < j
    · exact h.grow k e1
    · have e2 : k + 1 = j := by omega
      have h3 := h.lst (by omega)
      rw [e2, hlen, show k = j - 1 by omega, h3]
      omega
  · rw [List.pairwise_append]
    exact ⟨h.up, by simp, fun a ha b hb => by
      have := h.ub a ha
      rw [List.mem_singleton.1 hb]
      omega⟩
  · intro x hx
    rcases List.mem_append.1 hx with h1 | h1
    · have := h.ub x h1
      omega
    · rw [List.mem_singleton.1 h1]
      exact Nat.le_refl _
  · by_cases e1 : 0 < j
    · exact h.first e1
    · have e2 : j = 0 := by omega
      subst e2
      obtain ⟨M, e3, e4, _⟩ := h.ends
      have e5 : M = [] := List.eq_nil_of_length_eq_zero e4
      subst e5
      rw [List.append_nil] at e3
      rw [← e3, h.last, ← h.zero rfl]
      exact hlt

/-- What growOn has done. -/
structure GrewOn (ar : List Int) (rs : List LRule) (L0 : List LFact) (E0 : List Nat) (L : List LFact) (E : List Nat) (m : Nat) : Prop where
  fit : FitL ar L
  pre : ∃ N, L = L0 ++ N
  rounds : RoundsM rs (setOf L0) m
  now : ∀ f, f ∈ L ↔ f ∈ iterL rs (setOf L0) m
  last : E.getLastD 0 = L.length
  up : E.Pairwise (· < ·)
  ub : ∀ x ∈ E, x ≤ L.length
  ends : (m = 0 ∧ E = E0 ∧ L = L0) ∨ (E0.getLastD 0 < L0.length ∧ ∃ M, E = E0 ++ M ∧ M.length = m + 1 ∧ ∀ k, k ≤ m → M.getD k 0 ≤ L.length ∧ ∀ f, f ∈ L.take (M.getD k 0) ↔ f ∈ iterL rs (setOf L0) k)
theorem OnInv.done {ar : List Int} {rs : List LRule} {L0 L : List LFact} {E0 E : List Nat} {e j : Nat} (hr : ∀ r ∈ rs, ruleFits ar r = true) (h0 : FitL ar L0) (h : OnInv ar rs L0 E0 L E e j) (hge : e = L.length) : ∃ m, GrewOn ar rs L0 E0 L E m := by
  have hS : FitL ar (setOf L0) := FitL.set h0.fits
  have hi := iterL_fit hr hS
  have hlen : (iterL rs (setOf L0) j).length = L.length := (set_len h.fit (hi j) h.now).symm
  have hte : L.take e = L := by rw [hge, List.take_length]
  obtain ⟨M, e1, e2, e3⟩ := h.ends
  by_cases hj : j = 0
  · subst hj
    have hz := h.zero rfl
    subst hz
    have hM : M = [] := List.eq_nil_of_length_eq_zero e2
    subst hM
    rw [List.append_nil] at e1
    subst e1
    refine ⟨0, h.fit, ⟨[], by simp⟩, ⟨fun k hk => absurd hk (by omega), ?_⟩, h.now, by rw [h.last, hge], h.up, fun x hx => by have := h.ub x hx; omega, .inl ⟨rfl, rfl, rfl⟩⟩
    refine set_len (hi 1) (hi 0) fun f => ?_
    show f ∈ stepL rs (setOf L) ↔ f ∈ setOf L
    rw [stepL_mem]
    refine ⟨fun h1 => h1.elim id fun h2 => ?_, .inl⟩
    have := h.heads f
    rw [hte] at this
    exact (setOf_mem L f).2 (this ((headsAll_same hr hS h.fit (setOf_mem L) f).1 h2))
  · have hl := h.lst (by omega)
    refine ⟨j - 1, h.fit, h.pre, ⟨fun k hk => h.grow k (by omega), ?_⟩, fun f => ?_, by rw [h.last, hge], h.up, fun x hx => by have := h.ub x hx; omega, .inr ⟨h.first (by omega), M, e1, by omega, fun k hk => e3 k (by omega)⟩⟩
    · rw [show j - 1 + 1 = j by omega, hlen, hl, hge]
    · obtain ⟨g1, g2⟩ := e3 (j - 1) (by omega)
      have hL : E.getLastD 0 = M.getD (j - 1) 0 := by
        rw [e1]
        have hM : M ≠ [] := fun e => by rw [e] at e2; simp at e2; omega
        obtain ⟨M', x, rfl⟩ : ∃ M' x, M = M' ++ [x] := ⟨M.dropLast, M.getLast hM, (List.dropLast_concat_getLast hM).symm⟩
        rw [← List.append_assoc, lastD_snoc]
        have e5 : j - 1 = M'.length := by rw [← e2]; simp
        rw [e5]
        simp
      have := g2 f
      rw [← hL, h.last, hte] at this
      exact this

/-- What growBy has done. -/
structure GrewBy (ar : List Int) (rs : List LRule) (L0 : List LFact) (E0 : List Nat) (L : List LFact) (E : List Nat) (m : Nat) : Prop where
  fit : FitL ar L
  pre : ∃ N, L = L0 ++ N
  rounds : RoundsM rs (setOf L0) m
  now : ∀ f, f ∈ L ↔ f ∈ iterL rs (setOf L0) m
  last : E.getLastD 0 = L.length
  up : E.Pairwise (· < ·)
  ub : ∀ x ∈ E, x ≤ L.length
  ends : ∃ M, E = E0 ++ M ∧ M.length = m ∧ ∀ k, k < m → M.getD k 0 ≤ L.length ∧ ∀ f, f ∈ L.take (M.getD k 0) ↔ f ∈ iterL rs (setOf L0) (k + 1)
theorem GrewBy.of {ar : List Int} {rs : List LRule} {L0 L1 L : List LFact} {E0 E : List Nat} {m : Nat} (hr : ∀ r ∈ rs, ruleFits ar r = true) (h0 : FitL ar L0) (h1 : FitL ar L1) (hl : E0.getLastD 0 = L0.length) (hpre : ∃ N, L1 = L0 ++ N)
    (hm : ∀ f, f ∈ L1 ↔ f ∈ L0 ∨ f ∈ headsAll rs L0) (h : GrewOn ar rs L1 E0 L E m) : ∃ m', GrewBy ar rs L0 E0 L E m' := by
  have hS : FitL ar (setOf L0) := FitL.set h0.fits
  have hi := iterL_fit hr hS
  have hst : setOf L1 = stepL rs (setOf L0) := by
    refine (setOf_asc L1).unique (setOf_asc _) fun f => ?_
    rw [stepL_mem, setOf_mem, setOf_mem, hm f, headsAll_same hr hS h0 (setOf_mem L0)]
  have hit : ∀ n, iterL rs (setOf L1) n = iterL rs (setOf L0) (n + 1) := fun n => by rw [hst, iter_succ]
  obtain ⟨N1, hN1⟩ := hpre
  have hpre2 : ∃ N, L = L0 ++ N := by
    obtain ⟨N, e⟩ := h.pre
    exact ⟨N1 ++ N, by rw [e, hN1, List.append_assoc]⟩
  rcases h.ends with ⟨e1, e2, e3⟩ | ⟨e1, M, e2, e3, e4⟩
  · subst e1 e2 e3
    have hN : N1 = [] := by
      have := h.last
      rw [hl, hN1, List.length_append] at this
      exact List.eq_nil_of_length_eq_zero (by omega)
    subst hN
    rw [List.append_nil] at hN1
    subst hN1
    exact ⟨0, h.fit, ⟨[], by simp⟩, h.rounds, h.now, h.last, h.up, h.ub, [], by simp, rfl, fun k hk => absurd hk (by omega)⟩
  · refine ⟨m + 1, h.fit, hpre2, ⟨fun k hk => ?_, ?_⟩, fun f => by rw [h.now f, hit], h.last, h.up, h.ub, M, e2, e3, fun k hk => ?_⟩
    · rcases k with _ | k
      · rw [← hit 0]
        show (setOf L1).length ≠ (setOf L0).length
        rw [setOf_len h0.nodup, setOf_len h1.nodup]
        omega
      · rw [← hit, ← hit]
        exact h.rounds.1 k (by omega)
    · rw [← hit, ← hit]
      exact h.rounds.2
    · obtain ⟨g1, g2⟩ := e4 k (by omega)
      exact ⟨g1, fun f => by rw [g2 f, hit]⟩

/-- How many rounds bring more. -/
def firstM (rs : List LRule) (F : List LFact) : Nat → Nat → Nat
  | 0, k => k
  | n + 1, k => if (iterL rs F (k + 1)).length = (iterL rs F k).length then k else firstM rs F n (k + 1)
theorem firstM_is {rs : List LRule} {F : List LFact} {m : Nat} (h : RoundsM rs F m) : ∀ n k, k ≤ m → m ≤ k + n → firstM rs F n k = m
  | 0, k, h1, h2 => by show k = m; omega
  | n + 1, k, h1, h2 => by
    show (if _ then _ else _) = m
    by_cases e : k = m
    · subst e
      rw [if_pos h.2]
    · rw [if_neg (h.1 k (by omega))]
      exact firstM_is h n (k + 1) (by omega) (by omega)
theorem iter_len_mono {rs : List LRule} {F : List LFact} {m : Nat} (h : ∀ k, k < m → (iterL rs F (k + 1)).length ≠ (iterL rs F k).length) (hF : F.Nodup) (hn : ∀ k, (iterL rs F k).Nodup) : ∀ k, k ≤ m → k ≤ (iterL rs F k).length
  | 0, _ => Nat.zero_le _
  | k + 1, hk => by
    have ih := iter_len_mono h hF hn k (by omega)
    have h1 := h k (by omega)
    have h2 := nodup_sub (hn k) (m := iterL rs F (k + 1)) fun f hf => (stepL_mem f).2 (.inl hf)
    omega
theorem RoundsM.few {ar : List Int} {rs : List LRule} {F : List LFact} {m : Nat} (har : arityOk ar = true) (hr : ∀ r ∈ rs, ruleFits ar r = true) (hF : FitL ar F) (h : RoundsM rs F m) : m ≤ 1536 := by
  have hi := iterL_fit hr hF
  have h1 := iter_len_mono h.1 hF.nodup (fun k => (hi k).nodup) m (Nat.le_refl _)
  have h2 := (facts_few har (hi m).nodup (hi m).fits).1
  omega
def roundsM (rs : List LRule) (F : List LFact) : Nat := firstM rs F 2000 0
theorem roundsM_is {ar : List Int} {rs : List LRule} {F : List LFact} {m : Nat} (har : arityOk ar = true) (hr : ∀ r ∈ rs, ruleFits ar r = true) (hF : FitL ar F) (h : RoundsM rs F m) : roundsM rs F = m :=
  firstM_is h 2000 0 (Nat.zero_le _) (by have := h.few har hr hF; omega)
/-- The facts behind each round. -/
def roundsFrom (rs : List LRule) (F : List LFact) : List (List LFact) := (List.range (roundsM rs F + 1)).map (iterL rs F)
def leastFrom (rs : List LRule) (F : List LFact) : List LFact := iterL rs F (roundsM rs F)

end Go.Proofs.YtofkcmihcgmmpaaGreat
/-
  The solutions that use a new fact: plain mathematics. No walk.
-/
namespace Go.Proofs.YtofkcmihcgmmpaaGreat
open Go.RowKit

/-- A solution uses a new fact. -/
def usesF (fr : List LFact) (ls : List LLit) (b : List Int) : Bool := ls.any fun l => decide (l.1 = 0) && (headOk l.2 b && factsHas fr (headOf l.2 b))
def freshL (fs fr : List LFact) (ls : List LLit) : List (List Int) := if bodySafe ls && (constsL fs && constsL fr) then (solsOf (setOf (fs ++ fr)) ls).filter (usesF fr ls) else []
/-- What is asked of each literal. -/
def agesL (fs fr : List LFact) (n : Nat) : List LAge := List.replicate n (fs ++ fr, pickL fs fr false, fr)
theorem agesL_at {fs fr : List LFact} {n j : Nat} (h : j < n) : ageD (agesL fs fr n) j = (fs ++ fr, pickL fs fr false, fr) := by simp [ageD, agesL, List.getD_eq_getElem?_getD, h]
theorem pickF_in (a b : List LFact) (f : LFact) : f ∈ pickL a b false ↔ f ∈ a ∧ f ∉ b := by
  unfold pickL
  rw [setOf_mem, List.mem_filter, factsHas_in]
  simp
theorem usesF_iff {fr : List LFact} {ls : List LLit} {b : List Int} : usesF fr ls b = true ↔ ∃ i, i < ls.length ∧ (litD ls i).1 = 0 ∧ litHolds fr (litD ls i) b = true := by
  unfold usesF
  rw [List.any_eq_true]
  constructor
  · rintro ⟨l, hl, h⟩
    obtain ⟨i, hi, rfl⟩ := List.getElem_of_mem hl
    simp only [Bool.and_eq_true, decide_eq_true_eq] at h
    refine ⟨i, hi, by rw [litD_lt hi]; exact h.1, ?_⟩
    rw [litD_lt hi, hold_yes h.1]
    have h2 := h.2.2
    rw [factsHas_in] at h2
    exact ⟨h.2.1, by simpa using h2⟩
  · rintro ⟨i, hi, h0, h1⟩
    refine ⟨ls[i], List.getElem_mem hi, ?_⟩
    rw [litD_lt hi] at h0 h1
    rw [hold_yes h0] at h1
    simp only [Bool.and_eq_true, decide_eq_true_eq]
    exact ⟨h0, h1.1, by rw [factsHas_in]; simpa using h1.2⟩
theorem consts_append {fs fr : List LFact} (h : constsL fs = true) (h2 : constsL fr = true) : ∀ f ∈ fs ++ fr, f.2.all constOk = true := fun f hf => by
  rcases List.mem_append.1 hf with hf | hf
  · exact consts_of h f hf
  · exact consts_of h2 f hf
theorem freshL_all {fs fr : List LFact} {ls : List LLit} (h : bodySafe ls = true) (hc : constsL fs = true) (hc2 : constsL fr = true) : UpB (solsOf (setOf (fs ++ fr)) ls) ∧ IsSols (questL (fs ++ fr) ls) (solsOf (setOf (fs ++ fr)) ls) :=
  solsOf_is (SafeB.of h) (fun f hf => consts_append hc hc2 f ((setOf_mem _ f).1 hf)) (asc_nodup (setOf_asc _)) (setOf_mem _)
theorem freshL_yes {fs fr : List LFact} {ls : List LLit} (h : bodySafe ls = true) (hc : constsL fs = true) (hc2 : constsL fr = true) : freshL fs fr ls = (solsOf (setOf (fs ++ fr)) ls).filter (usesF fr ls) := by
  unfold freshL
  rw [h, hc, hc2]
  rfl
theorem freshL_is {fs fr : List LFact} {ls : List LLit} (h : bodySafe ls = true) (hc : constsL fs = true) (hc2 : constsL fr = true) {S : List (List Int)} (hu : UpB S) (hs : ∀ b, b ∈ S ↔ FreshSol ls (agesL fs fr ls.length) b) : S = freshL fs fr ls := by
  rw [freshL_yes h hc hc2]
  obtain ⟨h1, h2⟩ := freshL_all h hc hc2
  refine hu.unique (List.Pairwise.filter _ h1) fun b => ?_
  rw [hs b, List.mem_filter, (isSols_iff.1 h2).2 b]
  rw [fresh_all (SafeB.of h) fun j hj f => by
    rw [agesL_at hj]
    show f ∈ fs ++ fr ↔ f ∈ pickL fs fr false ∨ f ∈ fr
    rw [List.mem_append, pickF_in]
    constructor
    · rintro (h3 | h3)
      · by_cases h4 : f ∈ fr
        · exact .inr h4
        · exact .inl ⟨h3, h4⟩
      · exact .inr h3
    · rintro (h3 | h3)
      · exact .inl h3.1
      · exact .inr h3]
  rw [usesF_iff]
  unfold SolOf
  constructor
  · rintro ⟨a1, a2, a3, i, hi, a4, a5⟩
    refine ⟨⟨a1, a2, fun l hl => ?_⟩, i, hi, a4, ?_⟩
    · obtain ⟨j, hj, rfl⟩ := List.getElem_of_mem hl
      have := a3 j hj
      rw [agesL_at hj, litD_lt hj] at this
      exact this
    · rw [agesL_at hi] at a5
      exact a5
  · rintro ⟨⟨a1, a2, a3⟩, i, hi, a4, a5⟩
    refine ⟨a1, a2, fun j hj => ?_, i, hi, a4, ?_⟩
    · rw [agesL_at hj]
      exact a3 _ (litD_mem hj)
    · rw [agesL_at hi]
      exact a5
theorem freshL_sz (fs fr : List LFact) (ls : List LLit) : szRows (freshL fs fr ls) ≤ 1048576 ∧ (∀ b ∈ freshL fs fr ls, bindOk b = true) ∧ (freshL fs fr ls).length ≤ 65536 := by
  unfold freshL
  split
  · rename_i h
    rw [Bool.and_eq_true, Bool.and_eq_true] at h
    obtain ⟨_, h2⟩ := freshL_all h.1 h.2.1 h.2.2
    have hl := binds_len h2.1 h2.ok
    have hf := List.length_filter_le (usesF fr ls) (solsOf (setOf (fs ++ fr)) ls)
    have hok : ∀ b ∈ (solsOf (setOf (fs ++ fr)) ls).filter (usesF fr ls), bindOk b = true := fun b hb => h2.ok b (List.mem_filter.1 hb).1
    have ht := totSS_few (n := 65536) (xss := (solsOf (setOf (fs ++ fr)) ls).filter (usesF fr ls)) (by omega) (m := 4) fun b hb => by rw [bindOk_len (hok b hb)]; exact Nat.le_refl _
    refine ⟨?_, hok, by omega⟩
    unfold szRows
    omega
  · simp [szRows, totSS]

end Go.Proofs.YtofkcmihcgmmpaaGreat
/-
  The solutions that were and those that use a new fact, merged: plain mathematics. No walk.
-/
namespace Go.Proofs.YtofkcmihcgmmpaaGreat
open Go.RowKit

theorem holds_grow {fs fr : List LFact} {l : LLit} {b : List Int} (h : l.1 ≠ 1) (h2 : litHolds fs l b = true) : litHolds (fs ++ fr) l b = true := by
  by_cases h0 : l.1 = 0
  · rw [hold_yes h0] at h2 ⊢
    exact ⟨h2.1, List.mem_append_left _ h2.2⟩
  · unfold litHolds at h2 ⊢
    by_cases hk : l.1 = 2 ∨ l.1 = 3
    · rw [if_pos hk] at h2 ⊢
      exact h2
    · rw [if_neg hk, Bool.and_eq_true, Bool.and_eq_true] at h2
      have := h2.1.2
      simp only [decide_eq_true_eq] at this
      omega
theorem holds_old {fs fr : List LFact} {l : LLit} {b : List Int} (h : l.1 ≠ 1) (h2 : litHolds (fs ++ fr) l b = true) (h3 : l.1 = 0 → headOf l.2 b ∉ fr) : litHolds fs l b = true := by
  by_cases h0 : l.1 = 0
  · rw [hold_yes h0] at h2 ⊢
    refine ⟨h2.1, (List.mem_append.1 h2.2).resolve_right (h3 h0)⟩
  · unfold litHolds at h2 ⊢
    by_cases hk : l.1 = 2 ∨ l.1 = 3
    · rw [if_pos hk] at h2 ⊢
      exact h2
    · rw [if_neg hk, Bool.and_eq_true, Bool.and_eq_true] at h2
      have := h2.1.2
      simp only [decide_eq_true_eq] at this
      omega
/-- Without LitNo: what was a solution before is one that uses no new fact. -/
theorem old_is {fs fr : List LFact} {ls : List LLit} (h : bodySafe ls = true) (hc : constsL fs = true) (hc2 : constsL fr = true) (hp : ∀ l ∈ ls, l.1 ≠ 1) (hd : ∀ f ∈ fs, f ∉ fr) : solsOf (setOf fs) ls = (solsOf (setOf (fs ++ fr)) ls).filter fun b => !usesF fr ls b := by
  obtain ⟨h1, h2⟩ := freshL_all h hc hc2
  obtain ⟨g1, g2⟩ := solsOf_is (SafeB.of h) (fun f hf => consts_of hc f ((setOf_mem fs f).1 hf)) (asc_nodup (setOf_asc fs)) (setOf_mem fs)
  refine g1.unique (List.Pairwise.filter _ h1) fun b => ?_
  rw [List.mem_filter, (isSols_iff.1 h2).2 b, (isSols_iff.1 g2).2 b]
  unfold SolOf
  constructor
  · rintro ⟨a1, a2, a3⟩
    refine ⟨⟨a1, a2, fun l hl => holds_grow (hp l hl) (a3 l hl)⟩, ?_⟩
    rw [Bool.not_eq_true', Bool.eq_false_iff]
    intro hu
    obtain ⟨i, hi, b0, b1⟩ := usesF_iff.1 hu
    have := a3 _ (litD_mem hi)
    rw [hold_yes b0] at this b1
    exact hd _ this.2 b1.2
  · rintro ⟨⟨a1, a2, a3⟩, hu⟩
    refine ⟨a1, a2, fun l hl => holds_old (hp l hl) (a3 l hl) fun h0 hin => ?_⟩
    rw [Bool.not_eq_true', Bool.eq_false_iff] at hu
    obtain ⟨i, hi, rfl⟩ := List.getElem_of_mem hl
    refine hu (usesF_iff.2 ⟨i, hi, by rw [litD_lt hi]; exact h0, ?_⟩)
    rw [litD_lt hi, hold_yes h0]
    exact ⟨((hold_yes h0).1 (a3 _ hl)).1, hin⟩

/-- How far two lists that a filter splits are read when so much of the whole is. -/
def splitK {α : Type} (p : α → Bool) (W : List α) (i : Nat) : Nat := ((W.take i).filter p).length
theorem split_step {α : Type} (p : α → Bool) {W : List α} {i : Nat} (hi : i < W.length) : splitK p W (i + 1) = splitK p W i + (if p W[i] = true then 1 else 0) := by
  unfold splitK
  rw [List.take_succ_eq_append_getElem hi, List.filter_append, List.length_append]
  by_cases h : p W[i] = true
  · simp [List.filter_cons_of_pos h, if_pos h]
  · simp [List.filter_cons_of_neg h, if_neg h]
theorem split_end {α : Type} (p : α → Bool) (W : List α) : splitK p W W.length = (W.filter p).length := by
  unfold splitK
  rw [List.take_length]
theorem split_at {α : Type} (p : α → Bool) {W : List α} {i : Nat} : W.filter p = (W.take i).filter p ++ (W.drop i).filter p := by
  rw [← List.filter_append, List.take_append_drop]
theorem split_rest {α : Type} (p : α → Bool) {W : List α} {i : Nat} : (W.filter p).drop (splitK p W i) = (W.drop i).filter p := by
  rw [split_at p (i := i), show splitK p W i = ((W.take i).filter p).length from rfl]
  simp
/-- The next of the whole is the next of the first list iff the filter takes it. -/
theorem split_next {α : Type} (p : α → Bool) {W : List α} {i : Nat} (hi : i < W.length) : (W.filter p)[splitK p W i]? = some W[i] ↔ p W[i] = true := by
  have h : (W.filter p)[splitK p W i]? = ((W.drop i).filter p)[0]? := by
    rw [← split_rest p, List.getElem?_drop, Nat.add_zero]
  rw [h, List.drop_eq_getElem_cons hi]
  by_cases hp : p W[i] = true
  · rw [List.filter_cons_of_pos hp]
    simp [hp]
  · rw [List.filter_cons_of_neg hp]
    refine ⟨fun h2 => ?_, fun h2 => absurd h2 hp⟩
    have h3 := List.mem_of_getElem? h2
    exact (List.mem_filter.1 h3).2

theorem constsL_append {fs fr : List LFact} : constsL (fs ++ fr) = (constsL fs && constsL fr) := by
  unfold constsL
  rw [List.all_append]
theorem constsL_setOf (fs : List LFact) : constsL (setOf fs) = constsL fs := by
  unfold constsL
  rw [Bool.eq_iff_iff, List.all_eq_true, List.all_eq_true]
  exact ⟨fun h f hf => h f ((setOf_mem fs f).2 hf), fun h f hf => h f ((setOf_mem fs f).1 hf)⟩
theorem setOf_twice (fs : List LFact) : setOf (setOf fs) = setOf fs := (setOf_asc _).unique (setOf_asc _) fun f => by rw [setOf_mem]
/-- The solutions in the facts of both lists. -/
theorem whole_is (fs fr : List LFact) (ls : List LLit) : solsL (setOf (fs ++ fr)) ls = if bodySafe ls && (constsL fs && constsL fr) then solsOf (setOf (fs ++ fr)) ls else [] := by
  unfold solsL
  rw [constsL_setOf, constsL_append, setOf_twice]
theorem fresh_is (fs fr : List LFact) (ls : List LLit) : freshL fs fr ls = (solsL (setOf (fs ++ fr)) ls).filter (usesF fr ls) := by
  rw [whole_is]
  unfold freshL
  split
  · rfl
  · rfl
theorem fresh_few (fs fr : List LFact) (ls : List LLit) : (freshL fs fr ls).length ≤ (solsL (setOf (fs ++ fr)) ls).length := by
  rw [fresh_is]
  exact List.length_filter_le _ _
theorem fresh_none {fs fr : List LFact} {ls : List LLit} (h : constsL fr = false) : freshL fs fr ls = [] := by
  unfold freshL
  rw [h, Bool.and_false, Bool.and_false]
  rfl
/-- Without LitNo: the solutions that were are those of the whole that use no new fact. -/
theorem old_split {fs fr : List LFact} {ls : List LLit} (hc2 : constsL fr = true) (hp : ∀ l ∈ ls, l.1 ≠ 1) (hd : ∀ f ∈ fs, f ∉ fr) : solsL fs ls = (solsL (setOf (fs ++ fr)) ls).filter fun b => !usesF fr ls b := by
  rw [whole_is]
  unfold solsL
  rw [hc2, Bool.and_true]
  split
  · rename_i h
    rw [Bool.and_eq_true] at h
    exact old_is h.1 h.2 hc2 hp hd
  · rfl
/-- One step of the merging loop: the next of the whole is the next of those that use a new fact, or of those that were. -/
theorem merge_step {fs fr : List LFact} {ls : List LLit} (hc2 : constsL fr = true) (hp : ∀ l ∈ ls, l.1 ≠ 1) (hd : ∀ f ∈ fs, f ∉ fr) {W : List (List Int)} (hW : W = solsL (setOf (fs ++ fr)) ls) {i : Nat} (hi : i < W.length) :
    ((freshL fs fr ls)[splitK (usesF fr ls) W i]? = some W[i] ∧ splitK (usesF fr ls) W (i + 1) = splitK (usesF fr ls) W i + 1 ∧ splitK (fun b => !usesF fr ls b) W (i + 1) = splitK (fun b => !usesF fr ls b) W i)
    ∨ ((freshL fs fr ls)[splitK (usesF fr ls) W i]? ≠ some W[i] ∧ (solsL fs ls)[splitK (fun b => !usesF fr ls b) W i]? = some W[i] ∧ splitK (usesF fr ls) W (i + 1) = splitK (usesF fr ls) W i ∧ splitK (fun b => !usesF fr ls b) W (i + 1) = splitK (fun b => !usesF fr ls b) W i + 1) := by
  have e1 : freshL fs fr ls = W.filter (usesF fr ls) := by rw [hW]; exact fresh_is fs fr ls
  have e2 : solsL fs ls = W.filter fun b => !usesF fr ls b := by rw [hW]; exact old_split hc2 hp hd
  rw [e1, e2]
  by_cases hu : usesF fr ls W[i] = true
  · refine .inl ⟨(split_next _ hi).2 hu, ?_, ?_⟩
    · rw [split_step _ hi, if_pos hu]
    · rw [split_step _ hi, if_neg (by simp [hu])]; rfl
  · refine .inr ⟨fun h => hu ((split_next _ hi).1 h), (split_next _ hi).2 (by simp [hu]), ?_, ?_⟩
    · rw [split_step _ hi, if_neg hu]; rfl
    · rw [split_step _ hi, if_pos (by simp [hu])]
theorem merge_end {fs fr : List LFact} {ls : List LLit} (hc2 : constsL fr = true) (hp : ∀ l ∈ ls, l.1 ≠ 1) (hd : ∀ f ∈ fs, f ∉ fr) {W : List (List Int)} (hW : W = solsL (setOf (fs ++ fr)) ls) : splitK (usesF fr ls) W W.length = (freshL fs fr ls).length ∧ splitK (fun b => !usesF fr ls b) W W.length = (solsL fs ls).length := by
  rw [split_end, split_end, fresh_is, old_split hc2 hp hd, hW]
  exact ⟨rfl, rfl⟩

end Go.Proofs.YtofkcmihcgmmpaaGreat
/-
  What has grown, in memory: a block of 98 cells, and 26 rows.
-/
namespace Go.Proofs.YtofkcmihcgmmpaaGreat
open Go.RowKit

/-- A fact with the header of its row. -/
abbrev FV := LFact × Value
def flatX (X : List FV) : List Value := X.flatMap fun x => [.int .i64 x.1.1, x.2]
theorem flatX_len (X : List FV) : (flatX X).length = X.length * 2 := by
  induction X with
  | nil => rfl
  | cons x X ih =>
    show (_ ++ flatX X).length = _
    rw [List.length_append, ih, List.length_cons, List.length_cons, List.length_cons, List.length_nil]
    omega
theorem flatX_append (X Y : List FV) : flatX (X ++ Y) = flatX X ++ flatX Y := by simp [flatX]
theorem flatX_one (f : LFact) (a : Value) : flatX [(f, a)] = [.int .i64 f.1, a] := rfl
theorem flatX_at : ∀ (X : List FV) (k : Nat) (h : k < X.length), (flatX X)[k * 2]? = some (.int .i64 X[k].1.1) ∧ (flatX X)[k * 2 + 1]? = some X[k].2
  | [], _, h => absurd h (by simp)
  | x :: X, 0, _ => by simp [flatX]
  | x :: X, k + 1, h => by
    obtain ⟨h1, h2⟩ := flatX_at X k (by simpa using h)
    have e : flatX (x :: X) = .int .i64 x.1.1 :: x.2 :: flatX X := rfl
    rw [e, show (k + 1) * 2 = k * 2 + 1 + 1 by omega, show k * 2 + 1 + 1 + 1 = (k * 2 + 1) + 1 + 1 by omega]
    simp only [List.getElem?_cons_succ, List.getElem_cons_succ]
    exact ⟨h1, h2⟩

def wdN (x : Nat) : Value := .int .u64 ((x : Nat) : Int)
def inN (x : Nat) : Value := .int .i64 ((x : Nat) : Int)
/-- The cells of the block. -/
structure GrCells (cs : Array Value) (R : Nat → Value) (T : List Nat) (O La : Nat → Nat) : Prop where
  size : cs.size = 98
  list : cs[0]? = some (R 0)
  ends : cs[1]? = some (R 1)
  tab : ∀ p, p < 24 → cs[2 + p]? = some (wdN (T.getD p 0))
  pred : ∀ p, p < 24 → cs[26 + p * 3]? = some (R (2 + p))
  old : ∀ p, p < 24 → cs[26 + p * 3 + 1]? = some (inN (O p))
  lat : ∀ p, p < 24 → cs[26 + p * 3 + 2]? = some (inN (La p))
def updF {α : Type} (F : Nat → α) (r : Nat) (v : α) : Nat → α := fun s => if s = r then v else F s
theorem updF_same {α : Type} (F : Nat → α) (r : Nat) (v : α) : updF F r v r = v := if_pos rfl
theorem updF_ne {α : Type} (F : Nat → α) {r s : Nat} (v : α) (h : s ≠ r) : updF F r v s = F s := if_neg h
section
variable {cs : Array Value} {R : Nat → Value} {T : List Nat} {O La : Nat → Nat} {i p : Nat} {u : Value}
theorem set_at_ne (h : i ≠ p) : (cs.setIfInBounds i u)[p]? = cs[p]? := by rw [Array.getElem?_setIfInBounds, if_neg h]
theorem set_at_same (h : i < cs.size) : (cs.setIfInBounds i u)[i]? = some u := by rw [Array.getElem?_setIfInBounds, if_pos rfl, if_pos h]
theorem GrCells.setList (h : GrCells cs R T O La) (u : Value) : GrCells (cs.setIfInBounds 0 u) (updF R 0 u) T O La where
  size := by simpa using h.size
  list := by rw [updF_same]; exact set_at_same (by rw [h.size]; omega)
  ends := by rw [updF_ne R u (by omega), set_at_ne (by omega)]; exact h.ends
  tab p hp := by rw [set_at_ne (by omega)]; exact h.tab p hp
  pred p hp := by rw [updF_ne R u (by omega), set_at_ne (by omega)]; exact h.pred p hp
  old p hp := by rw [set_at_ne (by omega)]; exact h.old p hp
  lat p hp := by rw [set_at_ne (by omega)]; exact h.lat p hp
theorem GrCells.setEnds (h : GrCells cs R T O La) (u : Value) : GrCells (cs.setIfInBounds 1 u) (updF R 1 u) T O La where
  size := by simpa using h.size
  list := by rw [updF_ne R u (by omega), set_at_ne (by omega)]; exact h.list
  ends := by rw [updF_same]; exact set_at_same (by rw [h.size]; omega)
  tab p hp := by rw [set_at_ne (by omega)]; exact h.tab p hp
  pred p hp := by rw [updF_ne R u (by omega), set_at_ne (by omega)]; exact h.pred p hp
  old p hp := by rw [set_at_ne (by omega)]; exact h.old p hp
  lat p hp := by rw [set_at_ne (by omega)]; exact h.lat p hp
theorem GrCells.setPred (h : GrCells cs R T O La) (hp : p < 24) (u : Value) : GrCells (cs.setIfInBounds (26 + p * 3) u) (updF R (2 + p) u) T O La where
  size := by simpa using h.size
  list := by rw [updF_ne R u (by omega), set_at_ne (by omega)]; exact h.list
  ends := by rw [updF_ne R u (by omega), set_at_ne (by omega)]; exact h.ends
  tab q hq := by rw [set_at_ne (by omega)]; exact h.tab q hq
  pred q hq := by
    by_cases e : q = p
    · subst e
      rw [updF_same]
      exact set_at_same (by rw [h.size]; omega)
    · rw [updF_ne R u (by omega), set_at_ne (by omega)]
      exact h.pred q hq
  old q hq := by rw [set_at_ne (by omega)]; exact h.old q hq
  lat q hq := by rw [set_at_ne (by omega)]; exact h.lat q hq
theorem GrCells.setTab (h : GrCells cs R T O La) (hT : T.length = 24) (hp : p < 24) (x : Nat) : GrCells (cs.setIfInBounds (2 + p) (wdN x)) R (T.set p x) O La where
  size := by simpa using h.size
  list := by rw [set_at_ne (by omega)]; exact h.list
  ends := by rw [set_at_ne (by omega)]; exact h.ends
  tab q hq := by
    by_cases e : q = p
    · subst e
      rw [set_at_same (by rw [h.size]; omega)]
      simp [hT, hq]
    · rw [set_at_ne (by omega), h.tab q hq]
      simp only [List.getD_eq_getElem?_getD]
      rw [List.getElem?_set_ne (by omega)]
  pred q hq := by rw [set_at_ne (by omega)]; exact h.pred q hq
  old q hq := by rw [set_at_ne (by omega)]; exact h.old q hq
  lat q hq := by rw [set_at_ne (by omega)]; exact h.lat q hq
theorem GrCells.setOld (h : GrCells cs R T O La) (hp : p < 24) (x : Nat) : GrCells (cs.setIfInBounds (26 + p * 3 + 1) (inN x)) R T (updF O p x) La where
  size := by simpa using h.size
  list := by rw [set_at_ne (by omega)]; exact h.list
  ends := by rw [set_at_ne (by omega)]; exact h.ends
  tab q hq := by rw [set_at_ne (by omega)]; exact h.tab q hq
  pred q hq := by rw [set_at_ne (by omega)]; exact h.pred q hq
  old q hq := by
    by_cases e : q = p
    · subst e
      rw [updF_same]
      exact set_at_same (by rw [h.size]; omega)
    · rw [updF_ne O x e, set_at_ne (by omega)]
      exact h.old q hq
  lat q hq := by rw [set_at_ne (by omega)]; exact h.lat q hq
theorem GrCells.setLat (h : GrCells cs R T O La) (hp : p < 24) (x : Nat) : GrCells (cs.setIfInBounds (26 + p * 3 + 2) (inN x)) R T O (updF La p x) where
  size := by simpa using h.size
  list := by rw [set_at_ne (by omega)]; exact h.list
  ends := by rw [set_at_ne (by omega)]; exact h.ends
  tab q hq := by rw [set_at_ne (by omega)]; exact h.tab q hq
  pred q hq := by rw [set_at_ne (by omega)]; exact h.pred q hq
  old q hq := by rw [set_at_ne (by omega)]; exact h.old q hq
  lat q hq := by
    by_cases e : q = p
    · subst e
      rw [updF_same]
      exact set_at_same (by rw [h.size]; omega)
    · rw [updF_ne La x e, set_at_ne (by omega)]
      exact h.lat q hq
end

/-- A block of one of the rows. -/
def RB (R : Nat → Value) (b : Nat) : Prop := ∃ r, r < 26 ∧ (R r).ownBlock = some b
/-- A header that reads as the fact's constants, in no block that the growth writes. -/
def ArgOk (w : World) (g : Nat) (R : Nat → Value) (x : FV) : Prop := RdInts w w.heap.size x.2 x.1.2 ∧ (0 < x.1.2.length → ∀ b, x.2.ownBlock = some b → b ≠ g ∧ ¬ RB R b)
/-- What a step of the growth keeps: all but its block and its rows; a row that moves, moves to new memory. -/
structure KeepR (g : Nat) (w : World) (R : Nat → Value) (w' : World) (R' : Nat → Value) : Prop where
  below : Below g w w'
  keep : ∀ k, k < w.heap.size → k ≠ g → ¬ RB R k → w'.heap[k]? = w.heap[k]?
  rows : ∀ b, RB R' b → RB R b ∨ w.heap.size ≤ b
theorem KeepR.refl (g : Nat) (w : World) (R : Nat → Value) : KeepR g w R w R := ⟨Below.refl _ _, fun _ _ _ _ => rfl, fun _ h => .inl h⟩
theorem KeepR.trans {g : Nat} {w w1 w2 : World} {R R1 R2 : Nat → Value} (h : KeepR g w R w1 R1) (k : KeepR g w1 R1 w2 R2) : KeepR g w R w2 R2 := by
  have hs := h.below.size
  refine ⟨h.below.trans k.below, fun j h1 h2 h3 => (k.keep j (by omega) h2 fun e => ?_).trans (h.keep j h1 h2 h3), fun b hb => ?_⟩
  · rcases h.rows j e with e2 | e2
    · exact h3 e2
    · omega
  · rcases k.rows b hb with e | e
    · exact h.rows b e
    · exact .inr (by omega)
theorem KeepR.of_below {g : Nat} {w w' : World} {R : Nat → Value} (h : Below w.heap.size w w') (hg : g ≤ w.heap.size) : KeepR g w R w' R := ⟨h.mono hg, fun k h1 _ _ => h.block k h1, fun _ h => .inl h⟩
theorem KeepR.setG {g : Nat} {w w' : World} {R R' : Nat → Value} (h : KeepR g w R w' R') (i : Nat) (u : Value) : KeepR g w R (w'.setCell ⟨g, i, none⟩ u) R' :=
  ⟨h.below.setCell (Nat.le_refl _) _, fun k h1 h2 h3 => (Below.heap_setCell _ _ _ k h2).trans (h.keep k h1 h2 h3), h.rows⟩

theorem rdInts_only {w w' : World} {B B' : Nat} {v : Value} {xs : List Int} (h : RdInts w B v xs) (hB : B ≤ B') (hk : 0 < xs.length → ∀ b, v.ownBlock = some b → w'.heap[b]? = w.heap[b]?) : RdInts w' B' v xs := by
  obtain ⟨A, c, rfl, hc, h⟩ := h
  refine ⟨A, c, rfl, hc, fun h0 => ?_⟩
  obtain ⟨b, o, rfl, hb, hx⟩ := h h0
  refine ⟨b, o, rfl, by omega, fun k hk' => ?_⟩
  rw [World.cell?_of_block (hk h0 b rfl)]
  exact hx k hk'

section
variable {w w' w4 : World} {g r i : Nat} {XL : List FV} {E : List Nat} {XP : Nat → List FV} {O La : Nat → Nat} {T : List Nat} {R : Nat → Value} {v' u : Value}
theorem ArgOk.on {x : FV} (h : ArgOk w g R x) (hb : Below w.heap.size w w') : ArgOk w' g R x := ⟨h.1.on hb, h.2⟩
/-- A row has grown, and its header is set anew. -/
structure Grew (w : World) (g : Nat) (R : Nat → Value) (r i : Nat) (v' : Value) (w4 : World) : Prop where
  grown : w.grownBy w4 (R r).ownBlock
  at_ : ∀ b, v'.ownBlock = some b → (R r).ownBlock = some b ∨ w.heap.size ≤ b
theorem Grew.rb (_k : Grew w g R r i v' w4) {b : Nat} (hb : RB (updF R r v') b) : RB R b ∨ v'.ownBlock = some b := by
  obtain ⟨s, hs, e⟩ := hb
  by_cases h : s = r
  · subst h
    rw [updF_same] at e
    exact .inr e
  · rw [updF_ne R v' h] at e
    exact .inl ⟨s, hs, e⟩
theorem Grew.new (_k : Grew w g R r i v' w4) {n size : Nat} {e : TypeId} {xs : List Value} (ho : w4.ownsRow (g + 1) e size v' n xs) : (w4.setCell ⟨g, i, none⟩ u).ownsRow (g + 1) e size (updF R r v' r) n xs := by
  rw [updF_same]
  exact ownsRow_only ho fun b hb => Below.heap_setCell _ _ _ b (by have := (ho.lt b hb).1; show b ≠ g; omega)
end

end Go.Proofs.YtofkcmihcgmmpaaGreat
/-
  A fact's bit in the table of what has grown.
-/
namespace Go.Proofs.YtofkcmihcgmmpaaGreat
open Go.RowKit

theorem KeepR.drew {g : Nat} {w w' : World} {R R' : Nat → Value} (h : KeepR g w R w' R') : KeepR g w R w'.drew R' := ⟨h.below.drew, h.keep, h.rows⟩
section
variable {w : World} {g p : Nat} {XL : List FV} {E : List Nat} {XP : Nat → List FV} {O La : Nat → Nat} {T : List Nat} {R : Nat → Value}
end

end Go.Proofs.YtofkcmihcgmmpaaGreat
/-
  A fact is taken in behind the others.
-/
namespace Go.Proofs.YtofkcmihcgmmpaaGreat
open Go.RowKit

theorem ArgOk.keep {w w' : World} {g : Nat} {R R' : Nat → Value} {x : FV} (h : ArgOk w g R x) (k : KeepR g w R w' R') : ArgOk w' g R' x := by
  have hs := k.below.size
  have hlt : 0 < x.1.2.length → ∀ b, x.2.ownBlock = some b → b < w.heap.size := fun h0 b hb => by
    obtain ⟨A, c, e, _, h1⟩ := h.1
    obtain ⟨b2, o, rfl, hb2, _⟩ := h1 h0
    rw [e] at hb
    have : b2 = b := by simpa [Value.ownBlock] using hb
    omega
  refine ⟨rdInts_only h.1 hs fun h0 b hb => k.keep b (hlt h0 b hb) (h.2 h0 b hb).1 (h.2 h0 b hb).2, fun h0 b hb => ⟨(h.2 h0 b hb).1, fun e => ?_⟩⟩
  rcases k.rows b e with e2 | e2
  · exact (h.2 h0 b hb).2 e2
  · have := hlt h0 b hb
    omega

end Go.Proofs.YtofkcmihcgmmpaaGreat
/-
  What has grown, in memory, by its facts in the order in which they come and the ends of its rounds.
-/
namespace Go.Proofs.YtofkcmihcgmmpaaGreat
open Go.RowKit

def factsX (X : List FV) : List LFact := X.map (·.1)
def ofX (X : List FV) (p : Nat) : List FV := X.filter fun x => decide (x.1.1 = (p : Int))
theorem factsX_len (X : List FV) : (factsX X).length = X.length := by simp [factsX]
theorem factsX_append (X Y : List FV) : factsX (X ++ Y) = factsX X ++ factsX Y := by simp [factsX]
theorem ofX_append (X Y : List FV) (p : Nat) : ofX (X ++ Y) p = ofX X p ++ ofX Y p := by simp [ofX]
theorem ofX_facts (X : List FV) (p : Nat) : factsX (ofX X p) = ofP (factsX X) p := by
  induction X with
  | nil => rfl
  | cons x X ih =>
    unfold ofX factsX ofP at ih ⊢
    by_cases e : x.1.1 = (p : Int)
    · simp [List.filter_cons, e]
      simpa using ih
    · simp [List.filter_cons, e]
      simpa using ih
theorem ofX_len (X : List FV) (p : Nat) : (ofX X p).length = (ofP (factsX X) p).length := by rw [← ofX_facts, factsX_len]
theorem ofX_le (X : List FV) (p : Nat) : (ofX X p).length ≤ X.length := List.length_filter_le _ _
theorem ofX_push (X : List FV) (p : Nat) (xs : List Int) (a : Value) : updF (ofX X) p (ofX X p ++ [(((p : Int), xs), a)]) = ofX (X ++ [(((p : Int), xs), a)]) := by
  funext q
  rw [ofX_append]
  by_cases e : q = p
  · subst e
    rw [updF_same]
    simp [ofX]
  · rw [updF_ne _ _ e]
    have : ¬ ((p : Int) = (q : Int)) := by omega
    simp [ofX, this]
/-- How many facts of each predicate came among the first n. -/
def cntX (X : List FV) (n : Nat) (p : Nat) : Nat := (ofP ((factsX X).take n) p).length
theorem cntX_push (X : List FV) (x : FV) {n : Nat} (h : n ≤ X.length) : cntX (X ++ [x]) n = cntX X n := by
  funext p
  unfold cntX
  rw [factsX_append, List.take_append_of_le_length (by rw [factsX_len]; exact h)]
theorem cntX_all (X : List FV) (p : Nat) : cntX X X.length p = (ofX X p).length := by
  unfold cntX
  rw [List.take_of_length_le (by rw [factsX_len]; exact Nat.le_refl _), ← ofX_len]
section
variable {w w' : World} {g o e : Nat} {X : List FV} {E : List Nat} {R : Nat → Value}
end
/-- A bit tells whether the fact is there. -/
theorem bit_fact {ar : List Int} {L : List LFact} {f : LFact} (ha : arityOk ar = true) (hL : ∀ x ∈ L, factFits ar x = true) (hf : factFits ar f = true) : ((tabWith zeroT L).getD f.1.toNat 0).testBit (numF f.2) = true ↔ f ∈ L := by
  have hp : f.1.toNat < zeroT.length := by
    have h1 := (fits_parts hf).1
    have h2 : ar.length ≤ 24 := by simp only [arityOk, Bool.and_eq_true, decide_eq_true_eq] at ha; exact ha.1
    simp [zeroT]
    omega
  rw [tabWith_bit _ _ hp, zero_bit]
  constructor
  · rintro (h | ⟨x, hx, h1, h2⟩)
    · cases h
    · rw [fact_of_bit ha hf (hL x hx) h1.symm h2.symm]
      exact hx
  · intro h
    exact .inr ⟨f, h, rfl, rfl⟩
theorem setBit_same {T : List Nat} {p n : Nat} (hp : p < T.length) (h : (T.getD p 0).testBit n = true) : setBit T p n = T := by
  unfold setBit
  have e : T.getD p 0 ||| 2 ^ n = T.getD p 0 := by
    apply Nat.eq_of_testBit_eq
    intro i
    rw [Nat.testBit_or, Nat.testBit_two_pow]
    by_cases e : n = i
    · subst e; rw [h]; rfl
    · simp [e]
  rw [e]
  have e2 : T.getD p 0 = T[p] := by simp [hp]
  rw [e2, List.set_getElem_self]
theorem fit24 {ar : List Int} {f : LFact} (ha : arityOk ar = true) (hf : factFits ar f = true) : 0 ≤ f.1 ∧ f.1 < 24 ∧ f.2.length ≤ 2 ∧ numF f.2 < 64 := by
  have h1 := fits_parts hf
  have h2 : ar.length ≤ 24 := by simp only [arityOk, Bool.and_eq_true, decide_eq_true_eq] at ha; exact ha.1
  have h3 := fits_short ha hf
  exact ⟨h1.1.1, by omega, h3, numF_64 h1.2 h3⟩
/-- A row of the facts of one predicate is read as facts. -/
theorem rdX {w : World} {g : Nat} {R : Nat → Value} {v : Value} {X : List FV} (h : w.ownsRow (g + 1) 35 2 v X.length (flatX X)) (ha : ∀ x ∈ X, ArgOk w g R x) {n : Nat} (hn : n ≤ X.length) {A : Option Addr} {c : Nat} (hv : v = .slice A X.length c) {c' : Nat} (hc : n ≤ c') :
    RdFacts w w.heap.size (.slice A n c') ((factsX X).take n) := by
  subst hv
  have hl : ((factsX X).take n).length = n := by simp [factsX]; omega
  refine ⟨A, c', by rw [hl], by rw [hl]; exact hc, fun h0 => ?_⟩
  rw [hl] at h0
  have hcells := @World.ownsRow.cells w (g + 1) 35 2 _ X.length (flatX X) h
  rcases h.2 with ⟨e, e0⟩ | ⟨b, cap, cur, e, hb, hg, _⟩
  · omega
  · injection e with e1 _ _
    subst e1
    refine ⟨b, 0, rfl, Blk.lt hg, fun k hk => ?_⟩
    have hkX : k < X.length := by rw [hl] at hk; omega
    obtain ⟨c0, c1⟩ := flatX_at X k hkX
    have d0 := hcells (g := b) rfl (k * 2) _ c0
    have d1 := hcells (g := b) rfl (k * 2 + 1) _ c1
    rw [Go.WideShapes.add_plain] at d0 d1
    have e3 : ((factsX X).take n)[k] = X[k].1 := by simp [factsX]
    rw [e3]
    exact ⟨X[k].2, d0, d1, (ha _ (List.getElem_mem hkX)).1⟩

end Go.Proofs.YtofkcmihcgmmpaaGreat
/-
  Facts are brought, as far as they are not there yet.
-/
namespace Go.Proofs.YtofkcmihcgmmpaaGreat
open Go.RowKit

theorem FitL.snoc {ar : List Int} {L : List LFact} {f : LFact} (h : FitL ar L) (hf : factFits ar f = true) (hn : f ∉ L) : FitL ar (L ++ [f]) :=
  ⟨(Brings.step h.nodup hn).2.1, fun g hg => by
    rcases List.mem_append.1 hg with hg | hg
    · exact h.fits g hg
    · rw [List.mem_singleton.1 hg]; exact hf⟩
theorem Brings.fit {ar : List Int} {L L' : List LFact} {X : LFact → Prop} (h : Brings L X L') (hL : FitL ar L) (hX : ∀ f, X f → factFits ar f = true) : FitL ar L' :=
  ⟨h.2.1, fun f hf => ((h.2.2 f).1 hf).elim (hL.fits f) (hX f)⟩
theorem Brings.cast {L L' : List LFact} {X Y : LFact → Prop} (h : Brings L X L') (e : ∀ f, X f ↔ Y f) : Brings L Y L' := ⟨h.1, h.2.1, fun f => by rw [h.2.2, e]⟩
end Go.Proofs.YtofkcmihcgmmpaaGreat
/-
  The heads of a rule for solutions are brought, aa far aa they are not there yet.
-/
namespace Go.Proofs.YtofkcmihcgmmpaaGreat
open Go.RowKit

theorem rdW_only {w w' : World} {B B' : Nat} {v : Value} {S : List (List Int)} (h : RdW w B v S) (hB : B ≤ B') (hk : 0 < S.length → ∀ b, v.ownBlock = some b → w'.heap[b]? = w.heap[b]?) : RdW w' B' v S := by
  obtain ⟨A, c, rfl, hc, h⟩ := h
  refine ⟨A, c, rfl, hc, fun h0 => ?_⟩
  obtain ⟨b, o, rfl, hb, hx⟩ := h h0
  refine ⟨b, o, rfl, by omega, fun k hk' => ?_⟩
  rw [World.cell?_of_block (hk h0 b rfl)]
  exact hx k hk'
/-- Solutions that are read, in no block that the growth writes. -/
def SolOk (w : World) (g : Nat) (R : Nat → Value) (v : Value) (S : List (List Int)) : Prop := RdW w w.heap.size v S ∧ (0 < S.length → ∀ b, v.ownBlock = some b → b ≠ g ∧ ¬ RB R b)
theorem SolOk.keep {w w' : World} {g : Nat} {R R' : Nat → Value} {v : Value} {S : List (List Int)} (h : SolOk w g R v S) (k : KeepR g w R w' R') : SolOk w' g R' v S := by
  have hs := k.below.size
  have hlt : 0 < S.length → ∀ b, v.ownBlock = some b → b < w.heap.size := fun h0 b hb => by
    obtain ⟨A, c, e, _, h1⟩ := h.1
    obtain ⟨b2, o, rfl, hb2, _⟩ := h1 h0
    rw [e] at hb
    have : b2 = b := by simpa [Value.ownBlock] using hb
    omega
  refine ⟨rdW_only h.1 hs fun h0 b hb => k.keep b (hlt h0 b hb) (h.2 h0 b hb).1 (h.2 h0 b hb).2, fun h0 b hb => ⟨(h.2 h0 b hb).1, fun e => ?_⟩⟩
  rcases k.rows b e with e2 | e2
  · exact (h.2 h0 b hb).2 e2
  · have := hlt h0 b hb
    omega
end Go.Proofs.YtofkcmihcgmmpaaGreat
/-
  Rows of facts by their ages: three cells each.
-/
namespace Go.Proofs.YtofkcmihcgmmpaaGreat
open Go.RowKit

abbrev AV := Value × Value × Value
def flatA : List AV → List Value
  | [] => []
  | u :: us => u.1 :: u.2.1 :: u.2.2 :: flatA us
theorem flatA_length : ∀ us : List AV, (flatA us).length = us.length * 3
  | [] => rfl
  | u :: us => by simp only [flatA, List.length_cons, flatA_length us]; omega
theorem flatA_append : ∀ us vs : List AV, flatA (us ++ vs) = flatA us ++ flatA vs
  | [], vs => rfl
  | u :: us, vs => by simp only [List.cons_append, flatA, flatA_append us vs]
theorem flatA_at : ∀ (us : List AV) (k : Nat) (h : k < us.length), (flatA us)[k * 3]? = some us[k].1 ∧ (flatA us)[k * 3 + 1]? = some us[k].2.1 ∧ (flatA us)[k * 3 + 2]? = some us[k].2.2
  | u :: us, 0, _ => ⟨rfl, rfl, rfl⟩
  | u :: us, k + 1, h => by
    have ih := flatA_at us k (by simpa using h)
    have e : ∀ r, (flatA (u :: us))[(k + 1) * 3 + r]? = (flatA us)[k * 3 + r]? := fun r => by
      rw [show (k + 1) * 3 + r = (k * 3 + r) + 1 + 1 + 1 by omega]
      rfl
    have e0 := e 0
    rw [Nat.add_zero, Nat.add_zero] at e0
    rw [e0, e 1, e 2]
    exact ih
/-- The ages' cells stand at the head of block g. -/
def AtA (w : World) (g c : Nat) (us : List AV) : Prop :=
  ∃ cur, w.heap[g]? = some (.cells cur 54 (0, 0)) ∧ us.length ≤ c ∧ c ≤ maxLen ∧ cur.size = c * 3 ∧ cur.toList.take (us.length * 3) = flatA us
def RdAges (w : World) (B : Nat) (us : List AV) (ag : List LAge) : Prop := us.length = ag.length ∧ ∀ k (h : k < us.length) (h2 : k < ag.length), RdFacts w B us[k].1 ag[k].1 ∧ RdFacts w B us[k].2.1 ag[k].2.1 ∧ RdFacts w B us[k].2.2 ag[k].2.2
section
variable {w w' : World} {g c lo hi B : Nat} {us : List AV} {ag : List LAge}
theorem AtA.lt (h : AtA w g c us) : g < w.heap.size := by
  obtain ⟨cur, hg, _⟩ := h
  exact Blk.lt hg
theorem AtA.cells (h : AtA w g c us) {k : Nat} (hk : k < us.length) : w.cell? ⟨g, k * 3, none⟩ = some us[k].1 ∧ w.cell? ⟨g, k * 3 + 1, none⟩ = some us[k].2.1 ∧ w.cell? ⟨g, k * 3 + 2, none⟩ = some us[k].2.2 := by
  obtain ⟨a, b, d⟩ := flatA_at us k hk
  obtain ⟨cur, hg, h1, h2, h3, h4⟩ := h
  have key : ∀ j, j < us.length * 3 → w.cell? ⟨g, j, none⟩ = (flatA us)[j]? := fun j hj => by
    rw [Blk.cell hg, ← h4, List.getElem?_take_of_lt hj, Array.getElem?_toList]
  exact ⟨by rw [key _ (by omega), a], by rw [key _ (by omega), b], by rw [key _ (by omega), d]⟩
theorem AtA.frozen (h : AtA w g c us) (j : Nat) : w.frozen? ⟨g, j, none⟩ = false := by
  obtain ⟨cur, hg, _⟩ := h
  exact Blk.frozen hg j
theorem AtA.below (h : AtA w g c us) (hb : Below B w w') (hg : g < B) : AtA w' g c us := by
  obtain ⟨cur, e, r⟩ := h
  exact ⟨cur, (hb.block g hg).trans e, r⟩
theorem AtA.free (h : AtA w g c us) {j : Nat} (hj : j < c * 3) : ∃ x, w.cell? ⟨g, j, none⟩ = some x := by
  obtain ⟨cur, hg, h1, h2, h3, h4⟩ := h
  exact ⟨cur[j]'(by omega), by rw [Blk.cell hg, Array.getElem?_eq_getElem]⟩
theorem AtA.made (w : World) (cs : Array Value) (n : Nat) (hs : cs.size = n * 3) (hm : n ≤ maxLen) : AtA (w.alloc (.cells cs 54)) w.heap.size n [] :=
  ⟨cs, Blk.new _ _ _, Nat.zero_le _, hm, hs, by simp [flatA]⟩
theorem AtA.push (h : AtA w g c us) (hl : us.length < c) (u : AV) :
    AtA (w.setCells g (us.length * 3) [u.1, u.2.1, u.2.2]) g c (us ++ [u]) ∧ Only g (g + 1) w (w.setCells g (us.length * 3) [u.1, u.2.1, u.2.2]) := by
  obtain ⟨cur, hg, h1, h2, h3, h4⟩ := h
  have hfl := flatA_length us
  obtain ⟨cur', g1, g2, g3, g4⟩ := setCells_all g [u.1, u.2.1, u.2.2] (us.length * 3) w cur _ hg (by simp; omega)
  refine ⟨⟨cur', g1, by simp; omega, h2, by omega, ?_⟩, g4⟩
  rw [flatA_append]
  apply List.ext_getElem?
  intro j
  rw [List.length_append, List.length_singleton]
  by_cases hj : j < (us.length + 1) * 3
  · rw [List.getElem?_take_of_lt hj, Array.getElem?_toList, g3 j]
    by_cases hj2 : j < us.length * 3
    · rw [if_neg (by simp; omega), List.getElem?_append_left (by omega), ← h4, List.getElem?_take_of_lt hj2, Array.getElem?_toList]
    · rw [if_pos (by simp; omega), List.getElem?_append_right (by omega), hfl]
      rfl
  · rw [List.getElem?_eq_none (by simp; omega), List.getElem?_eq_none (by simp [flatA, hfl]; omega)]
theorem RdAges.below {B' : Nat} (h : RdAges w B us ag) (hb : Below B' w w') (hB : B ≤ B') : RdAges w' B us ag := ⟨h.1, fun k h1 h2 => by
  obtain ⟨a, b, d⟩ := h.2 k h1 h2
  exact ⟨a.below hb hB, b.below hb hB, d.below hb hB⟩⟩
theorem RdAges.more {B' : Nat} (h : RdAges w B us ag) (hB : B ≤ B') : RdAges w B' us ag := ⟨h.1, fun k h1 h2 => by
  obtain ⟨a, b, d⟩ := h.2 k h1 h2
  exact ⟨a.more hB, b.more hB, d.more hB⟩⟩
theorem RdAges.snoc {u : AV} {a : LAge} (h : RdAges w B us ag) (h1 : RdFacts w B u.1 a.1) (h2 : RdFacts w B u.2.1 a.2.1) (h3 : RdFacts w B u.2.2 a.2.2) : RdAges w B (us ++ [u]) (ag ++ [a]) := by
  refine ⟨by simp [h.1], fun k k1 k2 => ?_⟩
  by_cases e : k < us.length
  · have e' : k < ag.length := by rw [← h.1]; exact e
    rw [List.getElem_append_left e, List.getElem_append_left e']
    exact h.2 k e e'
  · have e2 : k = us.length := by simp at k1; omega
    subst e2
    have l1 := h.1
    have x1 : (us ++ [u])[us.length]'k1 = u := by simp
    have x2 : (ag ++ [a])[us.length]'k2 = a := by simp [l1]
    rw [x1, x2]
    exact ⟨h1, h2, h3⟩
end
theorem Tryz.infoAges : (Tryz.prog.info? 54).map (fun i => (i.zero, i.size, i.bytes)) = some (some (.agg #[.slice none 0 0, .slice none 0 0, .slice none 0 0]), 3, 72) := by kernel_rfl
/-- A middle part of a row of facts. -/
theorem rdX_mid {w : World} {g : Nat} {R : Nat → Value} {X : List FV} {A : Option Addr} {c : Nat} (h : w.ownsRow (g + 1) 35 2 (.slice A X.length c) X.length (flatX X)) (ha : ∀ x ∈ X, ArgOk w g R x) {a b : Nat} (hab : a ≤ b) (hb : b ≤ X.length) :
    RdFacts w w.heap.size (.slice (if c = a then A else A.map (·.add (a * 2))) (b - a) (c - a)) (((factsX X).take b).drop a) := by
  have hl : (((factsX X).take b).drop a).length = b - a := by simp [factsX]; omega
  have hcells := @World.ownsRow.cells w (g + 1) 35 2 _ X.length (flatX X) h
  have hXc : X.length ≤ c := by
    rcases h.2 with ⟨e, e0⟩ | ⟨b', cap, cur, e, _, _, h2, _⟩
    · injection e with _ e2 e3; omega
    · injection e with _ e2 e3; omega
  refine ⟨_, c - a, by rw [hl], by rw [hl]; omega, fun h0 => ?_⟩
  rw [hl] at h0
  rcases h.2 with ⟨e, e0⟩ | ⟨b', cap, cur, e, hb', hg, _⟩
  · omega
  · injection e with e1 _ _
    subst e1
    rw [if_neg (by omega)]
    refine ⟨b', 0 + a * 2, by simp [Addr.add]; (try omega), Blk.lt hg, fun k hk => ?_⟩
    have hkX : a + k < X.length := by rw [hl] at hk; omega
    obtain ⟨c0, c1⟩ := flatX_at X (a + k) hkX
    have d0 := hcells (g := b') rfl ((a + k) * 2) _ c0
    have d1 := hcells (g := b') rfl ((a + k) * 2 + 1) _ c1
    rw [Go.WideShapes.add_plain] at d0 d1
    have e3 : (((factsX X).take b).drop a)[k] = X[a + k].1 := by simp [factsX]
    rw [e3]
    refine ⟨X[a + k].2, ?_, ?_, (ha _ (List.getElem_mem hkX)).1⟩
    · rw [show 0 + a * 2 + k * 2 = 0 + (a + k) * 2 by omega]; exact d0
    · rw [show 0 + a * 2 + k * 2 + 1 = 0 + ((a + k) * 2 + 1) by omega]; exact d1

end Go.Proofs.YtofkcmihcgmmpaaGreat
/-
  slices.Repeat of one entry: its product first.
-/
namespace Go.Proofs.YtofkcmihcgmmpaaGreat
open Go.RowKit

theorem mul64_few (n : Nat) (hn : n ≤ 4) (w : World) : Calls Tryz.prog 69 #[.int .u64 1, .int .u64 (n : Int)] w fun e w' => e = .returned (.tuple #[.int .u64 0, .int .u64 (n : Int)]) ∧ w = w' := by
  have h : n = 0 ∨ n = 1 ∨ n = 2 ∨ n = 3 ∨ n = 4 := by omega
  rcases h with rfl | rfl | rfl | rfl | rfl
  all_goals
    go_enter Tryz.func69, Tryz.ntmps69
    go_wp2_with (fail)
    exact bodyPost_ret (v := .tuple #[.int .u64 0, .int .u64 _]) (by simp [results, Tryz.results69, go_sem]; rfl) rfl ⟨rfl, rfl⟩
theorem mul_few (n : Nat) (hn : n ≤ 4) (w : World) : Calls Tryz.prog 43 #[.int .u64 1, .int .u64 (n : Int)] w fun e w' => e = .returned (.tuple #[.int .u64 0, .int .u64 (n : Int)]) ∧ w = w' := by
  go_enter Tryz.func43, Tryz.ntmps43
  go_wp2_with (go_at_call 69; refine (mul64_few n hn _).mono ?_; rintro e w1 ⟨rfl, rfl⟩)
  exact bodyPost_ret (v := .tuple #[.int .u64 0, .int .u64 (n : Int)]) (by simp [results, Tryz.results43, go_sem]) rfl ⟨rfl, rfl⟩

theorem run_copy_wide {P : Program} (w : World) (dT sT ty elem : TypeId) (b o dLen dCap : Nat) (a : Addr) (sLen sCap sz m : Nat) (cs : List Value)
    (hu : P.underlying dT = some (.slice elem)) (hs : (P.info? elem).map (·.size) = some sz) (hm : m = Nat.min sLen dLen) (hn : cs.length = m * sz)
    (hsrc : ∀ j v, cs[j]? = some v → w.cell? (a.add j) = some v) (hc : ∀ j, j < cs.length → (w.cell? ⟨b, o + j, none⟩).isSome = true) (hf : ∀ j, j < cs.length → w.frozen? ⟨b, o + j, none⟩ = false) (h1 : ∀ v ∈ cs, v.oneCell' = true) :
    (Builtin.copy_ #[dT, sT] ty #[.slice (some ⟨b, o, none⟩) dLen dCap, .slice (some a) sLen sCap]).run P w = .ok (goInt m) (w.setCells b o cs) := by
  have hl := run_loadCells_list (P := P) w a cs hsrc
  have hst := run_storeCells_cells (P := P) b o cs 0 w (by simpa using hc) (by simpa using hf) h1
  cases hq : P.info? elem with
  | none => simp [hq] at hs
  | some i =>
    have hi : i.size = sz := by simpa [hq] using hs
    simp [Builtin.copy_, run_underlying hu, Builtin.lenOf, Builtin.firstCells, sizeOf, typeInfo, hq, hi, ← hm, ← hn, hl, hst]

theorem AtA.pushs {w : World} {g c : Nat} {us : List AV} (h : AtA w g c us) (vs : List AV) (hl : us.length + vs.length ≤ c) :
    AtA (w.setCells g (us.length * 3) (flatA vs)) g c (us ++ vs) ∧ Only g (g + 1) w (w.setCells g (us.length * 3) (flatA vs)) := by
  obtain ⟨cur, hg, h1, h2, h3, h4⟩ := h
  have hfl := flatA_length us
  have hfv := flatA_length vs
  obtain ⟨cur', g1, g2, g3, g4⟩ := setCells_all g (flatA vs) (us.length * 3) w cur _ hg (by omega)
  refine ⟨⟨cur', g1, by simp; omega, h2, by omega, ?_⟩, g4⟩
  rw [flatA_append]
  apply List.ext_getElem?
  intro j
  rw [List.length_append]
  by_cases hj : j < (us.length + vs.length) * 3
  · rw [List.getElem?_take_of_lt hj, Array.getElem?_toList, g3 j]
    by_cases hj2 : j < us.length * 3
    · rw [if_neg (by omega), List.getElem?_append_left (by omega), ← h4, List.getElem?_take_of_lt hj2, Array.getElem?_toList]
    · rw [if_pos (by omega), List.getElem?_append_right (by omega), hfl]
  · rw [List.getElem?_eq_none (by simp; omega), List.getElem?_eq_none (by simp [hfl, hfv]; omega)]

/-- copy of aged facts behind those that stand. -/
theorem wp_copy_ages {o : Oper} {a : Act} {w : World} {K : Act → World → Prop} {Q : Exit → Act → World → Prop} (d s : Operand) (dT sT : TypeId)
    (ho : o.op = .call { callee := .builtin .copy, args := #[d, s], argTypes := #[dT, sT] }) (hu : Tryz.prog.underlying dT = some (.slice 54))
    (g n : Nat) (us vs : List AV) (off dLen dCap : Nat) (ad : Addr) (sLen sCap : Nat) (hd : a.eval d = .slice (some ⟨g, off, none⟩) dLen dCap) (hs : a.eval s = .slice (some ad) sLen sCap)
    (hoff : off = us.length * 3) (hA : AtA w g n us) (hfit : us.length + vs.length ≤ n) (hn : vs.length = Nat.min sLen dLen) (hsrc : ∀ j v, (flatA vs)[j]? = some v → w.cell? (ad.add j) = some v) (h1 : ∀ v ∈ flatA vs, v.oneCell' = true)
    (h : ∀ w', AtA w' g n (us ++ vs) → Only g (g + 1) w w' → K (a.put o.dst (.int .i64 (vs.length : Int))) w') : o.wp Tryz.prog a w K Q := by
  subst hoff
  have hsz : (Tryz.prog.info? 54).map (·.size) = some 3 := by kernel_rfl
  have hA2 := hA
  obtain ⟨cur, hg, l1, l2, l3, l4⟩ := hA2
  have hfv := flatA_length vs
  have hrun := run_copy_wide (P := Tryz.prog) w dT sT o.type 54 g (us.length * 3) dLen dCap ad sLen sCap 3 vs.length (flatA vs) hu hsz hn hfv hsrc
    (fun j hj => by obtain ⟨x, hx⟩ := hA.free (j := us.length * 3 + j) (by omega); rw [hx]; rfl) (fun j _ => hA.frozen _) h1
  obtain ⟨p1, p2⟩ := hA.pushs vs hfit
  unfold Oper.wp
  simp [execOp, ho, resolve, invoke, builtin, hd, hs, hrun, Result.andThen]
  exact h _ p1 p2

theorem wpList_copy_ages {o : Oper} {ops : Array Oper} {rest : List Oper} {a : Act} {w : World} {Q : Exit → Act → World → Prop} (hgd : o.guard = none) (d s : Operand) (dT sT : TypeId)
    (ho : o.op = .call { callee := .builtin .copy, args := #[d, s], argTypes := #[dT, sT] }) (hu : Tryz.prog.underlying dT = some (.slice 54))
    (g n : Nat) (us vs : List AV) (off dLen dCap : Nat) (ad : Addr) (sLen sCap : Nat) (hd : a.eval d = .slice (some ⟨g, off, none⟩) dLen dCap) (hs : a.eval s = .slice (some ad) sLen sCap)
    (hoff : off = us.length * 3) (hA : AtA w g n us) (hfit : us.length + vs.length ≤ n) (hn : vs.length = Nat.min sLen dLen) (hsrc : ∀ j v, (flatA vs)[j]? = some v → w.cell? (ad.add j) = some v) (h1 : ∀ v ∈ flatA vs, v.oneCell' = true)
    (h : ∀ w', AtA w' g n (us ++ vs) → Only g (g + 1) w w' → wpList Tryz.prog ops Q rest (a.put o.dst (.int .i64 (vs.length : Int))) w') : wpList Tryz.prog ops Q (o :: rest) a w :=
  wpList_plain hgd fun _ hK => wp_copy_ages d s dT sT ho hu g n us vs off dLen dCap ad sLen sCap hd hs hoff hA hfit hn hsrc h1 fun w' p1 p2 => hK _ _ (h w' p1 p2)
theorem step_copy_ages {o : Oper} {ops : Array Oper} {a : Act} {w : World} {K : Act → World → Prop} {Q : Exit → Act → World → Prop} {E : Prop} (hgd : o.guard = none) (d s : Operand) (dT sT : TypeId)
    (ho : o.op = .call { callee := .builtin .copy, args := #[d, s], argTypes := #[dT, sT] }) (hu : Tryz.prog.underlying dT = some (.slice 54))
    (g n : Nat) (us vs : List AV) (off dLen dCap : Nat) (ad : Addr) (sLen sCap : Nat) (hd : a.eval d = .slice (some ⟨g, off, none⟩) dLen dCap) (hs : a.eval s = .slice (some ad) sLen sCap)
    (hoff : off = us.length * 3) (hA : AtA w g n us) (hfit : us.length + vs.length ≤ n) (hn : vs.length = Nat.min sLen dLen) (hsrc : ∀ j v, (flatA vs)[j]? = some v → w.cell? (ad.add j) = some v) (h1 : ∀ v ∈ flatA vs, v.oneCell' = true)
    (h : ∀ w', AtA w' g n (us ++ vs) → Only g (g + 1) w w' → K (a.put o.dst (.int .i64 (vs.length : Int))) w') : if Region.wanted o (yielded ops a.tmps) = true then Oper.wp Tryz.prog o a w K Q else E := by
  have hw : Region.wanted o (yielded ops a.tmps) = true := by simp [Region.wanted, hgd]
  rw [if_pos hw]
  exact wp_copy_ages d s dT sT ho hu g n us vs off dLen dCap ad sLen sCap hd hs hoff hA hfit hn hsrc h1 h

theorem flatA_src {w : World} {g c : Nat} {us : List AV} (h : AtA w g c us) (vs ws : List AV) (e : us = vs ++ ws) : ∀ j v, (flatA vs)[j]? = some v → w.cell? ((⟨g, 0, none⟩ : Addr).add j) = some v := fun j v hv => by
  obtain ⟨cur, hg, h1, h2, h3, h4⟩ := h
  have hj : j < (flatA vs).length := by
    rcases Nat.lt_or_ge j (flatA vs).length with h' | h'
    · exact h'
    · rw [List.getElem?_eq_none h'] at hv; cases hv
  have hfv := flatA_length vs
  have hul : us.length = vs.length + ws.length := by rw [e]; simp
  rw [Go.WideShapes.add_plain, Nat.zero_add, Blk.cell hg]
  have h5 : (cur.toList.take (us.length * 3))[j]? = some v := by rw [h4, e, flatA_append, List.getElem?_append_left hj]; exact hv
  rw [List.getElem?_take_of_lt (by omega), Array.getElem?_toList] at h5
  exact h5
theorem flatA_one {vs : List AV} {u : AV} (hu : u.1.oneCell' = true ∧ u.2.1.oneCell' = true ∧ u.2.2.oneCell' = true) (h : ∀ x ∈ vs, x = u) : ∀ v ∈ flatA vs, v.oneCell' = true := by
  induction vs with
  | nil => intro v hv; cases hv
  | cons x vs ih =>
    intro v hv
    have hx := h x List.mem_cons_self
    subst hx
    simp only [flatA, List.mem_cons] at hv
    rcases hv with rfl | rfl | rfl | hv
    · exact hu.1
    · exact hu.2.1
    · exact hu.2.2
    · exact ih (fun y hy => h y (List.mem_cons_of_mem _ hy)) v hv

set_option maxHeartbeats 2000000 in
set_option maxRecDepth 100000 in
theorem repeatA_any (n : Nat) (hn : n ≤ 4) (u : AV) (hu : u.1.oneCell' = true ∧ u.2.1.oneCell' = true ∧ u.2.2.oneCell' = true) (ga : Nat) (w : World) (hA : AtA w ga 1 [u]) :
    Calls Tryz.prog 20 #[.slice (some ⟨ga, 0, none⟩) 1 1, .int .i64 (n : Int)] w fun e w' => e = .returned (.slice (some ⟨w.heap.size, 0, none⟩) n n) ∧ AtA w' w.heap.size n (List.replicate n u) ∧ Below w.heap.size w w' := by
  obtain ⟨i0, hi0, hz0, hz1, hz2⟩ := info_parts Tryz.infoAges
  have hmk := fun W => run_make_rowN (P := Tryz.prog) 57 54 i0 (.agg #[.slice none 0 0, .slice none 0 0, .slice none 0 0]) Tryz.underlying57 hi0 hz0 .i64 .i64 n n (Nat.le_refl _) (by rw [hz2]; omega) (by omega) W
  rw [hz1] at hmk
  simp only [Value.cells] at hmk
  have HA := Lib.hid hA
  have HU := Lib.hid hu
  have hgal := hA.lt
  clear hA hu
  have hwn : IntKind.u64.wrap (n : Int) = (n : Int) := by
    have h : n = 0 ∨ n = 1 ∨ n = 2 ∨ n = 3 ∨ n = 4 := by omega
    rcases h with rfl | rfl | rfl | rfl | rfl <;> rfl
  go_enter Tryz.func20, Tryz.ntmps20
  go_upto_region 7 with (go_at_call 43; refine (mul_few n hn _).mono ?_; rintro e w1 ⟨rfl, rfl⟩)
  obtain ⟨g, hg⟩ : ∃ g, g = w.heap.size := ⟨_, rfl⟩
  obtain ⟨w2, hw2⟩ : ∃ w2, w2 = w.alloc (Obj.cells (madeCells #[Value.slice none 0 0, Value.slice none 0 0, Value.slice none 0 0] (n * 3)) 54) := ⟨_, rfl⟩
  have HG := Lib.hid hg
  have HB2 := Lib.hid (show Below w.heap.size w w2 by rw [hw2]; exact below1 _ _)
  have HA2 := Lib.hid (show AtA w2 g n [] from by rw [hw2, hg]; exact AtA.made w _ n (size_madeCells _ _) (by unfold maxLen; omega))
  have HS2 := Lib.hid (show AtA w2 ga 1 [u] from HA.out.below HB2.out hgal)
  rw [← hw2, ← hg]
  clear hw2 hg hmk hwn
  obtain ⟨m0, hm0⟩ : ∃ m0, m0 = Nat.min 1 n := ⟨_, rfl⟩
  have hm01 : m0 ≤ n ∧ m0 ≤ 1 ∧ (n = 0 ∨ 1 ≤ m0) := by
    rw [hm0]
    have e : Nat.min 1 n = if 1 ≤ n then 1 else n := by simp [Nat.min_def]
    rw [e]
    split <;> omega
  have HM0 := Lib.hid hm0
  clear hm0
  have HSP := Lib.hid (show [u] = List.replicate m0 u ++ List.replicate (1 - m0) u from by rw [List.replicate_append_replicate, show m0 + (1 - m0) = 1 by omega]; rfl)
  go_wp2_with ((refine wpList_copy_ages (o := ⟨some 33, _, _, _, _, _⟩) rfl (.tmp 31) (.tmp 32) 57 57 rfl Tryz.underlying57 g n [] (List.replicate m0 u) 0 n n ⟨ga, 0, none⟩ 1 1 rfl rfl rfl HA2.out (by simp; omega) (by simpa using HM0.out) (flatA_src HS2.out _ _ HSP.out) (flatA_one HU.out fun x hx => (List.mem_replicate.1 hx).2) ?_))
  intro w3 a3 on3
  have HA3 := Lib.hid (show AtA w3 g n (List.replicate m0 u) by simpa using a3)
  have HB3 := Lib.hid (show Below w.heap.size w w3 from HB2.out.trans (on3.below (by rw [HG.out]; exact Nat.le_refl _) HB2.out.size))
  try simp only [List.length_replicate]
  clear a3 on3
  go_wp2_with (fail)
  go_loopw [8] (fun x wr => ∃ m : Nat, m ≤ n ∧ (n = 0 ∨ 1 ≤ m) ∧ x = .int .i64 m ∧ AtA wr g n (List.replicate m u) ∧ Below w.heap.size w wr) (fun x _ => n - (intOf x).toNat)
  case atStart => exact ⟨m0, hm01.1, hm01.2.2, rfl, HA3.out, HB3.out⟩
  case round =>
    obtain ⟨m, hm, hm1, rfl, ha, hbe⟩ := hrel
    have HA4 := Lib.hid ha
    have HBE := Lib.hid hbe
    clear ha hbe
    by_cases hlt : m < n
    · have h1m : 1 ≤ m := by omega
      have hmi : (m : Int) < (n : Int) := by omega
      have hnm : n ≠ m := by omega
      obtain ⟨q, hq⟩ : ∃ q, q = Nat.min m (n - m) := ⟨_, rfl⟩
      have hqb : q ≤ m ∧ q ≤ n - m ∧ 1 ≤ q := by
        rw [hq]
        have e : Nat.min m (n - m) = if m ≤ n - m then m else n - m := by simp [Nat.min_def]
        rw [e]
        split <;> omega
      have HQ := Lib.hid hq
      have HSR := Lib.hid (show List.replicate m u = List.replicate q u ++ List.replicate (m - q) u from by rw [List.replicate_append_replicate, show q + (m - q) = m by omega])
      have HRR := Lib.hid (show List.replicate m u ++ List.replicate q u = List.replicate (m + q) u from List.replicate_append_replicate)
      have hmq : m + q ≤ n := by omega
      have HWR := Lib.hid (show IntKind.i64.wrap ((m : Int) + (q : Int)) = ((m + q : Nat) : Int) from by unfold IntKind.wrap; simp [IntKind.bits, IntKind.signed]; omega)
      clear hq
      go_upto_region 9 with fail
      have HA4d := Lib.hid (show AtA wr.drew g n (List.replicate m u) from HA4.out)
      have HBEd := Lib.hid (show Below w.heap.size w wr.drew from HBE.out.drew)
      go_region_law (refine step_copy_ages rfl (.tmp 41) (.tmp 44) 57 57 rfl Tryz.underlying57 g n (List.replicate m u) (List.replicate q u) (m * 3) (n - m) (n - m) ⟨g, 0, none⟩ m n (by simp [Act.eval, Act.put]) (by simp [Act.eval, Act.put]) (by simp) HA4d.out (by simp; omega) (by simpa using HQ.out) (flatA_src HA4d.out _ _ HSR.out) (flatA_one HU.out fun x hx => (List.mem_replicate.1 hx).2) ?_
                     intro w4 a4 on4
                     have HX := Lib.hid (show AtA w4 g n (List.replicate (m + q) u) from by rw [← HRR.out]; exact a4)
                     have HBX := Lib.hid (show Below w.heap.size w w4 from HBEd.out.trans (on4.below (by rw [HG.out]; exact Nat.le_refl _) HBEd.out.size))
                     try simp only [List.length_replicate]
                     clear a4 on4)
      all_goals
        simp [Act.put]
        rw [HWR.out]
        go_wp2_with (fail)
        go_roundw
        case rel => exact ⟨m + q, hmq, .inr (by omega), rfl, HX.out, HBX.out⟩
        case measure => simp [intOf]; omega
    · have hmn : m = n := by omega
      subst hmn
      go_wp2_with (fail)
      go_ret
      exact ⟨by rw [← HG.out]; rfl, by rw [← HG.out]; exact HA4.out, HBE.out⟩

end Go.Proofs.YtofkcmihcgmmpaaGreat
/-
  byAge: for each literal of a body the facts of its predicate, by their ages.
-/
namespace Go.Proofs.YtofkcmihcgmmpaaGreat
open Go.RowKit

theorem cntX_le (X : List FV) (n p : Nat) : cntX X n p ≤ (ofX X p).length := by
  unfold cntX
  rw [ofX_len]
  exact ofP_take_le _ _ _
theorem cntX_mono (X : List FV) {a b : Nat} (h : a ≤ b) (p : Nat) : cntX X a p ≤ cntX X b p := by
  unfold cntX
  rw [take_mid h, ofP_append, List.length_append]
  omega
theorem ofX_take (X : List FV) (n p : Nat) : (factsX (ofX X p)).take (cntX X n p) = ofP ((factsX X).take n) p := by
  rw [ofX_facts]
  exact (ofP_take _ _ _).symm
end Go.Proofs.YtofkcmihcgmmpaaGreat
