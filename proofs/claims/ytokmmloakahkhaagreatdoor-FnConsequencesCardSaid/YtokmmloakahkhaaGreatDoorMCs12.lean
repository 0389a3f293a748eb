/-
  Texts that the claim's last one imports, laid together: part 12 of 13. No condition of its own.
-/
import Derived.Deep.RegionHeld3
import Derived.Deep.RegionWith
import Derived.Deep.RegionLaw
import Derived.Laws.BitsAllLaws
import Derived.Deep.DeepCutAuto
import Derived.Laws.CopyOwn
import Derived.Deep.WholeRow
import Derived.Test.YtokmmloakahkhaaGreatDoorMCs1
import Derived.Test.YtokmmloakahkhaaGreatDoorMCs2
import Derived.Test.YtokmmloakahkhaaGreatDoorMCs3
import Derived.Test.YtokmmloakahkhaaGreatDoorMCs6
import Derived.Test.YtokmmloakahkhaaGreatDoorMCs7
import Derived.Test.YtokmmloakahkhaaGreatDoorMCs10
import Derived.Test.YtokmmloakahkhaaGreatDoorMCs11
/-
  Tables of facts: a word for each predicate.
-/
namespace Go.Proofs.YtokmmloakahkhaaGreatDoor
open Go.RowKit

/-- The words of a table, with one fact more. -/
def setBit (T : List Nat) (p n : Nat) : List Nat := T.set p (T.getD p 0 ||| 2 ^ n)
def tabCells (T : List Nat) : Array Value := (T.map fun x => Value.int .u64 ((x : Nat) : Int)).toArray
/-- A table stands in block g. -/
def TabAt (w : World) (g : Nat) (T : List Nat) : Prop := Blk w g 64 (tabCells T) ∧ T.length = 24 ∧ ∀ x ∈ T, x < 18446744073709551616
theorem TabAt.cell {w : World} {g p : Nat} {T : List Nat} (h : TabAt w g T) (hp : p < 24) : w.cell? ⟨g, p, none⟩ = some (.int .u64 ((T.getD p 0 : Nat) : Int)) := by
  rw [h.1.cell p]
  have : p < T.length := by rw [h.2.1]; exact hp
  simp [tabCells, this]
theorem TabAt.lt {w : World} {g p : Nat} {T : List Nat} (h : TabAt w g T) : T.getD p 0 < 18446744073709551616 := by
  by_cases hp : p < T.length
  · have : T.getD p 0 = T[p] := by simp [hp]
    rw [this]
    exact h.2.2 _ (List.getElem_mem hp)
  · simp [List.getD_eq_getElem?_getD, List.getElem?_eq_none (by omega : T.length ≤ p)]
theorem TabAt.set {w : World} {g p n : Nat} {T : List Nat} (h : TabAt w g T) (hn : n < 64) : TabAt (w.setCell ⟨g, p, none⟩ (.int .u64 ((T.getD p 0 ||| 2 ^ n : Nat) : Int))) g (setBit T p n) := by
  have hlt := h.lt (p := p)
  obtain ⟨h1, h2, h3⟩ := h
  refine ⟨?_, by simp [setBit, h2], fun x hx => ?_⟩
  · have := h1.set_ p (.int .u64 ((T.getD p 0 ||| 2 ^ n : Nat) : Int))
    have e : tabCells (setBit T p n) = (tabCells T).setIfInBounds p (.int .u64 ((T.getD p 0 ||| 2 ^ n : Nat) : Int)) := by
      unfold tabCells setBit
      rw [List.map_set]
      simp
    rw [e]
    exact this
  · rcases List.mem_or_eq_of_mem_set hx with h4 | rfl
    · exact h3 x h4
    · exact Nat.or_lt_two_pow (n := 64) hlt (Nat.pow_lt_pow_right (by decide) hn)

theorem bit_one_t (x n : Nat) (hx : x < 18446744073709551616) : (bits .and .u64 ((x : Int) / 2 ^ n) 1 == 1) = x.testBit n := by
  have e : ((x : Int) / 2 ^ n) = ((x / 2 ^ n : Nat) : Int) := by simp
  have h1 : x / 2 ^ n < 18446744073709551616 := Nat.lt_of_le_of_lt (Nat.div_le_self _ _) hx
  rw [e, show (1 : Int) = ((1 : Nat) : Int) from rfl, u64_and_nat _ 1 h1 (by decide), Nat.and_one_is_mod]
  have h2 : x.testBit n = decide (x / 2 ^ n % 2 = 1) := by
    rw [Nat.testBit, Nat.shiftRight_eq_div_pow, Nat.one_and_eq_mod_two]
    have := Nat.mod_two_eq_zero_or_one (x / 2 ^ n)
    rcases this with h | h <;> simp [h]
  rw [h2, Bool.eq_iff_iff, beq_iff_eq, decide_eq_true_eq]
  omega

set_option maxHeartbeats 1000000 in
set_option maxRecDepth 100000 in
theorem has_any (g p n : Nat) (T : List Nat) (w : World) (h : TabAt w g T) (hp : p < 24) (hn : n < 64) :
    Calls Tryz.prog 123 #[.pointer (some ⟨g, 0, none⟩), .int .i64 p, .int .i64 n] w fun e w' =>
      e = .returned (.bool ((T.getD p 0).testBit n)) ∧ w = w' := by
  have hc := h.cell hp
  have hlt := h.lt (p := p)
  have HL := Lib.hid h.1.lt
  clear h
  obtain ⟨x, hx⟩ : ∃ x, x = T.getD p 0 := ⟨_, rfl⟩
  rw [← hx] at hc hlt ⊢
  clear hx
  have hpi : (p : Int) < 24 := by omega
  have hpn : (0 : Int) ≤ (p : Int) := by omega
  have hni : ¬ (n : Int) < 0 := by omega
  go_enter Tryz.func123, Tryz.ntmps123
  go_wp2_with fail
  go_ret
  exact ⟨ret_bool (bit_one_t x n hlt), rfl⟩

set_option maxHeartbeats 1000000 in
set_option maxRecDepth 100000 in
theorem add_any (g p n : Nat) (T : List Nat) (w : World) (h : TabAt w g T) (hp : p < 24) (hn : n < 64) :
    Calls Tryz.prog 72 #[.pointer (some ⟨g, 0, none⟩), .int .i64 p, .int .i64 n] w fun e w' =>
      e = .returned (.bool (!(T.getD p 0).testBit n)) ∧ TabAt w' g (setBit T p n) ∧ Only g (g + 1) w w' := by
  have CH := Lib.hid (has_any g p n T w h hp hn)
  have hc := h.cell hp
  have hf := h.1.frozen p
  have HS := Lib.hid (show ∀ W, W.heap[g]? = w.heap[g]? → TabAt W g T from fun W hW => ⟨hW.trans h.1, h.2⟩)
  have hlt := h.lt (p := p)
  have HL := Lib.hid h.1.lt
  clear h
  obtain ⟨x, hx⟩ : ∃ x, x = T.getD p 0 := ⟨_, rfl⟩
  obtain ⟨m, hm⟩ : ∃ m, m = 2 ^ n := ⟨_, rfl⟩
  have hml : m < 18446744073709551616 := by rw [hm]; exact Nat.pow_lt_pow_right (by decide) hn
  have hwr : IntKind.u64.wrap (2 ^ n) = (m : Int) := by
    have e : ((2 : Int) ^ n) = ((m : Nat) : Int) := by rw [hm]; simp
    rw [e]
    unfold IntKind.wrap
    simp [IntKind.bits, IntKind.signed] <;> omega
  rw [← hx] at hc hlt ⊢
  have hor : bits .or .u64 (x : Int) (m : Int) = ((x ||| m : Nat) : Int) := u64_or_nat x m hlt hml
  rw [← hx] at CH
  have HM := Lib.hid (And.intro hx hm)
  clear hx hm hml hlt
  go_enter Tryz.func72, Tryz.ntmps72
  go_upto_region 2 with (go_at_call 123; refine CH.out.mono ?_; rintro e w5 ⟨rfl, rfl⟩)
  have hc2 : w.drew.cell? ⟨g, p, none⟩ = some (.int .u64 ((x : Nat) : Int)) := hc
  have hpi : (p : Int) < 24 := by omega
  have hf2 : w.drew.frozen? ⟨g, p, none⟩ = false := hf
  go_region_law (fail)
  go_wp2_with fail
  go_ret
  obtain ⟨rfl, rfl⟩ := HM.out
  have hset := (HS.out w rfl).set (p := p) hn
  have ho : Only g (g + 1) w (w.setCell ⟨g, p, none⟩ (.int .u64 ((T.getD p 0 ||| 2 ^ n : Nat) : Int))) := (Only.refl g (g + 1) w).setCell ⟨Nat.le_refl g, Nat.lt_succ_self g⟩ _
  exact ⟨rfl, hset, ho.trans (Only.of_below (bdrewN (Below.refl _ _) 1))⟩

end Go.Proofs.YtokmmloakahkhaaGreatDoor
/-
  A table of facts is filled: constantsNumber, addAll.
-/
namespace Go.Proofs.YtokmmloakahkhaaGreatDoor
open Go.RowKit

/-- The number of which constants are the digits. -/
def numF (xs : List Int) : Nat := xs.foldl (fun n c => n * 6 + c.toNat) 0
theorem numF_take {xs : List Int} {k : Nat} (h : k < xs.length) : numF (xs.take (k + 1)) = numF (xs.take k) * 6 + xs[k].toNat := by
  unfold numF
  rw [take_snoc xs k h, List.foldl_append]
  rfl
theorem numF_lt {xs : List Int} (hc : xs.all constOk = true) : ∀ k, k ≤ xs.length → numF (xs.take k) < 6 ^ k
  | 0, _ => by simp [numF]
  | k + 1, hk => by
    have ih := numF_lt hc k (by omega)
    rw [numF_take (by omega), Nat.pow_succ]
    have : 0 ≤ xs[k] ∧ xs[k] ≤ 5 := by simpa [constOk] using List.all_eq_true.1 hc _ (List.getElem_mem (show k < xs.length by omega))
    omega

set_option maxHeartbeats 1000000 in
set_option maxRecDepth 100000 in
theorem number_any (v : Value) (bs xs : List Int) (hb : bindOk bs = true) (ht : xs.all termOk = true) (B : Nat) (w : World) (h : RdInts w B v xs) (hc : (xs.map (termVal bs)).all constOk = true) (hl : xs.length ≤ 2) :
    Calls Tryz.prog 73 #[.int .u32 (encB bs : Nat), v] w fun e w' => e = .returned (.int .i64 (numF (xs.map (termVal bs)) : Nat)) ∧ w = w' := by
  obtain ⟨A, c, rfl, hcc, ha⟩ := h
  obtain ⟨ys, hys⟩ : ∃ ys, ys = xs.map (termVal bs) := ⟨_, rfl⟩
  rw [← hys] at hc ⊢
  have hyl : ys.length = xs.length := by rw [hys]; simp
  have HYL := Lib.hid hyl
  have HC := Lib.hid hc
  have HY := Lib.hid hys
  have HT := Lib.hid ht
  have HV := Lib.hid (fun t ht => value_any bs hb t ht)
  generalize encB bs = m at HV
  clear hc hys ht hyl
  go_enter Tryz.func73, Tryz.ntmps73
  go_wp2_with fail
  go_loopw [5, 10] (fun m i wr => ∃ (k n : Nat), k ≤ xs.length ∧ i = .int .i64 k ∧ m = .int .i64 n ∧ n = numF (ys.take k) ∧ wr = w) (fun _ i _ => xs.length - (intOf i).toNat)
  case atStart => exact ⟨0, 0, by simp [numF]⟩
  case round =>
    obtain ⟨k, n, hk, rfl, rfl, hn, rfl⟩ := hrel
    by_cases hlt : k < xs.length
    · obtain ⟨b, o, rfl, hbB, hx⟩ := ha (by omega)
      have hck : wr.cell? ⟨b, o + k, none⟩ = some (.int .i64 xs[k]) := hx k hlt
      have hlt2 : k < ys.length := by rw [HYL.out]; exact hlt
      have hb2 : 0 ≤ ys[k] ∧ ys[k] ≤ 5 := by simpa [constOk] using List.all_eq_true.1 HC.out _ (List.getElem_mem hlt2)
      have hn6 : n < 36 := by
        have := numF_lt HC.out k (by omega)
        have h2 : (6 : Nat) ^ k ≤ 6 ^ 2 := Nat.pow_le_pow_right (by decide) (by omega)
        rw [hn]
        omega
      obtain ⟨x, hx2⟩ : ∃ x : Nat, ys[k] = (x : Int) := ⟨ys[k].toNat, by omega⟩
      have HN := Lib.hid (show numF (ys.take (k + 1)) = n * 6 + x by rw [numF_take hlt2, hn, hx2]; rfl)
      have hxl : x ≤ 5 := by omega
      have HV2 := Lib.hid (HV.out xs[k] (List.all_eq_true.1 HT.out _ (List.getElem_mem hlt)))
      have hvx : termVal bs xs[k] = (x : Int) := by rw [← hx2]; simp only [HY.out, List.getElem_map]
      rw [hvx] at HV2
      clear hx hx2 hb2 hn hvx
      go_wp2_with (go_at_call 95; refine (HV2.out _).mono ?_; rintro e w' ⟨rfl, rfl⟩)
      go_roundw
      case rel => exact ⟨k + 1, n * 6 + x, by omega, by go_num, by go_num, HN.out.symm, by first | trivial | rfl⟩
      case measure => simp [intOf]; omega
    · have HE := Lib.hid (show n = numF ys by rw [hn, show k = ys.length by have := HYL.out; omega, List.take_length])
      clear hn ha
      go_wp2_with fail
      go_ret
      exact ⟨ret_int (by rw [HE.out]), rfl⟩

/-- The facts of a table's predicates. -/
def TabFact (f : LFact) : Prop := 0 ≤ f.1 ∧ f.1 < 24 ∧ f.2.all constOk = true ∧ f.2.length ≤ 2
def tabWith (T : List Nat) (fs : List LFact) : List Nat := fs.foldl (fun T f => setBit T f.1.toNat (numF f.2)) T
theorem tabWith_take {T : List Nat} {fs : List LFact} {k : Nat} (h : k < fs.length) : tabWith T (fs.take (k + 1)) = setBit (tabWith T (fs.take k)) fs[k].1.toNat (numF fs[k].2) := by
  unfold tabWith
  rw [take_snoc fs k h, List.foldl_append]
  rfl
theorem TabAt.below {w w' : World} {g B : Nat} {T : List Nat} (h : TabAt w g T) (hb : Below B w w') (hg : g < B) : TabAt w' g T := ⟨h.1.below hb hg, h.2⟩
theorem TabAt.only {w w' : World} {g lo hi : Nat} {T : List Nat} (h : TabAt w g T) (ho : Only lo hi w w') (hg : g < lo ∨ hi ≤ g) : TabAt w' g T := ⟨h.1.only ho hg, h.2⟩
theorem numF_64 {xs : List Int} (hc : xs.all constOk = true) (hl : xs.length ≤ 2) : numF xs < 64 := by
  have := numF_lt hc xs.length (Nat.le_refl _)
  rw [List.take_length] at this
  have h2 : (6 : Nat) ^ xs.length ≤ 6 ^ 2 := Nat.pow_le_pow_right (by decide) hl
  omega

end Go.Proofs.YtokmmloakahkhaaGreatDoor
/-
  The walk of Solutions.
-/
namespace Go.Proofs.YtokmmloakahkhaaGreatDoor
open Go.RowKit

/-- A row of slices that make laid and a loop fills: k of them stand. -/
structure FillS (g n : Nat) (wr : World) (xss : List (List Int)) (av : List Value) : Prop where
  args : OwnArgs wr (g + 1) wr.heap.size av xss
  row : ∃ cur, wr.heap[g]? = some (.cells cur 23 (0, 0)) ∧ cur.size = n ∧ cur.toList.take xss.length = av
theorem FillS.start (w : World) (cs : Array Value) (n : Nat) (h : cs.size = n) : FillS w.heap.size n (w.alloc (.cells cs 23)) [] [] :=
  ⟨OwnArgs.nil, cs, heap_alloc_new w _, h, by simp⟩
theorem FillS.lt {g n : Nat} {wr : World} {xss : List (List Int)} {av : List Value} (h : FillS g n wr xss av) : g < wr.heap.size := by
  obtain ⟨_, cur, hg, _⟩ := h
  exact Blk.lt hg
theorem FillS.on {g n : Nat} {wr w4 : World} {xss : List (List Int)} {av : List Value} (h : FillS g n wr xss av) (hb : Below wr.heap.size wr w4) : FillS g n w4 xss av := by
  have hlt := h.lt
  obtain ⟨ha, cur, hg, h1, h2⟩ := h
  exact ⟨(ha.below hb (Nat.le_refl _)).mono (Nat.le_refl _) hb.size, cur, (hb.block g hlt).trans hg, h1, h2⟩
theorem FillS.free {g n : Nat} {wr : World} {xss : List (List Int)} {av : List Value} (h : FillS g n wr xss av) {k : Nat} (hk : k < n) : (∃ x, wr.cell? ⟨g, k, none⟩ = some x) ∧ wr.frozen? ⟨g, k, none⟩ = false := by
  obtain ⟨_, cur, hg, h1, _⟩ := h
  exact ⟨⟨cur[k]'(by omega), by rw [Blk.cell hg, Array.getElem?_eq_getElem]⟩, Blk.frozen hg k⟩
theorem FillS.step {g n k : Nat} {wr w4 : World} {xss : List (List Int)} {xs : List Int} {av : List Value} {u : Value} (h : FillS g n wr xss av) (hk : xss.length = k) (hkn : k < n) (hb : Below wr.heap.size wr w4) (hu : OwnInts w4 wr.heap.size w4.heap.size u xs) :
    FillS g n (w4.setCell ⟨g, k, none⟩ u) (xss ++ [xs]) (av ++ [u]) := by
  have hlt := h.lt
  have hl := h.args.len
  have h4 := (h.args.below hb (Nat.le_refl _)).snoc hu (by omega) hb.size
  obtain ⟨_, cur, hg, h1, h2⟩ := h
  have hg4 : Blk w4 g 23 cur := (hb.block g hlt).trans hg
  refine ⟨by simpa using h4.set (p := ⟨g, k, none⟩) (.inl (Nat.lt_succ_self g)) u, _, hg4.set_ k u, by simpa using h1, ?_⟩
  have hlen : (xss ++ [xs]).length = k + 1 := by simp [hk]
  rw [hlen, Array.toList_setIfInBounds]
  rw [hk] at h2
  apply List.ext_getElem?
  intro j
  by_cases hj : j < k
  · rw [List.getElem?_take_of_lt (by omega), List.getElem?_set_ne (by omega), List.getElem?_append_left (by omega), ← h2, List.getElem?_take_of_lt hj]
  · by_cases hj2 : j = k
    · subst hj2
      rw [List.getElem?_take_of_lt (by omega), List.getElem?_set_self (by simp; omega), List.getElem?_append_right (by omega)]
      simp [hl, hk]
    · rw [List.getElem?_eq_none (by simp; omega), List.getElem?_eq_none (by simp; omega)]
theorem FillS.done {g n : Nat} {wr : World} {xss : List (List Int)} {av : List Value} (h : FillS g n wr xss av) (hn : xss.length = n) (hm : n ≤ maxLen) : OwnRows wr g wr.heap.size (.slice (some ⟨g, 0, none⟩) xss.length n) xss := by
  have hlt := h.lt
  have hl := h.args.len
  obtain ⟨ha, cur, hg, h1, h2⟩ := h
  exact ⟨av, ha.mono (by omega) (Nat.le_refl _), ⟨by omega, .inr ⟨g, n, cur, rfl, Nat.le_refl _, hg, by omega, hm, by omega, by rw [Nat.mul_one]; exact h2⟩⟩, fun g' hg' => by simp [Value.ownBlock] at hg'; omega⟩

theorem OwnRows.nil (w : World) (lo hi : Nat) : OwnRows w lo hi (.slice none 0 0) [] := ⟨[], OwnArgs.nil, World.ownsRow_nil _ _ _ _, fun g hg => by cases hg⟩

set_option maxHeartbeats 4000000 in
set_option maxRecDepth 100000 in
theorem solutionsIn_any (v v2 : Value) (fs : List LFact) (ls : List LLit) (hsf : bodySafe ls = true) (hcf : constsL fs = true) (w : World) (h : RdFacts w w.heap.size v fs) (h2 : RdLits w w.heap.size v2 ls) (hn : fs.length ≤ 1048576) (ht : tot fs ≤ 1048576) (hl : ls.length + totL ls ≤ 1048576) :
    Calls Tryz.prog 44 #[v, v2] w fun e w' => ∃ (A : Option Addr) (c lo hi : Nat) (S : List (List Int)), e = .returned (.slice A S.length c) ∧ S = solsL fs ls ∧ w.heap.size ≤ lo ∧ hi ≤ w'.heap.size ∧ OwnW w' lo hi (.slice A S.length c) S ∧ (∀ b ∈ S, bindOk b = true) ∧ S.length ≤ 65536 ∧ Below w.heap.size w w' := by
  have H := Lib.hid h
  have H2 := Lib.hid h2
  obtain ⟨A, c, rfl, hc, _⟩ := h
  obtain ⟨A2, c2, rfl, hc2, _⟩ := h2
  have HSF := Lib.hid hsf
  have HCF := Lib.hid hcf
  have hS := SafeB.of HSF.out
  have hC := consts_of HCF.out
  have CQ := Lib.hid (questionsOf_any (.slice A fs.length c) (.slice A2 ls.length c2) fs ls w H.out H2.out (by omega))
  have HQL := Lib.hid (show (questL fs ls).length = ls.length by simp [questL])
  have HQK := Lib.hid (hS.qok hC hn ht (by omega))
  have HSQ := Lib.hid (hS.quests fs)
  clear hS hC hsf hcf
  go_enter Tryz.func44, Tryz.ntmps44
  go_wp2_with (first
    | (go_at_call 71; refine CQ.out.mono ?_; rintro e w3 ⟨g, us, rfl, hg, at3, rd3, hb3⟩
       have HB3 := Lib.hid hb3
       have CS := solve_any g ls.length w.heap.size us (questL fs ls) w3 at3 rd3 hg (by rw [HQL.out]; omega) HQK.out HSQ.out
       rw [HQL.out] at CS
       have HCS := Lib.hid CS
       have HG := Lib.hid hg
       clear CS hg at3 rd3 hb3)
    | (go_at_call 70; refine HCS.out.mono ?_; rintro e w4 ⟨A4, c4, S, rfl, own4, on4, is4⟩
       have HSO := Lib.hid (sortW_any w3.heap.size w4.heap.size (.slice A4 S.length c4) S w4 own4 (Nat.le_trans (binds_len is4.1 is4.ok) (by decide)))
       have H4 := Lib.hid (And.intro on4 is4)
       clear own4 on4 is4)
    | (go_at_call 92; refine HSO.out.mono ?_; rintro e w5 ⟨rfl, S', hp, hup, own5, only5⟩
       have H5 := Lib.hid (And.intro hp (And.intro hup (And.intro own5 only5)))
       clear hp hup own5 only5))
  go_ret
  obtain ⟨on4, is4⟩ := H4.out
  obtain ⟨hp, hup, own5, only5⟩ := H5.out
  obtain ⟨hub, is5⟩ := is4.up hp hup
  have hRS : S' = solsL fs ls := solsL_is HSF.out HCF.out hub is5
  have hlenS : S.length = S'.length := hp.length_eq.symm
  have hz3 := HB3.out.size
  have hzg := HG.out
  have hz4 := on4.size
  have hz5 := only5.size
  have B5 : Below w.heap.size w w5 := Only.then_ (Only.then_ HB3.out on4 (by omega)) only5 (by omega)
  rw [hlenS] at own5 ⊢
  exact ⟨A4, c4, w3.heap.size, w4.heap.size, S', rfl, hRS, hz3, hz5, own5, is5.ok, binds_len is5.1 is5.ok, B5⟩

set_option maxHeartbeats 4000000 in
set_option maxRecDepth 100000 in
theorem numberLists_any (hi : Nat) (A4 : Option Addr) (c4 : Nat) (S' : List (List Int)) (w5 : World) (hrd0 : RdW w5 hi (.slice A4 S'.length c4) S') (hz45 : hi ≤ w5.heap.size) (hok : ∀ b ∈ S', bindOk b = true) (hSn : S'.length ≤ 65536) :
    Calls Tryz.prog 43 #[.slice A4 S'.length c4] w5 fun e w' => ∃ A c, e = .returned (.slice A S'.length c) ∧ OwnRows w' w5.heap.size w'.heap.size (.slice A S'.length c) S' ∧ Below w5.heap.size w5 w' := by
  have HRD := Lib.hid hrd0
  have HOK := Lib.hid hok
  clear hrd0 hok
  obtain ⟨i0, hi0, hz0, hz1, hzb⟩ := info_parts Tryz.infoIntS
  have hmk := fun W => run_make_rowN (P := Tryz.prog) 39 23 i0 (.slice none 0 0) Tryz.underlying39 hi0 hz0 .i64 .i64 S'.length S'.length (Nat.le_refl _) (by rw [hzb]; omega) (by omega) W
  rw [hz1] at hmk
  simp only [Value.cells, Nat.mul_one] at hmk
  obtain ⟨cs, hcs⟩ : ∃ cs, cs = madeCells #[Value.slice none 0 0] S'.length := ⟨_, rfl⟩
  have hcsz : cs.size = S'.length := by rw [hcs]; simp [madeCells]
  have HF0 := Lib.hid (FillS.start w5 cs S'.length hcsz)
  rw [← hcs] at hmk
  clear hcs hcsz
  go_enter Tryz.func43, Tryz.ntmps43
  go_wp2_with fail
  obtain ⟨w6, hw6⟩ : ∃ w6, w6 = w5.alloc (Obj.cells cs 23) := ⟨_, rfl⟩
  have hB6 := Lib.hid (show Below w5.heap.size w5 w6 by rw [hw6]; exact below1 _ _)
  rw [← hw6] at HF0 ⊢
  clear hw6 hmk
  go_loopw [11] (fun i wr => ∃ (k : Nat) (av : List Value), k ≤ S'.length ∧ i = .int .i64 k ∧ FillS w5.heap.size S'.length wr (S'.take k) av ∧ Below w5.heap.size w5 wr) (fun i _ => S'.length - (intOf i).toNat)
  case atStart => exact ⟨0, [], Nat.zero_le _, rfl, HF0.out, hB6.out⟩
  case round =>
    obtain ⟨k, av, hk, rfl, hfi, hbe⟩ := hrel
    by_cases hlt : k < S'.length
    · have hrd := HRD.out.below hbe hz45
      obtain ⟨A7, c7, e7, _, hx⟩ := hrd
      injection e7 with e7 e9 e8
      clear e9
      subst e7 e8
      obtain ⟨b, o, rfl, _, hx⟩ := hx (by omega)
      have hck : wr.cell? ⟨b, o + k, none⟩ = some (.int .u32 ((encB S'[k] : Nat) : Int)) := hx k hlt
      have hbk := HOK.out _ (List.getElem_mem hlt)
      have CN := Lib.hid (numbers_any S'[k] hbk wr)
      have HFI := Lib.hid hfi
      have HBE := Lib.hid hbe
      have HTK := Lib.hid (take_snoc S' k hlt)
      have hgl := hfi.lt
      clear hx hfi hbe hbk
      go_upto_region 5 with fail
      go_wp2_with (first
        | (go_at_call 91; refine CN.out.mono ?_; rintro e w7 ⟨A8, c8, rfl, o8, b8⟩
           have f7 := (HFI.out.on b8).free hlt
           obtain ⟨⟨x7, hx7⟩, hf7⟩ := f7
           have HST := Lib.hid (HFI.out.step (by simp; omega) hlt b8 o8)
           have HB7 := Lib.hid (bthen HBE.out b8)
           clear o8 b8))
      go_roundw
      case rel => exact ⟨k + 1, _, by omega, by go_num, by rw [HTK.out]; exact HST.out, HB7.out.setCell (Nat.le_refl _) _⟩
      case measure => simp [intOf]; omega
    · have hkn : k = S'.length := by omega
      have HFI := Lib.hid (show FillS w5.heap.size S'.length wr S' av by rw [hkn, List.take_length] at hfi; exact hfi)
      have HBE := Lib.hid hbe
      clear hkn hfi hbe
      go_wp2_with fail
      go_ret
      have hd := HFI.out.done rfl (by unfold maxLen; omega)
      exact ⟨_, _, rfl, hd, HBE.out⟩

set_option maxHeartbeats 4000000 in
set_option maxRecDepth 100000 in
theorem implSolutions_any (v v2 : Value) (fs : List LFact) (ls : List LLit) (R : List (List Int)) (hR : R = solsL fs ls) (w : World) (h : RdFacts w w.heap.size v fs) (h2 : RdLits w w.heap.size v2 ls) (hn : fs.length ≤ 1048576) (ht : tot fs ≤ 1048576) (hl : ls.length + totL ls ≤ 1048576) :
    Calls Tryz.prog 12 #[v, v2] w fun e w' => ∃ A c, e = .returned (.slice A R.length c) ∧ OwnRows w' w.heap.size w'.heap.size (.slice A R.length c) R ∧ Below w.heap.size w w' := by
  have H := Lib.hid h
  have H2 := Lib.hid h2
  have HR := Lib.hid hR
  obtain ⟨A, c, rfl, hc, _⟩ := h
  obtain ⟨A2, c2, rfl, hc2, _⟩ := h2
  clear hR
  obtain ⟨sf, hsf⟩ : ∃ sf, sf = bodySafe ls := ⟨_, rfl⟩
  obtain ⟨cf, hcf⟩ : ∃ cf, cf = constsL fs := ⟨_, rfl⟩
  have CB := Lib.hid (implBodySafe_any (.slice A2 ls.length c2) ls w H2.out hl)
  rw [← hsf] at CB
  have CH := Lib.hid (fun W (hW : Below w.heap.size w W) => haveConstants_any (.slice A fs.length c) fs cf hcf.symm W (H.out.on hW) hn ht)
  have HSF := Lib.hid hsf
  have HCF := Lib.hid hcf
  clear hsf hcf
  cases sf
  · have HE := Lib.hid (show R = [] by rw [HR.out]; unfold solsL; rw [← HSF.out]; rfl)
    go_enter Tryz.func12, Tryz.ntmps12
    go_wp2_with (go_at_call 41; refine CB.out.mono ?_; rintro e w1 ⟨rfl, hb1⟩; have HB1 := Lib.hid hb1; clear hb1)
    go_ret
    rw [HE.out]
    exact ⟨none, 0, rfl, OwnRows.nil _ _ _, HB1.out⟩
  · cases cf
    · have HE := Lib.hid (show R = [] by rw [HR.out]; unfold solsL; rw [← HSF.out, ← HCF.out]; rfl)
      go_enter Tryz.func12, Tryz.ntmps12
      go_wp2_with (first
        | (go_at_call 41; refine CB.out.mono ?_; rintro e w1 ⟨rfl, hb1⟩; have HB1 := Lib.hid hb1; clear hb1)
        | (go_at_call 42; refine (CH.out _ HB1.out).mono ?_; rintro e w2 ⟨rfl, hb2⟩; have HB2 := Lib.hid (bthen HB1.out hb2); clear hb2))
      go_ret
      rw [HE.out]
      exact ⟨none, 0, rfl, OwnRows.nil _ _ _, HB2.out⟩
    · have CQ := Lib.hid (fun W (hW : Below w.heap.size w W) => solutionsIn_any (.slice A fs.length c) (.slice A2 ls.length c2) fs ls HSF.out.symm HCF.out.symm W (H.out.on hW) (H2.out.on hW) hn ht hl)
      go_enter Tryz.func12, Tryz.ntmps12
      go_wp2_with (first
        | (go_at_call 41; refine CB.out.mono ?_; rintro e w1 ⟨rfl, hb1⟩; have HB1 := Lib.hid hb1; clear hb1)
        | (go_at_call 42; refine (CH.out _ HB1.out).mono ?_; rintro e w2 ⟨rfl, hb2⟩; have HB2 := Lib.hid (bthen HB1.out hb2); clear hb2)
        | (go_at_call 44; refine (CQ.out _ HB2.out).mono ?_; rintro e w5 ⟨A4, c4, lo5, hi5, S', rfl, hRS, hlo5, hz45, own5, hok5, hSn, b5⟩
           have CNL := Lib.hid (numberLists_any hi5 A4 c4 S' w5 own5.rd hz45 hok5 hSn)
           have HRS := Lib.hid (show S' = R by rw [hRS, HR.out])
           have HB5 := Lib.hid (bthen HB2.out b5)
           clear hRS own5 hok5 b5 hlo5 hz45 hSn)
        | (go_at_call 43; refine CNL.out.mono ?_; rintro e w6 ⟨A6, c6, rfl, o6, b6⟩; have H6 := Lib.hid (And.intro o6 b6); clear o6 b6))
      go_ret
      obtain ⟨o6, b6⟩ := H6.out
      rw [← HRS.out]
      exact ⟨_, _, rfl, o6.mono HB5.out.size (Nat.le_refl _), bthen HB5.out b6⟩

end Go.Proofs.YtokmmloakahkhaaGreatDoor
/-
  The walk of headsIn.
-/
namespace Go.Proofs.YtokmmloakahkhaaGreatDoor
open Go.RowKit

def zeroT : List Nat := List.replicate 24 0
def hdOf (r : LRule) (b : List Int) : LFact := (r.1.1, r.1.2.map (termVal b))
theorem tabWith_snoc (T : List Nat) (fs : List LFact) (f : LFact) : tabWith T (fs ++ [f]) = setBit (tabWith T fs) f.1.toNat (numF f.2) := by
  unfold tabWith
  rw [List.foldl_append]
  rfl
theorem TabAt.zero (w : World) : TabAt (w.alloc (Obj.cells (tabCells zeroT) 64)) w.heap.size zeroT :=
  ⟨Blk.new _ _ _, by simp [zeroT], fun x hx => by
    obtain ⟨_, rfl⟩ := List.mem_replicate.1 hx
    decide⟩

set_option maxHeartbeats 8000000 in
set_option maxRecDepth 100000 in
theorem headsIn_any (v v2 : Value) (ar : List Int) (rs : List LRule) (fs : List LFact) (w : World) (h : RdRules w w.heap.size v rs) (h2 : RdFacts w w.heap.size v2 fs) (har : arityOk ar = true) (hfit : ∀ r ∈ rs, ruleFits ar r = true) (hsz : totR rs ≤ 1048576) (hrl : rs.length ≤ 1048576)
    (hn : fs.length ≤ 1048576) (ht : tot fs ≤ 1048576) (hc : ∀ f ∈ fs, f.2.all constOk = true) (hnd : fs.Nodup) :
    Calls Tryz.prog 31 #[v, v2] w fun e w' => ∃ F, e = .returned (.agg (tabCells (tabWith zeroT F))) ∧ (∀ f, f ∈ F ↔ f ∈ headsAll rs fs) ∧ Below w.heap.size w w' := by
  have H := Lib.hid h
  have H2 := Lib.hid h2
  obtain ⟨A, c, rfl, hcA, _⟩ := h
  obtain ⟨A2, c2, rfl, hc2, _⟩ := h2
  have HFIT := Lib.hid hfit
  clear hfit
  go_enter Tryz.func31, Tryz.ntmps31
  go_upto_region 2 with fail
  obtain ⟨w0, hw0⟩ : ∃ w0, w0 = (w.alloc (Obj.cells (tabCells zeroT) 64)).alloc (Obj.cells (tabCells zeroT) 64) := ⟨_, rfl⟩
  obtain ⟨g, hg⟩ : ∃ g, g = w.heap.size + 1 := ⟨_, rfl⟩
  have T0 : TabAt w0 g zeroT := by rw [hw0, hg]; have := TabAt.zero (w.alloc (Obj.cells (tabCells zeroT) 64)); simpa using this
  have R0 : TabAt w0 w.heap.size zeroT := by rw [hw0]; exact (TabAt.zero w).below (below1 _ _) (by simp)
  have B0 : Below w.heap.size w w0 := by rw [hw0]; exact bthen (below1 _ _) (below1 _ _)
  rw [show ((w.alloc (Obj.cells #[Value.int IntKind.u64 0, Value.int IntKind.u64 0, Value.int IntKind.u64 0, Value.int IntKind.u64 0, Value.int IntKind.u64 0, Value.int IntKind.u64 0, Value.int IntKind.u64 0, Value.int IntKind.u64 0, Value.int IntKind.u64 0, Value.int IntKind.u64 0, Value.int IntKind.u64 0, Value.int IntKind.u64 0, Value.int IntKind.u64 0, Value.int IntKind.u64 0, Value.int IntKind.u64 0, Value.int IntKind.u64 0, Value.int IntKind.u64 0, Value.int IntKind.u64 0, Value.int IntKind.u64 0, Value.int IntKind.u64 0, Value.int IntKind.u64 0, Value.int IntKind.u64 0, Value.int IntKind.u64 0, Value.int IntKind.u64 0] 64)).alloc (Obj.cells #[Value.int IntKind.u64 0, Value.int IntKind.u64 0, Value.int IntKind.u64 0, Value.int IntKind.u64 0, Value.int IntKind.u64 0, Value.int IntKind.u64 0, Value.int IntKind.u64 0, Value.int IntKind.u64 0, Value.int IntKind.u64 0, Value.int IntKind.u64 0, Value.int IntKind.u64 0, Value.int IntKind.u64 0, Value.int IntKind.u64 0, Value.int IntKind.u64 0, Value.int IntKind.u64 0, Value.int IntKind.u64 0, Value.int IntKind.u64 0, Value.int IntKind.u64 0, Value.int IntKind.u64 0, Value.int IntKind.u64 0, Value.int IntKind.u64 0, Value.int IntKind.u64 0, Value.int IntKind.u64 0, Value.int IntKind.u64 0] 64)) = w0 from by rw [hw0]; rfl, show w.heap.size + 1 = g from hg.symm]
  have hgs : g < w0.heap.size := T0.1.lt
  have hgw : w.heap.size ≤ g := by omega
  have HT0 := Lib.hid T0
  have HR0 := Lib.hid R0
  have HGE := Lib.hid hg
  clear hw0 T0 R0 hg
  go_wp2_with fail
  go_loopw [12] (fun i wr => ∃ (k : Nat) (F : List LFact), k ≤ rs.length ∧ i = .int .i64 k ∧ TabAt wr g (tabWith zeroT F) ∧ (∀ f, f ∈ F ↔ f ∈ headsAll (rs.take k) fs) ∧ Only g (g + 1) w0 wr) (fun i _ => rs.length - (intOf i).toNat)
  case atStart => exact ⟨0, [], Nat.zero_le _, rfl, HT0.out, fun f => by simp [headsAll, setOf], Only.refl _ _ _⟩
  case round =>
    obtain ⟨k, F, hk, rfl, hat, hmem, hon⟩ := hrel
    have BW : Below w.heap.size w wr := Only.then_ B0 hon hgw
    have HON := Lib.hid hon
    have HMEM := Lib.hid hmem
    have hsz0 := hon.size
    by_cases hlt : k < rs.length
    · obtain ⟨b, o, u0, u1, u2, rfl, hbB, k0, k1, k2, rfl, q1, q2⟩ := (H.out.below BW (Nat.le_refl _)).get hlt
      have hwr : w.heap.size ≤ wr.heap.size := BW.size
      have Q1 := Lib.hid q1
      have Q2 := Lib.hid q2
      obtain ⟨A3, c3, rfl, _⟩ := q1
      obtain ⟨A4, c4, rfl, _⟩ := q2
      have hfk := HFIT.out _ (List.getElem_mem hlt)
      have HW := Lib.hid hfk
      have hparts := hfk
      simp only [ruleFits, atomFits, Bool.and_eq_true, decide_eq_true_eq] at hparts
      have HLE := Lib.hid (place_short har hparts.1.1)
      have HTM := Lib.hid hparts.1.2
      have HPR := Lib.hid (show 0 ≤ rs[k].1.1 ∧ rs[k].1.1 < 24 from by
        have : ar.length ≤ 24 := by simp only [arityOk, Bool.and_eq_true, decide_eq_true_eq] at har; exact har.1
        omega)
      have hsk := sz_le_totR rs k hlt
      unfold szR at hsk
      have HSF := Lib.hid (SafeB.of (fits_body hfk))
      have HQL := Lib.hid (show (questL fs rs[k].2).length = rs[k].2.length by simp [questL])
      have CQ := Lib.hid (fun W (hW : Below wr.heap.size wr W) => questionsOf_any (.slice A2 fs.length c2) (.slice A4 rs[k].2.length c4) fs rs[k].2 W (H2.out.on (bthen BW hW)) ((Q2.out.more hwr).on hW) (by omega))
      clear hparts hfk hon hmem
      go_upto_region 5 with fail
      obtain ⟨wv, hwv⟩ : ∃ wv, wv = wr.alloc (Obj.cells #[Value.int .i64 rs[k].1.1, Value.slice A3 rs[k].1.2.length c3, Value.slice A4 rs[k].2.length c4] 38) := ⟨_, rfl⟩
      have bv : Below wr.heap.size wr wv := by rw [hwv]; exact below1 _ _
      have X : Blk wv wr.heap.size 38 #[.int .i64 rs[k].1.1, .slice A3 rs[k].1.2.length c3, .slice A4 rs[k].2.length c4] := by rw [hwv]; exact Blk.new _ _ _
      rw [← hwv]
      have hvl := X.lt
      clear hwv k0 k1 k2
      have x2 : wv.cell? ⟨wr.heap.size, 2, none⟩ = some (.slice A4 rs[k].2.length c4) := X.cell 2
      have HQK := Lib.hid (HSF.out.qok hc hn ht (by omega))
      go_wp2_with (first
        | (go_at_call 71; refine (CQ.out _ bv).mono ?_; rintro e w3 ⟨g3, us, rfl, hg3, at3, rd3, hb3⟩
           have CS := solve_any g3 rs[k].2.length wv.heap.size us (questL fs rs[k].2) w3 at3 rd3 hg3 (by rw [HQL.out]; omega) HQK.out (HSF.out.quests fs)
           rw [HQL.out] at CS
           have HCS := Lib.hid CS
           have H3 := Lib.hid (And.intro hg3 hb3)
           clear CS hg3 at3 rd3 hb3)
        | (go_at_call 70; refine HCS.out.mono ?_; rintro e w4 ⟨A5, c5, S, rfl, own4, on4, is4⟩
           have H4 := Lib.hid (And.intro own4 (And.intro on4 is4))
           clear own4 on4 is4))
      obtain ⟨hg3, hb3⟩ := H3.out
      obtain ⟨own4, on4, is4⟩ := H4.out
      have hs3 := hb3.size
      have b34 : Below wv.heap.size wv w4 := Only.then_ hb3 on4 hg3
      have hl4 : S.length ≤ 65536 := binds_len is4.1 is4.ok
      have X4 := Lib.hid (X.below b34 hvl)
      have hgr : g + 1 ≤ wr.heap.size := hat.1.lt
      have T4 := Lib.hid (hat.below (bthen bv b34) hat.1.lt)
      have ON4 := Lib.hid (HON.out.trans (Only.of_below (bthen bv b34)))
      have OW4 := Lib.hid own4
      have IS4 := Lib.hid is4
      have B4 := Lib.hid (bthen bv b34)
      have hs4 := b34.size
      clear hg3 hb3 own4 on4 is4 H3 H4 HCS CQ x2 X b34 hat HQK
      obtain ⟨wo, rfl⟩ : ∃ wo, wo = wr := ⟨_, rfl⟩
      go_loopw [22] (fun i wr => ∃ q : Nat, q ≤ S.length ∧ i = .int .i64 q ∧ TabAt wr g (tabWith zeroT (F ++ (S.take q).map (hdOf rs[k]))) ∧ Only g (g + 1) w4 wr) (fun i _ => S.length - (intOf i).toNat)
      case atStart => exact ⟨0, Nat.zero_le _, rfl, by simpa using T4.out, Only.refl _ _ _⟩
      case round =>
        obtain ⟨q, hq, rfl, htx, honx⟩ := hrel
        have hsx := honx.size
        have hwx : w.heap.size ≤ wr.heap.size := by omega
        by_cases hltq : q < S.length
        · have hrd := (OW4.out.only honx (.inr (by omega))).rd
          obtain ⟨A7, c7, e7, _, hx⟩ := hrd
          injection e7 with e7 _ e8
          subst e7 e8
          obtain ⟨b7, o7, rfl, _, hx⟩ := hx (by omega)
          have hck : wr.cell? ⟨b7, o7 + q, none⟩ = some (.int .u32 ((encB S[q] : Nat) : Int)) := hx q hltq
          have HBK := Lib.hid (IS4.out.ok _ (List.getElem_mem hltq))
          have HCO := Lib.hid (show (rs[k].1.2.map (termVal S[q])).all constOk = true from by
            have := sols_head HW.out IS4.out _ (List.getElem_mem hltq)
            simp only [headOk, Bool.and_eq_true] at this
            exact this.2)
          have Xx := X4.out.only honx (.inr hgr)
          obtain ⟨p, hpe⟩ : ∃ p : Nat, rs[k].1.1 = (p : Int) := ⟨rs[k].1.1.toNat, by have := HPR.out; omega⟩
          have hp24 : p < 24 := by have := HPR.out; omega
          obtain ⟨n, hne⟩ : ∃ n, n = numF (rs[k].1.2.map (termVal S[q])) := ⟨_, rfl⟩
          have HNE := Lib.hid hne
          have hn64 : n < 64 := by rw [hne]; exact numF_64 HCO.out (by rw [List.length_map]; exact HLE.out)
          obtain ⟨T, hTe⟩ : ∃ T, T = tabWith zeroT (F ++ (S.take q).map (hdOf rs[k])) := ⟨_, rfl⟩
          have HTK := Lib.hid (show tabWith zeroT (F ++ (S.take (q + 1)).map (hdOf rs[k])) = setBit T p n from by
            rw [take_snoc S q hltq, List.map_append, ← List.append_assoc, List.map_singleton, tabWith_snoc, hTe, hne]
            show setBit _ rs[k].1.1.toNat _ = _
            rw [hpe]
            rfl)
          rw [← hTe] at htx
          have HTV := Lib.hid (show TabAt wr.drew g T from htx)
          have q0 : wr.cell? ⟨wo.heap.size, 0, none⟩ = some (.int .i64 p) := by rw [← hpe]; exact Xx.cell 0
          have q1 : wr.cell? ⟨wo.heap.size, 1, none⟩ = some (.slice A3 rs[k].1.2.length c3) := Xx.cell 1
          have RX := Lib.hid (show RdInts wr w.heap.size (.slice A3 rs[k].1.2.length c3) rs[k].1.2 from (Q1.out.below B4.out hwr).below (honx.below hgw (by omega)) (Nat.le_refl _))
          have HONX := Lib.hid (show Only g (g + 1) w4 wr.drew from honx.drew')
          clear hx htx honx hpe hne hTe Xx
          go_upto_region 8 with fail
          obtain ⟨SS, hSS⟩ : ∃ SS : World → Prop, SS = (fun W => Below wr.heap.size wr W ∧ W.cell? ⟨wo.heap.size, 0, none⟩ = some (.int .i64 p) ∧ W.cell? ⟨wo.heap.size, 1, none⟩ = some (.slice A3 rs[k].1.2.length c3)) := ⟨_, rfl⟩
          have HB := Lib.hid (show ∀ W, SS W → (Below wr.heap.size wr W ∧ W.cell? ⟨wo.heap.size, 0, none⟩ = some (.int .i64 p) ∧ W.cell? ⟨wo.heap.size, 1, none⟩ = some (.slice A3 rs[k].1.2.length c3)) from by rw [hSS]; exact fun W hW => hW)
          have HS := Lib.hid (show ∀ W, Below wr.heap.size wr W → SS W from by
            rw [hSS]
            exact fun W hW => ⟨hW, (hW.cell (World.block_lt_of_cell? _ _ q0)).trans q0, (hW.cell (World.block_lt_of_cell? _ _ q1)).trans q1⟩)
          clear hSS
          have BB : Below wr.heap.size wr wr.drew := (Below.refl _ _).drew
          have SB := HS.out _ BB
          refine wp_region_rel SS 8 9 (by kernel_rfl) rfl ?_
          refine wpAnyR_pure (i := 0) (oi := _) ?v0 rfl rfl (by kernel_rfl) (by decide) (fun _ _ _ h => h) rfl ?hy0 (fun _ => SB) ?rest0
          case hy0 => (intro W; go_simp; (try with_reducible rfl))
          try simp only [List.setIfInBounds_toArray, List.set_cons_zero, List.set_cons_succ]
          refine wpAnyR_pure (i := 1) (oi := _) ?v1 rfl rfl (by kernel_rfl) (by decide) (fun _ _ _ h => h) rfl ?hy1 (fun _ => SB) ?rest1
          case hy1 => (intro W; go_simp; (try with_reducible rfl))
          try simp only [List.setIfInBounds_toArray, List.set_cons_zero, List.set_cons_succ]
          refine wpAnyR_take (i := 2) (oi := _) ?v2 rfl rfl (by kernel_rfl) (fun _ _ _ h => h) rfl ?hy2 SB ?rest2
          case hy2 => (intro W hW; obtain ⟨_, e0, e1⟩ := HB.out W hW; go_simp; (try with_reducible rfl))
          try simp only [List.setIfInBounds_toArray, List.set_cons_zero, List.set_cons_succ]
          refine wpAnyR_pure (i := 3) (oi := _) ?v3 rfl rfl (by kernel_rfl) (by decide) (fun _ _ _ h => h) rfl ?hy3 (fun _ => SB) ?rest3
          case hy3 => (intro W; go_simp; (try with_reducible rfl))
          try simp only [List.setIfInBounds_toArray, List.set_cons_zero, List.set_cons_succ]
          refine wpAnyR_pure (i := 4) (oi := _) ?v4 rfl rfl (by kernel_rfl) (by decide) (fun _ _ _ h => h) rfl ?hy4 (fun _ => SB) ?rest4
          case hy4 => (intro W; go_simp; (try with_reducible rfl))
          try simp only [List.setIfInBounds_toArray, List.set_cons_zero, List.set_cons_succ]
          refine wpAnyR_pure (i := 5) (oi := _) ?v5 rfl rfl (by kernel_rfl) (by decide) (fun _ _ _ h => h) rfl ?hy5 (fun _ => SB) ?rest5
          case hy5 => (intro W; go_simp; (try with_reducible rfl))
          try simp only [List.setIfInBounds_toArray, List.set_cons_zero, List.set_cons_succ]
          refine wpAnyR_take (i := 6) (oi := _) ?v6 rfl rfl (by kernel_rfl) (fun _ _ _ h => h) rfl ?hy6 SB ?rest6
          case hy6 => (intro W hW; obtain ⟨_, e0, e1⟩ := HB.out W hW; go_simp; (try with_reducible rfl))
          try simp only [List.setIfInBounds_toArray, List.set_cons_zero, List.set_cons_succ]
          refine wpAnyR_one (i := 7) (by kernel_rfl) rfl (fun K hK => ?_)
          try rw [if_pos (show Region.wanted _ _ = true from rfl)]
          go_simp
          refine (number_any (.slice A3 rs[k].1.2.length c3) S[q] rs[k].1.2 HBK.out HTM.out w.heap.size _ (RX.out.below BB hwx) HCO.out HLE.out).mono ?_
          rw [← HNE.out]
          rintro e W7 ⟨rfl, rfl⟩
          refine hK.out _ _ (fun _ => SB) ?_
          clear hK K
          try simp only [List.setIfInBounds_toArray, List.set_cons_zero, List.set_cons_succ, Act.put]
          refine wpAnyR_one (i := 8) (by kernel_rfl) rfl (fun K hK => ?_)
          try rw [if_pos (show Region.wanted _ _ = true from rfl)]
          go_simp
          refine (add_any g p n T _ HTV.out hp24 hn64).mono ?_
          rintro e W8 ⟨rfl, ht8, ho8⟩
          have H8 := Lib.hid (And.intro ht8 ho8)
          clear ht8 ho8
          refine hK.out _ _ (fun hf => absurd hf (by decide)) ?_
          clear hK K
          try simp only [List.setIfInBounds_toArray, List.set_cons_zero, List.set_cons_succ, Act.put]
          refine wpAnyR_done (by kernel_rfl) ?_
          go_wp2_with fail
          go_roundw
          case rel => exact ⟨q + 1, by omega, by go_num, by rw [HTK.out]; exact H8.out.1, HONX.out.trans H8.out.2⟩
          case measure => simp [intOf]; omega
        · have HQ := Lib.hid (show S.take q = S by rw [show q = S.length by omega, List.take_length])
          have HTX := Lib.hid htx
          have HOX := Lib.hid (ON4.out.trans honx)
          clear htx honx
          go_wp2_with fail
          go_roundw
          case rel =>
            refine ⟨k + 1, F ++ S.map (hdOf rs[k]), by omega, by go_num, by have := HTX.out; rw [HQ.out] at this; exact this, fun f => ?_, HOX.out⟩
            rw [headsAll_snoc rs fs k hlt, setOf_mem, List.mem_append, List.mem_append, HMEM.out f, headsL_mem HW.out IS4.out hc hnd, List.mem_map]
            constructor
            · rintro (h | ⟨b, hb, e⟩)
              · exact .inl h
              · exact .inr ⟨b, hb, e.symm⟩
            · rintro (h | ⟨b, hb, e⟩)
              · exact .inl h
              · exact .inr ⟨b, hb, e.symm⟩
          case measure => simp [intOf]; omega
    · obtain rfl : k = rs.length := by omega
      have HMF := Lib.hid (show ∀ f, f ∈ F ↔ f ∈ headsAll rs fs from by have := HMEM.out; rw [List.take_length] at this; exact this)
      have RR := HR0.out.only hon (.inl (by have := HGE.out; omega))
      obtain ⟨hbk, hln, _⟩ := hat
      obtain ⟨cs, hcs⟩ : ∃ cs, cs = tabCells (tabWith zeroT F) := ⟨_, rfl⟩
      have hcz : cs.size = 24 := by rw [hcs]; simp [tabCells, hln]
      have HONE := Lib.hid (show cs.all (·.oneCell') = true from by
        rw [hcs]
        unfold tabCells
        rw [List.all_toArray, List.all_map, List.all_eq_true]
        intro x _
        rfl)
      rw [← hcs] at hbk
      have hsi : (Tryz.prog.info? 64).map (·.size) = some cs.size := by rw [hcz]; kernel_rfl
      have hold : (tabCells zeroT).size = cs.size := by rw [hcz]; rfl
      have HOLD := Lib.hid hold
      have HCS := Lib.hid hcs
      have HBE := Lib.hid BW
      have HSI := Lib.hid hsi
      have HBK := Lib.hid hbk
      have HRR := Lib.hid RR.1
      clear hcs hcz hon hmem hln hold hsi hbk RR
      go_wp2_with (first
        | (refine wpList_load_row rfl 64 _ rfl g rfl 64 cs (0, 0) _ HBK.out Tryz.underlying64 rfl HSI.out ?_)
        | (refine wpList_store_row rfl 64 _ _ rfl w.heap.size cs rfl rfl 64 (tabCells zeroT) HRR.out HSI.out HOLD.out HONE.out ?_))
      refine bodyPost_ret_by (v := .agg cs) (results_cell_row Tryz.results31 _ _ w.heap.size _ cs (0, 0) _ rfl (setRow_heap _ _ _ cs _ _ HRR.out) Tryz.underlying64 rfl HSI.out) rfl ?_
      exact ⟨F, by rw [HCS.out], HMF.out, below_setRow HBE.out (Nat.le_refl _) _⟩

end Go.Proofs.YtokmmloakahkhaaGreatDoor
/-
  hasAll: a table has all of another one.
-/
namespace Go.Proofs.YtokmmloakahkhaaGreatDoor
open Go.RowKit

def wordIn (T2 T : List Nat) (p : Nat) : Bool := bits .andNot .u64 ((T2.getD p 0 : Nat) : Int) ((T.getD p 0 : Nat) : Int) == 0
def tabIn (T2 T : List Nat) : Bool := (List.range 24).all (wordIn T2 T)

theorem run_index_tab {cs : Array Value} {k : Nat} {v : Value} (hk : k < 24) (hc : cs[k]? = some v) (W : World) :
    (Instr.index 64 (.agg cs) (.int .i64 (k : Int))).run Tryz.prog W = .ok v W := by
  have hks : k < cs.size := by
    rcases Nat.lt_or_ge k cs.size with h | h
    · exact h
    · rw [Array.getElem?_eq_none h] at hc; cases hc
  simp [Instr.index, run_underlying Tryz.underlying64, asIntOf, hc, go_sem]
  intro h
  omega

end Go.Proofs.YtokmmloakahkhaaGreatDoor
/-
  The walk of the program's FactsOk.
-/
namespace Go.Proofs.YtokmmloakahkhaaGreatDoor
open Go.RowKit

set_option maxHeartbeats 1000000 in
set_option maxRecDepth 100000 in
theorem implFactsOk_any (v v2 : Value) (ar : List Int) (fs : List LFact) (w : World) (h : RdInts w w.heap.size v ar) (h2 : RdFacts w w.heap.size v2 fs) (hr : ar.length ≤ 1048576) (hn : fs.length ≤ 1048576) (ht : tot fs ≤ 1048576) :
    Calls Tryz.prog 11 #[v, v2] w fun e w' => e = .returned (.bool (factsOk ar fs)) ∧ Below w.heap.size w w' := by
  have H := Lib.hid h
  have H2 := Lib.hid h2
  obtain ⟨A, c, rfl, hc, _⟩ := h
  obtain ⟨A2, c2, rfl, hc2, _⟩ := h2
  go_enter Tryz.func11, Tryz.ntmps11
  go_wp2_with (fail)
  refine (arityOk_any _ ar _ H.out (by omega)).mono ?_
  rintro e w1 ⟨rfl, hb1⟩
  by_cases ha : arityOk ar = true
  · rw [ha]
    have HA := Lib.hid ha
    clear ha
    go_wp2_with (fail)
    go_loopw [5, 6, 12] (fun _ _ i wr => ∃ k : Nat, k ≤ fs.length ∧ i = .int .i64 k ∧ OkTo ar fs k ∧ Below w.heap.size w wr) (fun _ _ i _ => fs.length - (intOf i).toNat)
    case atStart => exact ⟨0, Nat.zero_le _, rfl, by simp [OkTo], hb1⟩
    case round =>
      obtain ⟨k, hk, rfl, hs, hbe⟩ := hrel
      by_cases hlt : k < fs.length
      · obtain ⟨b, o, A3, c3, rfl, hbB, k1, k2, k3⟩ := (H2.out.on hbe).get hlt
        have K3 := Lib.hid (show RdFact wr wr.heap.size (.agg #[.int .i64 fs[k].1, .slice A3 fs[k].2.length c3]) fs[k] from ⟨_, rfl, k3⟩)
        have hln := len_le_tot fs k hlt
        clear k3
        go_wp2_with (fail)
        obtain ⟨w2, hw2⟩ : ∃ w2, w2 = wr.alloc (Obj.cells #[Value.int IntKind.i64 fs[k].1, Value.slice A3 fs[k].2.length c3] 41) := ⟨_, rfl⟩
        have B2 : Below wr.heap.size wr w2 := by rw [hw2]; exact below1 _ _
        have x2 : Blk w2 wr.heap.size 41 #[.int .i64 fs[k].1, .slice A3 fs[k].2.length c3] := by rw [hw2]; exact Blk.new _ _ _
        rw [← hw2]
        clear hw2
        refine (factFits_any _ _ ar fs[k] _ ((H.out.on hbe).on B2) (K3.out.on B2) (by omega)).mono ?_
        rintro e w3 ⟨rfl, hb3⟩
        have B3 := bthen B2 hb3
        have BW3 := bthen hbe B3
        have x3 := x2.below hb3 x2.lt
        by_cases hff : factFits ar fs[k] = true
        · rw [hff]
          rcases Nat.eq_zero_or_pos k with hk0 | hk0
          · have hd : decide (0 < k) = false := by simp [hk0]
            have HS := Lib.hid (hs.step (round_first hlt hff hk0) : OkTo ar fs (k + 1))
            clear hs hk0 hff
            go_wp2_with (fail)
            refine wp_region_later (by kernel_rfl) (by kernel_rfl) ?_
            repeat (go_big_quiet_step (fail))
            refine wpQuiet_nil ?_
            rintro _ ⟨xq, rfl⟩
            go_wp2_with (fail)
            go_roundw
            case rel => exact ⟨k + 1, by omega, by go_num, HS.out, bthen BW3 xq.2⟩
            case measure => simp [intOf]; omega
          · obtain ⟨j, rfl⟩ : ∃ j, k = j + 1 := ⟨k - 1, by omega⟩
            have hltj : j < fs.length := by omega
            obtain ⟨b', o', A4, c4, e4, hbB', m1, m2, m3⟩ := (H2.out.on BW3).get hltj
            simp only [Option.some.injEq, Addr.mk.injEq, and_true] at e4
            obtain ⟨rfl, rfl⟩ := e4
            have K4 := Lib.hid (show RdFact w3 w3.heap.size (.agg #[.int .i64 fs[j].1, .slice A4 fs[j].2.length c4]) fs[j] from ⟨_, rfl, m3⟩)
            have hlnj := len_le_tot fs j hltj
            have M1 := later_cell m1
            have M2 := later_cell m2
            have X0 := later_cell (x3.cell 0 : w3.cell? ⟨wr.heap.size, 0, none⟩ = some (.int .i64 fs[j + 1].1))
            have X1 := later_cell (x3.cell 1 : w3.cell? ⟨wr.heap.size, 1, none⟩ = some (.slice A3 fs[j + 1].2.length c3))
            have CO := Lib.hid (fun x : Later w3 => implFactOrder_any _ _ fs[j] fs[j + 1] x.val (K4.out.on x.2) ((K3.out.on B3).on x.2) (by omega) (by omega))
            clear m1 m2 m3 k1 k2
            by_cases hlo : factOrder fs[j] fs[j + 1] < 0
            · have hd : decide (0 ≤ factOrder fs[j] fs[j + 1]) = false := by simp; omega
              have HS := Lib.hid (hs.step (by rw [round_next hlt hltj hff]; simp [hlo]) : OkTo ar fs (j + 1 + 1))
              clear hs hff
              go_wp2_with (fail)
              refine wp_region_later (by kernel_rfl) (by kernel_rfl) ?_
              repeat (go_big_quiet_step ((go_at_call 33; exact later_of (CO.out _))))
              refine wpQuiet_nil ?_
              rintro _ ⟨xq, rfl⟩
              go_wp2_with (fail)
              go_roundw
              case rel => exact ⟨j + 1 + 1, by omega, by go_num, HS.out, bthen BW3 xq.2⟩
              case measure => simp [intOf]; omega
            · have hd : decide (0 ≤ factOrder fs[j] fs[j + 1]) = true := by simp; omega
              have HE := Lib.hid (show factsOk ar fs = false from round_not hlt (by rw [round_next hlt hltj hff]; simp [hlo]))
              clear hs hff
              go_wp2_with (fail)
              refine wp_region_later (by kernel_rfl) (by kernel_rfl) ?_
              repeat (go_big_quiet_step ((go_at_call 33; exact later_of (CO.out _))))
              refine wpQuiet_nil ?_
              rintro _ ⟨xq, rfl⟩
              go_wp2_with (fail)
              go_ret
              exact ⟨ret_bool HE.out.symm, bthen BW3 xq.2⟩
        · have HE := Lib.hid (show factsOk ar fs = false from round_not hlt (round_unfit hlt (by simpa using hff)))
          rw [show factFits ar fs[k] = false by simpa using hff]
          clear hs hff
          go_wp2_with (fail)
          go_ret
          exact ⟨ret_bool HE.out.symm, BW3⟩
      · have hkn : k = fs.length := by omega
        have HE := Lib.hid (show factsOk ar fs = true by unfold factsOk; unfold OkTo at hs; rw [← hkn, hs, HA.out]; rfl)
        clear hkn hs
        go_wp2_with (fail)
        go_ret
        exact ⟨ret_bool HE.out.symm, hbe⟩
  · have HE := Lib.hid (show factsOk ar fs = false by simp [factsOk, ha])
    rw [show arityOk ar = false by simpa using ha]
    clear ha
    go_wp2_with (fail)
    go_ret
    exact ⟨ret_bool HE.out.symm, hb1⟩

end Go.Proofs.YtokmmloakahkhaaGreatDoor
/-
  The program's Closed, by its tables.
-/
namespace Go.Proofs.YtokmmloakahkhaaGreatDoor
open Go.RowKit

/-- What the program's Closed answers. -/
def ClosedT (p : LProg) (fs : List LFact) (R : Bool) : Prop := ((progOk p && factsOk p.1 fs) = false ∧ R = false) ∨ ((progOk p && factsOk p.1 fs) = true ∧ ∃ F, (∀ f, f ∈ F ↔ f ∈ headsAll p.2 fs) ∧ R = tabIn (tabWith zeroT F) (tabWith zeroT fs))

theorem tabWith_len (T : List Nat) (fs : List LFact) : (tabWith T fs).length = T.length := by
  induction fs generalizing T with
  | nil => rfl
  | cons f fs ih =>
    show (tabWith (setBit T f.1.toNat (numF f.2)) fs).length = _
    rw [ih]
    simp [setBit]
theorem tabCells_one (T : List Nat) : (tabCells T).all (·.oneCell') = true := by
  unfold tabCells
  rw [List.all_toArray, List.all_map, List.all_eq_true]
  intro x _
  rfl

end Go.Proofs.YtokmmloakahkhaaGreatDoor
/-
  Tables by their bits: one table stands in another as its facts do.
-/
namespace Go.Proofs.YtokmmloakahkhaaGreatDoor
open Go.RowKit

theorem setBit_bit {T : List Nat} {p q m n : Nat} (hp : p < T.length) : ((setBit T q m).getD p 0).testBit n = true ↔ (T.getD p 0).testBit n = true ∨ (q = p ∧ m = n) := by
  unfold setBit
  by_cases e : q = p
  · subst e
    have h1 : (T.set q (T.getD q 0 ||| 2 ^ m)).getD q 0 = T.getD q 0 ||| 2 ^ m := by simp [List.getD_eq_getElem?_getD, hp]
    rw [h1, Nat.testBit_or, Bool.or_eq_true, Nat.testBit_two_pow, decide_eq_true_eq]
    simp
  · have h1 : (T.set q (T.getD q 0 ||| 2 ^ m)).getD p 0 = T.getD p 0 := by simp [List.getD_eq_getElem?_getD, List.getElem?_set_ne e]
    rw [h1]
    simp [e]
theorem tabWith_bit {p n : Nat} : ∀ (fs : List LFact) (T : List Nat), p < T.length → (((tabWith T fs).getD p 0).testBit n = true ↔ (T.getD p 0).testBit n = true ∨ ∃ f ∈ fs, f.1.toNat = p ∧ numF f.2 = n)
  | [], T, _ => by simp [tabWith]
  | f :: fs, T, hp => by
    have e : tabWith T (f :: fs) = tabWith (setBit T f.1.toNat (numF f.2)) fs := rfl
    rw [e, tabWith_bit fs _ (by simpa [setBit] using hp), setBit_bit hp]
    constructor
    · rintro ((h | h) | ⟨g, hg, h⟩)
      · exact .inl h
      · exact .inr ⟨f, List.mem_cons_self .., h⟩
      · exact .inr ⟨g, List.mem_cons_of_mem _ hg, h⟩
    · rintro (h | ⟨g, hg, h⟩)
      · exact .inl (.inl h)
      · rcases List.mem_cons.1 hg with rfl | hg
        · exact .inl (.inr h)
        · exact .inr ⟨g, hg, h⟩
theorem zero_bit {p n : Nat} : (zeroT.getD p 0).testBit n = false := by
  have : zeroT.getD p 0 = 0 := by
    by_cases hp : p < zeroT.length
    · rw [getD_at hp]
      exact (List.mem_replicate.1 (List.getElem_mem hp)).2
    · simp [List.getD_eq_getElem?_getD, List.getElem?_eq_none (by omega : zeroT.length ≤ p)]
  rw [this, Nat.zero_testBit]
theorem numF_inj {xs ys : List Int} (hx : xs.all constOk = true) (hy : ys.all constOk = true) (hl : xs.length = ys.length) (h2 : xs.length ≤ 2) (e : numF xs = numF ys) : xs = ys := by
  rcases xs with _ | ⟨x, _ | ⟨y, _ | ⟨z, xs⟩⟩⟩ <;> rcases ys with _ | ⟨x', _ | ⟨y', _ | ⟨z', ys⟩⟩⟩ <;> (try (simp at hl; done)) <;> (try (simp at h2; done))
  · rfl
  · simp only [List.all_cons, List.all_nil, Bool.and_true] at hx hy
    have := const_range hx
    have := const_range hy
    simp [numF] at e
    simp; omega
  · simp only [List.all_cons, List.all_nil, Bool.and_true, Bool.and_eq_true] at hx hy
    have := const_range hx.1
    have := const_range hx.2
    have := const_range hy.1
    have := const_range hy.2
    simp [numF] at e
    simp; omega
/-- A fact's bit tells the fact. -/
theorem fact_of_bit {ar : List Int} {f g : LFact} (ha : arityOk ar = true) (hf : factFits ar f = true) (hg : factFits ar g = true) (e1 : f.1.toNat = g.1.toNat) (e2 : numF f.2 = numF g.2) : f = g := by
  obtain ⟨⟨h0, _, hl⟩, hc⟩ := fits_parts hf
  obtain ⟨⟨h0', _, hl'⟩, hc'⟩ := fits_parts hg
  have e : f.1 = g.1 := by omega
  rw [← e] at hl'
  exact Prod.ext e (numF_inj hc hc' (by omega) (fits_short ha hf) e2)

end Go.Proofs.YtokmmloakahkhaaGreatDoor
/-
  What the program's Closed answers by its tables is what the specification's answers.
-/
namespace Go.Proofs.YtokmmloakahkhaaGreatDoor
open Go.RowKit

theorem word_in {a b : Nat} (ha : a < 18446744073709551616) (hb : b < 18446744073709551616) : (bits .andNot .u64 (a : Int) (b : Int) == 0) = true ↔ ∀ n, a.testBit n = true → b.testBit n = true := by
  have e : (18446744073709551615 - b : Nat) = 2 ^ 64 - (b + 1) := by omega
  have hb' : b < 2 ^ 64 := hb
  rw [u64_andNot_nat a b ha hb, beq_iff_eq, e]
  constructor
  · intro h n hn
    have h0 : a &&& (2 ^ 64 - (b + 1)) = 0 := by exact_mod_cast h
    have h1 := congrArg (fun y => y.testBit n) h0
    simp only [Nat.testBit_and, Nat.zero_testBit, hn, Bool.true_and, Nat.testBit_two_pow_sub_succ hb'] at h1
    have hlt : n < 64 := by
      apply Classical.byContradiction
      intro h64
      have h2 := Nat.ge_two_pow_of_testBit hn
      have h3 : (2 : Nat) ^ 64 ≤ 2 ^ n := Nat.pow_le_pow_right (by decide) (by omega)
      omega
    simpa [hlt] using h1
  · intro h
    have h0 : a &&& (2 ^ 64 - (b + 1)) = 0 := by
      apply Nat.eq_of_testBit_eq
      intro n
      rw [Nat.testBit_and, Nat.zero_testBit, Nat.testBit_two_pow_sub_succ hb']
      cases hn : a.testBit n
      · rfl
      · rw [h n hn]
        simp
    rw [h0]
    rfl
theorem setBit_lt {T : List Nat} {p n : Nat} (h : ∀ x ∈ T, x < 18446744073709551616) (hn : n < 64) : ∀ x ∈ setBit T p n, x < 18446744073709551616 := by
  intro x hx
  rcases List.mem_or_eq_of_mem_set hx with h4 | rfl
  · exact h x h4
  · refine Nat.or_lt_two_pow (n := 64) ?_ (Nat.pow_lt_pow_right (by decide) hn)
    by_cases hp : p < T.length
    · rw [getD_at hp]
      exact h _ (List.getElem_mem hp)
    · simp [List.getD_eq_getElem?_getD, List.getElem?_eq_none (by omega : T.length ≤ p)]
theorem tabWith_lt : ∀ (fs : List LFact) (T : List Nat), (∀ x ∈ T, x < 18446744073709551616) → (∀ f ∈ fs, numF f.2 < 64) → ∀ x ∈ tabWith T fs, x < 18446744073709551616
  | [], _, h, _ => h
  | f :: fs, T, h, hf => tabWith_lt fs (setBit T f.1.toNat (numF f.2)) (setBit_lt h (hf f (List.mem_cons_self ..))) (fun g hg => hf g (List.mem_cons_of_mem _ hg))
theorem word_lt {T : List Nat} {p : Nat} (h : ∀ x ∈ T, x < 18446744073709551616) : T.getD p 0 < 18446744073709551616 := by
  by_cases hp : p < T.length
  · rw [getD_at hp]
    exact h _ (List.getElem_mem hp)
  · simp [List.getD_eq_getElem?_getD, List.getElem?_eq_none (by omega : T.length ≤ p)]
theorem zeroT_lt : ∀ x ∈ zeroT, x < 18446744073709551616 := fun x hx => by
  obtain ⟨_, rfl⟩ := List.mem_replicate.1 hx
  decide

theorem pickL_in (a b : List LFact) (t : Bool) (f : LFact) : f ∈ pickL a b t ↔ f ∈ a ∧ decide (f ∈ b) = t := by
  unfold pickL
  rw [setOf_mem, List.mem_filter, factsHas_in]
  simp

/-- One table of facts stands in another as its facts do. -/
theorem tabIn_facts {ar : List Int} (ha : arityOk ar = true) {F fs : List LFact} (hF : ∀ f ∈ F, factFits ar f = true) (hf : ∀ f ∈ fs, factFits ar f = true) : tabIn (tabWith zeroT F) (tabWith zeroT fs) = true ↔ ∀ f ∈ F, f ∈ fs := by
  have hl : ar.length ≤ 24 := by simp only [arityOk, Bool.and_eq_true, decide_eq_true_eq] at ha; exact ha.1
  have h64 : ∀ f, factFits ar f = true → numF f.2 < 64 := fun f h => numF_64 (fits_parts h).2 (fits_short ha h)
  have hz : ∀ p : Nat, p < 24 → p < zeroT.length := fun p hp => by simpa [zeroT] using hp
  unfold tabIn
  rw [List.all_eq_true]
  have hw : ∀ p, p < 24 → (wordIn (tabWith zeroT F) (tabWith zeroT fs) p = true ↔ ∀ n, (∃ f ∈ F, f.1.toNat = p ∧ numF f.2 = n) → ∃ f ∈ fs, f.1.toNat = p ∧ numF f.2 = n) := fun p hp => by
    unfold wordIn
    rw [word_in (word_lt (tabWith_lt F _ zeroT_lt fun f h => h64 f (hF f h))) (word_lt (tabWith_lt fs _ zeroT_lt fun f h => h64 f (hf f h)))]
    simp only [tabWith_bit _ _ (hz p hp), zero_bit, Bool.false_eq_true, false_or]
  constructor
  · intro h f hm
    have hp := (fits_parts (hF f hm)).1
    have h1 := (hw f.1.toNat (by omega)).1 (h _ (List.mem_range.2 (by omega))) (numF f.2) ⟨f, hm, rfl, rfl⟩
    obtain ⟨g, hg, e1, e2⟩ := h1
    rw [fact_of_bit ha (hF f hm) (hf g hg) e1.symm e2.symm]
    exact hg
  · intro h p hp
    rw [hw p (List.mem_range.1 hp)]
    rintro n ⟨f, hm, e⟩
    exact ⟨f, h f hm, e⟩

theorem closedT_eq {p : LProg} {fs : List LFact} {R : Bool} (h : ClosedT p fs R) : R = closedL p fs := by
  rcases h with ⟨h1, rfl⟩ | ⟨h1, F, hF, rfl⟩
  · unfold closedL
    rw [← Bool.and_assoc, h1, Bool.false_and]
  · rw [Bool.and_eq_true] at h1
    obtain ⟨har, _, hfit⟩ := prog_parts h1.1
    obtain ⟨_, hff, _⟩ := factsOk_parts h1.2
    unfold closedL
    rw [h1.1, h1.2, Bool.true_and, Bool.true_and, Bool.eq_iff_iff, tabIn_facts har (fun f h => headsAll_fits fs hfit f ((hF f).1 h)) hff, decide_eq_true_eq, List.length_eq_zero_iff, List.eq_nil_iff_forall_not_mem]
    constructor
    · intro h f hm
      rw [pickL_in] at hm
      have := h f ((hF f).2 hm.1)
      simp [this] at hm
    · intro h f hm
      apply Classical.byContradiction
      intro hn
      exact h f ((pickL_in _ _ _ _).2 ⟨(hF f).1 hm, by simpa using hn⟩)

end Go.Proofs.YtokmmloakahkhaaGreatDoor
/-
  The walk of the program's constantDigits, and AllFacts' plain mathematics.
-/
namespace Go.Proofs.YtokmmloakahkhaaGreatDoor
open Go.RowKit

/-- The digits of n in base six, so many places. -/
def digits (n p : Nat) : List Int := (List.range p).map fun j : Nat => ((n / 6 ^ (p - 1 - j) % 6 : Nat) : Int)
theorem digits_length (n p : Nat) : (digits n p).length = p := by simp [digits]
theorem div_pow (n k : Nat) : n / 6 ^ k / 6 = n / 6 ^ (k + 1) := by rw [Nat.div_div_eq_div_mul, Nat.pow_succ]
def digitCell (n p m j : Nat) : Value := if m ≤ j then .int .i64 ((n / 6 ^ (p - 1 - j) % 6 : Nat) : Int) else .int .i64 0

set_option maxHeartbeats 1000000 in
theorem constantDigits_six (n p : Nat) (w : World) (hn : n ≤ 1048576) (hp : p ≤ 6) :
    Calls Tryz.prog 74 #[.int .i64 n, .int .i64 p] w fun e w' => ∃ A' c', e = .returned (.slice A' p c') ∧ OwnInts w' w.heap.size w'.heap.size (.slice A' p c') (digits n p) ∧ Below w.heap.size w w' := by
  have hmk := run_make_row' (P := Tryz.prog) 23 3 (.int .i64 0) 8 Tryz.underlying23 Tryz.infoInt rfl .i64 .i64 p (by omega) (by omega)
  go_enter Tryz.func74, Tryz.ntmps74
  go_wp2_with (fail)
  go_loopw [0, 6] (fun v i wr => ∃ (m : Nat) (q : Nat), m ≤ p ∧ i = .int .i64 ((m : Int) - 1) ∧ v = .int .i64 q ∧ q = n / 6 ^ (p - m) ∧ wr.rowIs w.heap.size 3 p (digitCell n p m) ∧ Below w.heap.size w wr) (fun _ i _ => (intOf i + 1).toNat)
  case atStart => exact ⟨p, n, Nat.le_refl _, rfl, rfl, by simp, (World.rowIs_made w _ _ _).congr (fun j hj => by simp [digitCell]; omega), below1 _ _⟩
  case round =>
    obtain ⟨m, q, hm, rfl, rfl, hq, hrow, hbe⟩ := hrel
    have hqn : q ≤ n := by rw [hq]; exact Nat.div_le_self _ _
    rcases Nat.eq_zero_or_pos m with h0 | h0
    · have HO := Lib.hid (show OwnInts wr w.heap.size wr.heap.size (.slice (some ⟨w.heap.size, 0, none⟩) p p) (digits n p) by
        have h1 : wr.rowIs w.heap.size 3 (digits n p).length (fun j => .int .i64 ((digits n p).getD j 0)) := by
          rw [digits_length]
          refine hrow.congr (fun j hj => ?_)
          simp [digitCell, digits, h0, hj]
        have h2 := OwnInts.of_rowIs h1 (Nat.le_refl _) h1.lt (by rw [digits_length]; unfold maxLen; omega)
        rwa [digits_length] at h2)
      have hneg : ¬ (0 : Int) ≤ (m : Int) - 1 := by omega
      clear hrow hq h0
      go_wp2_with (fail)
      go_ret
      exact ⟨_, _, rfl, HO.out, hbe⟩
    · obtain ⟨k, rfl⟩ : ∃ k, m = k + 1 := ⟨m - 1, by omega⟩
      have hkp : k < p := by omega
      have c1 := hrow.cell hkp
      have f1 := hrow.frozen k
      have c1' : ∃ u, wr.cell? ⟨w.heap.size, k, none⟩ = some (.int .i64 u) := by
        rw [c1]
        unfold digitCell
        split <;> exact ⟨_, rfl⟩
      obtain ⟨u, c2⟩ := c1'
      have e1 : ((k + 1 : Nat) : Int) - 1 = (k : Int) := by omega
      have hrw := (hrow.set k (.int .i64 ((q % 6 : Nat) : Int))).congr (g := digitCell n p k) (fun j hj => by
        by_cases e : j = k
        · subst e
          rw [if_pos rfl, hq, show p - (j + 1) = p - 1 - j by omega]
          simp [digitCell]
        · rw [if_neg e]
          unfold digitCell
          by_cases h2 : k ≤ j
          · rw [if_pos (by omega), if_pos h2]
          · rw [if_neg (by omega), if_neg h2])
      have HR := Lib.hid hrw
      have HQ := Lib.hid (show q / 6 = n / 6 ^ (p - k) by rw [hq, div_pow]; congr 2; omega)
      rw [e1]
      clear hrow hq c1 hrw e1
      go_wp2_with (fail)
      go_roundw
      case rel => exact ⟨k, q / 6, by omega, rfl, by simp, HQ.out, by simpa using HR.out, hbe.setCell (Nat.le_refl _) _⟩
      case measure => simp [intOf]

theorem constantDigits_any (n p : Nat) (w : World) (hn : n ≤ 1048576) (hp : p ≤ 2) :
    Calls Tryz.prog 74 #[.int .i64 n, .int .i64 p] w fun e w' => ∃ A' c', e = .returned (.slice A' p c') ∧ OwnInts w' w.heap.size w'.heap.size (.slice A' p c') (digits n p) ∧ Below w.heap.size w w' := constantDigits_six n p w hn (by omega)

theorem pow6 : (6 : Nat) ^ 0 = 1 ∧ (6 : Nat) ^ 1 = 6 ∧ (6 : Nat) ^ 2 = 36 := by decide
/-- All facts of a predicate with so many places. -/
def allOk (p q : Int) : Bool := decide (0 ≤ p ∧ p ≤ 23) && decide (0 ≤ q ∧ q ≤ 2)
def allTo (p : Int) (q : Nat) (m : Nat) : List LFact := (List.range m).map fun i => (p, digits i q)
def allFacts (p q : Int) : List LFact := if allOk p q then allTo p q.toNat (6 ^ q.toNat) else []
theorem allTo_length (p : Int) (q m : Nat) : (allTo p q m).length = m := by simp [allTo]
theorem allTo_snoc (p : Int) (q m : Nat) : allTo p q (m + 1) = allTo p q m ++ [(p, digits m q)] := by simp [allTo, List.range_succ]
theorem allTo_tot (p : Int) (q : Nat) : ∀ m, tot (allTo p q m) = m * q
  | 0 => by simp [allTo, tot]
  | m + 1 => by rw [allTo_snoc, tot_append, allTo_tot p q m, tot_cons]; simp [tot, digits_length, Nat.add_mul]

end Go.Proofs.YtokmmloakahkhaaGreatDoor
/-
  The facts of a table, ascending: plain mathematics.
-/
namespace Go.Proofs.YtokmmloakahkhaaGreatDoor
open Go.RowKit

/-- The facts of a table's word; the facts of a table. -/
def wordFacts (p x q : Nat) : List LFact := (bitsOf x).map fun j => ((p : Int), digits j.toNat q)
def tabFacts (T : List Nat) (ar : List Int) : List LFact := (List.range ar.length).flatMap fun p => wordFacts p (T.getD p 0) (ar.getD p 0).toNat

theorem bitsOf_mem {x : Nat} {i : Int} : i ∈ bitsOf x ↔ ∃ j : Nat, j < 64 ∧ x.testBit j = true ∧ (j : Int) = i := by
  unfold bitsOf
  rw [List.mem_map]
  constructor
  · rintro ⟨j, hj, e⟩
    rw [List.mem_filter, List.mem_range] at hj
    exact ⟨j, hj.1, hj.2, e⟩
  · rintro ⟨j, h1, h2, e⟩
    exact ⟨j, List.mem_filter.2 ⟨List.mem_range.2 h1, h2⟩, e⟩
theorem bitsOf_up (x : Nat) : (bitsOf x).Pairwise (· < ·) := by
  unfold bitsOf
  rw [List.pairwise_map]
  exact (List.pairwise_lt_range.filter _).imp fun h => by omega
theorem digits_numF {xs : List Int} (hc : xs.all constOk = true) (hl : xs.length ≤ 2) : digits (numF xs) xs.length = xs := by
  rcases xs with _ | ⟨x, _ | ⟨y, _ | ⟨z, xs⟩⟩⟩
  · rfl
  · simp only [List.all_cons, List.all_nil, Bool.and_true] at hc
    have := const_range hc
    simp [digits, numF, List.range_succ]
    omega
  · simp only [List.all_cons, List.all_nil, Bool.and_true, Bool.and_eq_true] at hc
    have := const_range hc.1
    have := const_range hc.2
    simp [digits, numF, List.range_succ]
    omega
  · simp at hl
theorem digits_up1 : ∀ i j : Fin 6, i < j → cmpL (digits i 1) (digits j 1) < 0 := by decide +kernel
theorem digits_up2 : ∀ i j : Fin 36, i < j → cmpL (digits i 2) (digits j 2) < 0 := by decide +kernel
theorem digits_up {i j q : Nat} (hq : q ≤ 2) (hj : j < 6 ^ q) (h : i < j) : cmpL (digits i q) (digits j q) < 0 := by
  match q, hq with
  | 0, _ => simp at hj; omega
  | 1, _ => exact digits_up1 ⟨i, by omega⟩ ⟨j, by omega⟩ h
  | 2, _ => exact digits_up2 ⟨i, by omega⟩ ⟨j, by omega⟩ h
theorem tabFacts_mem {T : List Nat} {ar : List Int} {f : LFact} : f ∈ tabFacts T ar ↔ ∃ p j : Nat, p < ar.length ∧ j < 64 ∧ (T.getD p 0).testBit j = true ∧ f = ((p : Int), digits j (ar.getD p 0).toNat) := by
  unfold tabFacts wordFacts
  simp only [List.mem_flatMap, List.mem_map, List.mem_range, bitsOf_mem]
  constructor
  · rintro ⟨p, hp, i, ⟨j, h1, h2, rfl⟩, rfl⟩
    exact ⟨p, j, hp, h1, h2, rfl⟩
  · rintro ⟨p, j, hp, h1, h2, rfl⟩
    exact ⟨p, hp, (j : Int), ⟨j, h1, h2, rfl⟩, rfl⟩
theorem tabFacts_asc {T : List Nat} {ar : List Int} (ha : arityOk ar = true) (hb : ∀ p j : Nat, p < ar.length → (T.getD p 0).testBit j = true → j < 6 ^ (ar.getD p 0).toNat) : Asc (tabFacts T ar) := by
  unfold Asc tabFacts
  rw [List.pairwise_flatMap]
  have hq : ∀ p, p < ar.length → (ar.getD p 0).toNat ≤ 2 := fun p hp => by
    have h1 := ha
    simp only [arityOk, Bool.and_eq_true, decide_eq_true_eq, List.all_eq_true] at h1
    have h2 : placeOk ar[p] = true := h1.2 _ (List.getElem_mem hp)
    rw [getD_at hp]
    simp [placeOk] at h2
    omega
  refine ⟨fun p hp => ?_, ?_⟩
  · rw [List.mem_range] at hp
    unfold wordFacts
    rw [List.pairwise_map]
    refine List.Pairwise.imp_of_mem (fun {a b} ha hb' hab => ?_) (bitsOf_up _)
    obtain ⟨i, _, _, rfl⟩ := bitsOf_mem.1 ha
    obtain ⟨j, _, h2, rfl⟩ := bitsOf_mem.1 hb'
    simp only [factOrder, if_true, Int.toNat_natCast]
    exact digits_up (hq p hp) (hb p j hp h2) (by omega)
  · refine List.pairwise_lt_range.imp fun {p p'} hpp x hx y hy => ?_
    unfold wordFacts at hx hy
    obtain ⟨_, _, rfl⟩ := List.mem_map.1 hx
    obtain ⟨_, _, rfl⟩ := List.mem_map.1 hy
    have h1 : ¬ ((p : Int) = (p' : Int)) := by omega
    have h2 : ((p : Int) < (p' : Int)) := by omega
    simp [factOrder, h1, cmpI, h2]

/-- A table of facts has just these. -/
theorem tabFacts_with {ar : List Int} (ha : arityOk ar = true) {F : List LFact} (hF : ∀ f ∈ F, factFits ar f = true) : Asc (tabFacts (tabWith zeroT F) ar) ∧ ∀ f, f ∈ tabFacts (tabWith zeroT F) ar ↔ f ∈ F := by
  have hl : ar.length ≤ 24 := by simp only [arityOk, Bool.and_eq_true, decide_eq_true_eq] at ha; exact ha.1
  have hz : ∀ p : Nat, p < ar.length → p < zeroT.length := fun p hp => by simp [zeroT]; omega
  have hbit : ∀ p j : Nat, p < ar.length → (((tabWith zeroT F).getD p 0).testBit j = true ↔ ∃ f ∈ F, f.1.toNat = p ∧ numF f.2 = j) := fun p j hp => by
    simp only [tabWith_bit _ _ (hz p hp), zero_bit, Bool.false_eq_true, false_or]
  have hone : ∀ f ∈ F, f.1 = ((f.1.toNat : Nat) : Int) ∧ f.1.toNat < ar.length ∧ f.2.length = (ar.getD f.1.toNat 0).toNat ∧ digits (numF f.2) (ar.getD f.1.toNat 0).toNat = f.2 ∧ numF f.2 < 6 ^ (ar.getD f.1.toNat 0).toNat := fun f hf => by
    obtain ⟨⟨h0, h1, h2⟩, h3⟩ := fits_parts (hF f hf)
    have h4 := fits_short ha (hF f hf)
    have h5 : f.2.length = (ar.getD f.1.toNat 0).toNat := by omega
    refine ⟨by omega, by omega, h5, ?_, ?_⟩
    · rw [← h5]
      exact digits_numF h3 h4
    · rw [← h5]
      have := numF_lt h3 f.2.length (Nat.le_refl _)
      rwa [List.take_length] at this
  refine ⟨tabFacts_asc ha fun p j hp h => ?_, fun f => ?_⟩
  · obtain ⟨f, hf, rfl, rfl⟩ := (hbit p j hp).1 h
    exact (hone f hf).2.2.2.2
  · rw [tabFacts_mem]
    constructor
    · rintro ⟨p, j, hp, _, h, rfl⟩
      obtain ⟨g, hg, rfl, rfl⟩ := (hbit p j hp).1 h
      obtain ⟨e1, _, _, e2, _⟩ := hone g hg
      rw [e2, ← e1]
      exact hg
    · intro hf
      obtain ⟨e1, e2, _, e3, e4⟩ := hone f hf
      exact ⟨f.1.toNat, numF f.2, e2, numF_64 (fits_parts (hF f hf)).2 (fits_short ha (hF f hf)), (hbit _ _ e2).2 ⟨f, hf, rfl, rfl⟩, by rw [e3, ← e1]⟩

end Go.Proofs.YtokmmloakahkhaaGreatDoor
/-
  The walk of (*factTable).facts: a table's facts, ascending, in memory of the call's own.
-/
namespace Go.Proofs.YtokmmloakahkhaaGreatDoor
open Go.RowKit

def tabTo (T : List Nat) (ar : List Int) (k : Nat) : List LFact := (List.range k).flatMap fun p => wordFacts p (T.getD p 0) (ar.getD p 0).toNat
theorem tabTo_snoc (T : List Nat) (ar : List Int) (k : Nat) : tabTo T ar (k + 1) = tabTo T ar k ++ wordFacts k (T.getD k 0) (ar.getD k 0).toNat := by simp [tabTo, List.range_succ]
theorem wordFacts_len (p x q : Nat) : (wordFacts p x q).length ≤ 64 := by
  unfold wordFacts
  rw [List.length_map]
  exact bitsOf_length x
theorem tabTo_len (T : List Nat) (ar : List Int) : ∀ k, (tabTo T ar k).length ≤ k * 64
  | 0 => by simp [tabTo]
  | k + 1 => by
    rw [tabTo_snoc, List.length_append]
    have := tabTo_len T ar k
    have := wordFacts_len k (T.getD k 0) (ar.getD k 0).toNat
    omega

set_option maxHeartbeats 4000000 in
set_option maxRecDepth 100000 in
theorem tabFacts_any (g : Nat) (T : List Nat) (v : Value) (ar : List Int) (w : World) (h : TabAt w g T) (hr : RdInts w w.heap.size v ar) (har : arityOk ar = true) (hT : Tab w) :
    Calls Tryz.prog 32 #[.pointer (some ⟨g, 0, none⟩), v] w fun e w' => ∃ A' c', e = .returned (.slice A' (tabFacts T ar).length c') ∧ OwnFacts w' w.heap.size w'.heap.size (.slice A' (tabFacts T ar).length c') (tabFacts T ar) ∧ Below w.heap.size w w' := by
  obtain ⟨i0, hi0, hz0, hz1, hz2⟩ := info_parts Tryz.infoFact
  have H := Lib.hid hr
  have HTA := Lib.hid h
  have HT := Lib.hid hT
  have hgl := h.1.lt
  have hl24 : ar.length ≤ 24 := by simp only [arityOk, Bool.and_eq_true, decide_eq_true_eq] at har; exact har.1
  have HQ := Lib.hid (show ∀ k (hk : k < ar.length), 0 ≤ ar[k] ∧ ar[k] ≤ 2 from fun k hk => by
    simp only [arityOk, Bool.and_eq_true, decide_eq_true_eq, List.all_eq_true] at har
    have h2 : placeOk ar[k] = true := har.2 _ (List.getElem_mem hk)
    simp [placeOk] at h2
    omega)
  obtain ⟨A, c, rfl, hc, _⟩ := hr
  clear h hT har
  go_enter Tryz.func32, Tryz.ntmps32
  go_wp2_with fail
  go_loopw [5, 11] (fun o i wr => ∃ (k : Nat) (A' : Option Addr) (c' : Nat) (av : List Value), k ≤ ar.length ∧ i = .int .i64 k ∧ o = .slice A' (tabTo T ar k).length c' ∧ ColRel w wr (tabTo T ar k) A' c' av) (fun _ i _ => ar.length - (intOf i).toNat)
  case atStart => exact ⟨0, none, 0, [], Nat.zero_le _, rfl, rfl, ColRel.nil w⟩
  case round =>
    obtain ⟨k, A', c', av, hk, rfl, rfl, hcol⟩ := hrel
    have hll := tabTo_len T ar k
    by_cases hlt : k < ar.length
    · have hsz := hcol.below.size
      have hbe := hcol.below
      obtain ⟨A7, c7, e7, _, hx⟩ := (H.out.on hbe)
      injection e7 with e7 e9 e8
      clear e9
      subst e7 e8
      obtain ⟨b7, o7, rfl, _, hx⟩ := hx (by omega)
      obtain ⟨q, hqe⟩ : ∃ q : Nat, ar[k] = (q : Int) := ⟨ar[k].toNat, by have := HQ.out k hlt; omega⟩
      have hq2 : q ≤ 2 := by have := HQ.out k hlt; omega
      have hck : wr.cell? ⟨b7, o7 + k, none⟩ = some (.int .i64 q) := by rw [← hqe]; exact hx k hlt
      have hk24 : k < 24 := by omega
      have hki : (k : Int) < 24 := by omega
      have htr := HTA.out.below hbe hgl
      obtain ⟨x, hxe⟩ : ∃ x, x = T.getD k 0 := ⟨_, rfl⟩
      have hx64 : x < 18446744073709551616 := by rw [hxe]; exact htr.lt
      have htk : wr.cell? ⟨g, k, none⟩ = some (.int .u64 ((x : Nat) : Int)) := by rw [hxe]; exact htr.cell hk24
      have HF := Lib.hid (show tabTo T ar (k + 1) = tabTo T ar k ++ (bitsOf x).map (fun j => ((k : Int), digits j.toNat q)) from by
        rw [tabTo_snoc, ← hxe]
        unfold wordFacts
        rw [getD_at hlt, hqe]
        rfl)
      have HCOL := Lib.hid hcol
      clear hx hqe htr hxe hbe hcol
      go_upto_region 6 with fail
      rename World => wo
      go_loopw [5, 8] (fun o z wr => ∃ (y : Nat) (L : List LFact) (A' : Option Addr) (c' : Nat) (av : List Value), z = .int .u64 y ∧ o = .slice A' L.length c' ∧ L ++ (bitsOf y).map (fun j => ((k : Int), digits j.toNat q)) = tabTo T ar (k + 1) ∧ y < 2 ^ 64 ∧ ColRel w wr L A' c' av) (fun _ z _ => (intOf z).toNat)
      case atStart => exact ⟨x, tabTo T ar k, A', c', av, rfl, rfl, HF.out.symm, hx64, HCOL.out⟩
      case round =>
        obtain ⟨y, L, A', c', av, rfl, rfl, hL, hy, hcol⟩ := hrel
        have hlL : L.length ≤ 1536 := by
          have h1 := congrArg List.length hL
          rw [List.length_append] at h1
          have := tabTo_len T ar (k + 1)
          omega
        by_cases h0 : y = 0
        · subst h0
          rw [bitsOf_zero, List.map_nil, List.append_nil] at hL
          have HE := Lib.hid (And.intro hL hcol)
          clear hL hcol
          go_wp2_with fail
          go_roundw
          case rel => exact ⟨k + 1, A', c', av, by omega, by go_num, by rw [HE.out.1], by rw [← HE.out.1]; exact HE.out.2⟩
          case measure => simp [intOf]; omega
        · obtain ⟨hst, hlt2⟩ := bitsOf_step h0 hy
          have ht : ((y : Int) != 0) = true := by simpa using h0
          have HY := Lib.hid (And.intro hy (And.intro h0 hlt2))
          have HB := Lib.hid (show (L ++ [((k : Int), digits (Lib.ctz 64 y) q)]) ++ (bitsOf (y &&& (y - 1))).map (fun j => ((k : Int), digits j.toNat q)) = tabTo T ar (k + 1) by
            rw [List.append_assoc, List.singleton_append, ← hL, hst, List.map_cons]; rfl)
          have hkk : Lib.ctz 64 y < 64 := (Lib.lowest_bit 64 y h0 hy).2
          have HA := Lib.hid (show bits BinOp.and IntKind.u64 (y : Int) (IntKind.u64.wrap ((y : Int) - 1)) = ((y &&& (y - 1) : Nat) : Int) by
            have e1 : IntKind.u64.wrap ((y : Int) - 1) = ((y - 1 : Nat) : Int) := by rw [IntKind.wrap_u64]; omega
            rw [e1, bits_and_u64_nat y (y - 1) (by simpa using hy) (by omega)])
          have HP := Lib.hid hcol
          have HTT := Lib.hid (HT.out.below hcol.below)
          have HCC := Lib.hid (fun (w : World) (hw : Tab w) => tz64_any y (by simpa using hy) h0 w hw)
          generalize Lib.ctz 64 y = kk at hst HB hkk HCC
          clear hst hlt2 hy h0 hL hcol
          go_wp2_with (first
            | (go_at_call 75; refine (HCC.out _ HTT.out).mono ?_; rintro e w' ⟨rfl, rfl⟩)
            | (go_at_call 74; refine (constantDigits_any kk q _ (by omega) hq2).mono ?_; rintro e w4 ⟨A4, c4, rfl, ho4, hb4⟩
               have H4 := Lib.hid (And.intro ho4 hb4)
               have hz5 := hb4.size
               have hz6 := HP.out.below.size
               clear ho4 hb4)
            | (at_builtin; refine wpList_append_lies _ rfl (.tmp 27) (.tmp 34) 27 rfl w.heap.size 41 i0 (.agg #[.int .i64 0, .slice none 0 0]) 2 32 Tryz.underlying27 hi0 hz0 hz1 hz2 rfl (by decide) (.slice A' L.length c') L.length (flat L av) rfl ?c1 ⟨w4.heap.size, 0, none⟩ 1 1 [.int .i64 k, .slice A4 q c4] rfl rfl (news2 _ _ _ _) ?c2 (by omega) (by unfold maxLen; omega) (by omega) ?c3 _ rfl ?_))
          case c1 => exact (ownsRow_below HP.out.own.row HP.out.own.lt H4.out.2 (Nat.le_refl _)).alloc _
          case c2 => intro u hu; simp at hu; rcases hu with rfl | rfl <;> rfl
          case c3 => simp; omega
          intro g2 cap w5 hown hg _ _
          obtain ⟨av', hcol, hlen⟩ := HP.out.push (f := ((k : Int), digits kk q)) (a := .slice A4 q c4) rfl H4.out.2 H4.out.1 hg hown
          have HC := Lib.hid (And.intro hcol hlen)
          obtain ⟨L2, hL2⟩ : ∃ L2, L2 = L ++ [((k : Int), digits kk q)] := ⟨_, rfl⟩
          have hle : L.length + 1 = L2.length := by rw [hL2]; simp
          rw [hle]
          have HC := Lib.hid (show ColRel w w5 L2 (some ⟨g2, 0, none⟩) cap av' by rw [hL2]; exact hcol)
          rw [← hL2] at HB
          clear hcol hlen hown hg hle hL2
          go_wp2_with fail
          go_roundw
          case rel => exact ⟨y &&& (y - 1), L2, some ⟨g2, 0, none⟩, cap, av', by rw [HA.out], rfl, HB.out, Nat.lt_trans HY.out.2.2 HY.out.1, HC.out⟩
          case measure =>
            rw [HA.out]
            simp only [intOf]
            have := HY.out.2.2
            omega
    · have HO := Lib.hid (show OwnFacts wr w.heap.size wr.heap.size (.slice A' (tabTo T ar k).length c') (tabTo T ar k) ∧ tabTo T ar k = tabFacts T ar from ⟨hcol.own.own, by rw [show k = ar.length by omega]; rfl⟩)
      have hbe := hcol.below
      clear hcol
      rw [HO.out.2]
      go_wp2_with fail
      go_ret
      exact ⟨_, _, rfl, by rw [← HO.out.2]; exact HO.out.1, hbe⟩

end Go.Proofs.YtokmmloakahkhaaGreatDoor
/-
  Consequences: the specification's and the program's.
-/
namespace Go.Proofs.YtokmmloakahkhaaGreatDoor
open Go.RowKit

set_option maxHeartbeats 4000000 in
set_option maxRecDepth 100000 in
theorem specConsequences_any (v v2 : Value) (p : LProg) (fs : List LFact) (w : World) (h : RdProg w w.heap.size v p) (h2 : RdFacts w w.heap.size v2 fs) (hs : szP p ≤ 1048576) (hn : fs.length ≤ 1048576) (ht : tot fs ≤ 1048576) :
    Calls Tryz.prog 8 #[v, v2] w fun e w' => ∃ A' c', e = .returned (.slice A' (consL p fs).length c') ∧ OwnFacts w' w.heap.size w'.heap.size (.slice A' (consL p fs).length c') (consL p fs) ∧ Below w.heap.size w w' := by
  have HP := Lib.hid h
  have H2 := Lib.hid h2
  have hs' := hs
  unfold szP at hs'
  obtain ⟨a, b, rfl, hA, hR⟩ := h
  have HA := Lib.hid hA
  have HR := Lib.hid hR
  obtain ⟨A, c, rfl, hcA, _⟩ := hA
  obtain ⟨A2, c2, rfl, hcR, _⟩ := hR
  obtain ⟨A3, c3, rfl, hcF, _⟩ := h2
  obtain ⟨po, hpo⟩ : ∃ po, po = progOk p := ⟨_, rfl⟩
  obtain ⟨fo, hfo⟩ : ∃ fo, fo = factsOk p.1 fs := ⟨_, rfl⟩
  obtain ⟨R, hRR⟩ : ∃ R, R = consL p fs := ⟨_, rfl⟩
  have HRR := Lib.hid (show R = if po && fo then headsAll p.2 fs else [] by rw [hRR, hpo, hfo]; rfl)
  rw [← hRR]
  clear hRR
  go_enter Tryz.func8, Tryz.ntmps8
  go_upto_region 1 with fail
  obtain ⟨w1, hw1⟩ : ∃ w1, w1 = w.alloc (Obj.cells #[Value.slice A p.1.length c, Value.slice A2 p.2.length c2] 26) := ⟨_, rfl⟩
  have X1 : Blk w1 w.heap.size 26 #[.slice A p.1.length c, .slice A2 p.2.length c2] := by rw [hw1]; exact Blk.new _ _ _
  have B1 : Below w.heap.size w w1 := by rw [hw1]; exact below1 _ _
  rw [← hw1]
  clear hw1
  have x0 : w1.cell? ⟨w.heap.size, 0, none⟩ = some (.slice A p.1.length c) := X1.cell 0
  have x1 : w1.cell? ⟨w.heap.size, 1, none⟩ = some (.slice A2 p.2.length c2) := X1.cell 1
  have CP := Lib.hid ((specProgramOk_any _ p w1 (HP.out.on B1) hs).mono fun e w' (hh : e = .returned (.bool (progOk p)) ∧ Below w1.heap.size w1 w') => (⟨by rw [hh.1, hpo], hh.2⟩ : e = .returned (.bool po) ∧ Below w1.heap.size w1 w'))
  have CF := Lib.hid (fun W (hW : Below w.heap.size w W) => (specFactsOk_any _ _ p.1 fs W (HA.out.on hW) (H2.out.on hW) (by omega) (by omega) (by omega)).mono fun e w' (hh : e = .returned (.bool (factsOk p.1 fs)) ∧ Below W.heap.size W w') => (⟨by rw [hh.1, hfo], hh.2⟩ : e = .returned (.bool fo) ∧ Below W.heap.size W w'))
  have HPO := Lib.hid hpo
  have HFO := Lib.hid hfo
  have HX1 := Lib.hid X1
  clear hpo hfo X1
  cases po
  · go_wp2_with (go_at_call 10; refine CP.out.mono ?_; rintro e w2 ⟨rfl, b2⟩; have B2 := Lib.hid (bthen B1 b2); clear b2)
    go_ret
    have e : R = [] := by rw [HRR.out]; rfl
    rw [e]
    exact ⟨none, 0, rfl, ⟨_, .nil, World.ownsRow_nil _ _ _ _, fun g hg => by cases hg⟩, B2.out⟩
  · cases fo
    · go_wp2_with (first
        | (go_at_call 10; refine CP.out.mono ?_; rintro e w2 ⟨rfl, b2⟩; have B2 := Lib.hid (bthen B1 b2)
           have x20 : w2.cell? ⟨w.heap.size, 0, none⟩ = some (.slice A p.1.length c) := (HX1.out.below b2 HX1.out.lt).cell 0
           clear b2)
        | (go_at_call 34; refine (CF.out _ B2.out).mono ?_; rintro e w3 ⟨rfl, b3⟩; have B3 := Lib.hid (bthen B2.out b3); clear b3))
      go_ret
      have e : R = [] := by rw [HRR.out]; rfl
      rw [e]
      exact ⟨none, 0, rfl, ⟨_, .nil, World.ownsRow_nil _ _ _ _, fun g hg => by cases hg⟩, B3.out⟩
    · obtain ⟨har, hrl, hfit⟩ := prog_parts HPO.out.symm
      obtain ⟨_, hff, hasc⟩ := factsOk_parts HFO.out.symm
      have CA := Lib.hid (fun W (hW : Below w.heap.size w W) => l4All_any (.slice A2 p.2.length c2) (.slice A3 fs.length c3) p.1 p.2 fs W (HR.out.on hW) (H2.out.on hW) har hfit (by omega) (by omega) (by omega) (by omega) (fun f hf => (fits_parts (hff f hf)).2) (asc_nodup hasc))
      have HRE := Lib.hid (show R = headsAll p.2 fs by rw [HRR.out]; rfl)
      rw [← HRE.out] at CA
      clear har hrl hfit hff hasc
      go_wp2_with (first
        | (go_at_call 10; refine CP.out.mono ?_; rintro e w2 ⟨rfl, b2⟩; have B2 := Lib.hid (bthen B1 b2)
           have HX2 := Lib.hid (HX1.out.below b2 HX1.out.lt)
           have x20 : w2.cell? ⟨w.heap.size, 0, none⟩ = some (.slice A p.1.length c) := HX2.out.cell 0
           clear b2)
        | (go_at_call 34; refine (CF.out _ B2.out).mono ?_; rintro e w3 ⟨rfl, b3⟩; have B3 := Lib.hid (bthen B2.out b3)
           have x31 : w3.cell? ⟨w.heap.size, 1, none⟩ = some (.slice A2 p.2.length c2) := (HX2.out.below b3 HX2.out.lt).cell 1
           clear b3)
        | (go_at_call 35; refine (CA.out _ B3.out).mono ?_; rintro e w4 ⟨A4, c4, rfl, o4, b4⟩; have B4 := Lib.hid (bthen B3.out b4)
           have O4 := Lib.hid (o4.mono B3.out.size (Nat.le_refl _))
           clear o4 b4))
      go_ret
      exact ⟨A4, c4, rfl, O4.out, B4.out⟩

set_option maxHeartbeats 4000000 in
set_option maxRecDepth 100000 in
theorem implConsequences_any (v v2 : Value) (p : LProg) (fs : List LFact) (w : World) (h : RdProg w w.heap.size v p) (h2 : RdFacts w w.heap.size v2 fs) (hs : szP p ≤ 1048576) (hn : fs.length ≤ 1048576) (ht : tot fs ≤ 1048576) (hT : Tab w) :
    Calls Tryz.prog 6 #[v, v2] w fun e w' => ∃ A' c', e = .returned (.slice A' (consL p fs).length c') ∧ OwnFacts w' w.heap.size w'.heap.size (.slice A' (consL p fs).length c') (consL p fs) ∧ Below w.heap.size w w' := by
  have HT := Lib.hid hT
  clear hT
  have HP := Lib.hid h
  have H2 := Lib.hid h2
  have hs' := hs
  unfold szP at hs'
  obtain ⟨a, b, rfl, hA, hR⟩ := h
  have HA := Lib.hid hA
  have HR := Lib.hid hR
  obtain ⟨A, c, rfl, hcA, _⟩ := hA
  obtain ⟨A2, c2, rfl, hcR, _⟩ := hR
  obtain ⟨A3, c3, rfl, hcF, _⟩ := h2
  obtain ⟨po, hpo⟩ : ∃ po, po = progOk p := ⟨_, rfl⟩
  obtain ⟨fo, hfo⟩ : ∃ fo, fo = factsOk p.1 fs := ⟨_, rfl⟩
  obtain ⟨R, hRR⟩ : ∃ R, R = consL p fs := ⟨_, rfl⟩
  have HRR := Lib.hid (show R = if po && fo then headsAll p.2 fs else [] by rw [hRR, hpo, hfo]; rfl)
  rw [← hRR]
  clear hRR
  go_enter Tryz.func6, Tryz.ntmps6
  go_upto_region 1 with fail
  obtain ⟨w1, hw1⟩ : ∃ w1, w1 = w.alloc (Obj.cells #[Value.slice A p.1.length c, Value.slice A2 p.2.length c2] 26) := ⟨_, rfl⟩
  have X1 : Blk w1 w.heap.size 26 #[.slice A p.1.length c, .slice A2 p.2.length c2] := by rw [hw1]; exact Blk.new _ _ _
  have B1 : Below w.heap.size w w1 := by rw [hw1]; exact below1 _ _
  rw [← hw1]
  clear hw1
  have x0 : w1.cell? ⟨w.heap.size, 0, none⟩ = some (.slice A p.1.length c) := X1.cell 0
  have x1 : w1.cell? ⟨w.heap.size, 1, none⟩ = some (.slice A2 p.2.length c2) := X1.cell 1
  have CP := Lib.hid ((implProgramOk_any _ p w1 (HP.out.on B1) hs).mono fun e w' (hh : e = .returned (.bool (progOk p)) ∧ Below w1.heap.size w1 w') => (⟨by rw [hh.1, hpo], hh.2⟩ : e = .returned (.bool po) ∧ Below w1.heap.size w1 w'))
  have CF := Lib.hid (fun W (hW : Below w.heap.size w W) => (implFactsOk_any _ _ p.1 fs W (HA.out.on hW) (H2.out.on hW) (by omega) (by omega) (by omega)).mono fun e w' (hh : e = .returned (.bool (factsOk p.1 fs)) ∧ Below W.heap.size W w') => (⟨by rw [hh.1, hfo], hh.2⟩ : e = .returned (.bool fo) ∧ Below W.heap.size W w'))
  have HPO := Lib.hid hpo
  have HFO := Lib.hid hfo
  have HX1 := Lib.hid X1
  clear hpo hfo X1
  cases po
  · go_wp2_with (go_at_call 9; refine CP.out.mono ?_; rintro e w2 ⟨rfl, b2⟩; have B2 := Lib.hid (bthen B1 b2); clear b2)
    go_ret
    have e : R = [] := by rw [HRR.out]; rfl
    rw [e]
    exact ⟨none, 0, rfl, ⟨_, .nil, World.ownsRow_nil _ _ _ _, fun g hg => by cases hg⟩, B2.out⟩
  · cases fo
    · go_wp2_with (first
        | (go_at_call 9; refine CP.out.mono ?_; rintro e w2 ⟨rfl, b2⟩; have B2 := Lib.hid (bthen B1 b2)
           have x20 : w2.cell? ⟨w.heap.size, 0, none⟩ = some (.slice A p.1.length c) := (HX1.out.below b2 HX1.out.lt).cell 0
           clear b2)
        | (go_at_call 11; refine (CF.out _ B2.out).mono ?_; rintro e w3 ⟨rfl, b3⟩; have B3 := Lib.hid (bthen B2.out b3); clear b3))
      go_ret
      have e : R = [] := by rw [HRR.out]; rfl
      rw [e]
      exact ⟨none, 0, rfl, ⟨_, .nil, World.ownsRow_nil _ _ _ _, fun g hg => by cases hg⟩, B3.out⟩
    · obtain ⟨har, hrl, hfit⟩ := prog_parts HPO.out.symm
      obtain ⟨_, hff, hasc⟩ := factsOk_parts HFO.out.symm
      have CA := Lib.hid (fun W (hW : Below w.heap.size w W) => headsIn_any (.slice A2 p.2.length c2) (.slice A3 fs.length c3) p.1 p.2 fs W (HR.out.on hW) (H2.out.on hW) har hfit (by omega) (by omega) (by omega) (by omega) (fun f hf => (fits_parts (hff f hf)).2) (asc_nodup hasc))
      have HTF := Lib.hid (show ∀ f ∈ fs, TabFact f from fun f hf => by
        have h1 := fits_parts (hff f hf)
        have h2 : p.1.length ≤ 24 := by simp only [arityOk, Bool.and_eq_true, decide_eq_true_eq] at har; exact har.1
        exact ⟨h1.1.1, by omega, h1.2, fits_short har (hff f hf)⟩)
      have HRE := Lib.hid (show ∀ F : List LFact, (∀ f, f ∈ F ↔ f ∈ headsAll p.2 fs) → tabFacts (tabWith zeroT F) p.1 = R from fun F hF => by
        rw [HRR.out]
        have h1 := tabFacts_with har (F := F) (fun f h => headsAll_fits fs hfit f ((hF f).1 h))
        exact h1.1.unique (setOf_asc _) fun f => (h1.2 f).trans (hF f))
      have HTL := Lib.hid (show ∀ F : List LFact, (∀ f, f ∈ F ↔ f ∈ headsAll p.2 fs) → ∀ x ∈ tabWith zeroT F, x < 18446744073709551616 from fun F hF =>
        tabWith_lt F _ zeroT_lt fun f h => numF_64 (fits_parts (headsAll_fits fs hfit f ((hF f).1 h))).2 (fits_short har (headsAll_fits fs hfit f ((hF f).1 h))))
      have HAR := Lib.hid har
      clear har hrl hfit hff hasc
      go_upto_region 4 with (first
        | (go_at_call 9; refine CP.out.mono ?_; rintro e w2 ⟨rfl, b2⟩; have B2 := Lib.hid (bthen B1 b2)
           have HX2 := Lib.hid (HX1.out.below b2 HX1.out.lt)
           have x20 : w2.cell? ⟨w.heap.size, 0, none⟩ = some (.slice A p.1.length c) := HX2.out.cell 0
           clear b2)
        | (go_at_call 11; refine (CF.out _ B2.out).mono ?_; rintro e w3 ⟨rfl, b3⟩; have B3 := Lib.hid (bthen B2.out b3)
           have HX3 := Lib.hid (HX2.out.below b3 HX2.out.lt)
           have x31 : w3.cell? ⟨w.heap.size, 1, none⟩ = some (.slice A2 p.2.length c2) := HX3.out.cell 1
           clear b3)
        | (go_at_call 31; refine (CA.out _ B3.out).mono ?_; rintro e w4 ⟨F, rfl, hF, b4⟩; have B4 := Lib.hid (bthen B3.out b4)
           have HF := Lib.hid (HRE.out F hF)
           have HTW := Lib.hid (HTL.out F hF)
           have HX4 := Lib.hid (HX3.out.below b4 HX3.out.lt)
           obtain ⟨cs, hcs⟩ : ∃ cs, cs = tabCells (tabWith zeroT F) := ⟨_, rfl⟩
           rw [← hcs]
           have HCZ := Lib.hid (show cs.size = 24 by rw [hcs]; simp [tabCells, tabWith_len, zeroT])
           have HONE := Lib.hid (show cs.all (·.oneCell') = true by rw [hcs]; exact tabCells_one _)
           have HSI := Lib.hid (show (Tryz.prog.info? 64).map (·.size) = some cs.size by rw [HCZ.out]; kernel_rfl)
           have HCS := Lib.hid hcs
           clear hF b4 hcs)
        | (refine wpList_store_row rfl 64 _ _ rfl w4.heap.size cs rfl rfl 64 _ (heap_alloc_new w4 _) HSI.out (by rw [HCZ.out]; rfl) HONE.out ?_))
      obtain ⟨zs, hzs⟩ : ∃ zs, zs = (#[Value.int IntKind.u64 0, Value.int IntKind.u64 0, Value.int IntKind.u64 0, Value.int IntKind.u64 0, Value.int IntKind.u64 0, Value.int IntKind.u64 0, Value.int IntKind.u64 0, Value.int IntKind.u64 0, Value.int IntKind.u64 0, Value.int IntKind.u64 0, Value.int IntKind.u64 0, Value.int IntKind.u64 0, Value.int IntKind.u64 0, Value.int IntKind.u64 0, Value.int IntKind.u64 0, Value.int IntKind.u64 0, Value.int IntKind.u64 0, Value.int IntKind.u64 0, Value.int IntKind.u64 0, Value.int IntKind.u64 0, Value.int IntKind.u64 0, Value.int IntKind.u64 0, Value.int IntKind.u64 0, Value.int IntKind.u64 0] : Array Value) := ⟨_, rfl⟩
      rw [← hzs]
      clear hzs
      obtain ⟨w5, hw5⟩ : ∃ w5, w5 = (w4.alloc (Obj.cells zs 64)).setRow w4.heap.size cs := ⟨_, rfl⟩
      have X5 : Blk w5 w4.heap.size 64 cs := by rw [hw5]; exact setRow_heap _ _ _ cs _ _ (heap_alloc_new w4 _)
      have b5 : Below w4.heap.size w4 w5 := by rw [hw5]; exact below_setRow (below1 _ _) (Nat.le_refl _) _
      rw [← hw5]
      clear hw5
      have B5 := Lib.hid (bthen B4.out b5)
      have T5 : TabAt w5 w4.heap.size (tabWith zeroT F) := ⟨by rw [← HCS.out]; exact X5, by simp [tabWith_len, zeroT], HTW.out⟩
      have x50 : w5.cell? ⟨w.heap.size, 0, none⟩ = some (.slice A p.1.length c) := (HX4.out.below b5 HX4.out.lt).cell 0
      have CT := Lib.hid (tabFacts_any w4.heap.size (tabWith zeroT F) (.slice A p.1.length c) p.1 w5 T5 (HA.out.on B5.out) HAR.out (HT.out.below B5.out))
      rw [HF.out] at CT
      clear X5 b5 T5
      go_wp2_with (go_at_call 32; refine CT.out.mono ?_; rintro e w6 ⟨A6, c6, rfl, o6, b6⟩; have H6 := Lib.hid (And.intro (o6.mono B5.out.size (Nat.le_refl _)) (bthen B5.out b6)); clear o6 b6)
      go_ret
      exact ⟨A6, c6, rfl, H6.out.1, H6.out.2⟩

end Go.Proofs.YtokmmloakahkhaaGreatDoor
/-
  Rows of slices of integers as results of laws: compared, marked, held.
-/
namespace Go.Proofs.YtokmmloakahkhaaGreatDoor
open Go.RowKit

def totSS (xss : List (List Int)) : Nat := (xss.map List.length).sum
def szRows (xss : List (List Int)) : Nat := xss.length + totSS xss
theorem totSS_at : ∀ (xss : List (List Int)) (k : Nat) (h : k < xss.length), xss[k].length ≤ totSS xss
  | x :: xss, 0, _ => by simp [totSS]
  | x :: xss, k + 1, h => by
    have := totSS_at xss k (by simpa using h)
    simp only [totSS, List.map_cons, List.sum_cons, List.getElem_cons_succ] at this ⊢
    omega
theorem totSS_take (xss : List (List Int)) (k : Nat) (h : k < xss.length) : totSS (xss.take (k + 1)) = totSS (xss.take k) + xss[k].length := by
  unfold totSS
  rw [take_snoc xss k h, List.map_append, List.sum_append]
  simp
theorem totSS_take_le : ∀ (xss : List (List Int)) (k : Nat), totSS (xss.take k) ≤ totSS xss
  | [], k => by simp
  | x :: xss, 0 => by simp [totSS]
  | x :: xss, k + 1 => by
    have := totSS_take_le xss k
    simp only [totSS, List.take_succ_cons, List.map_cons, List.sum_cons] at this ⊢
    omega
theorem totSS_few {xss : List (List Int)} {n m : Nat} (hn : xss.length ≤ n) (hm : ∀ x ∈ xss, x.length ≤ m) : totSS xss ≤ n * m := by
  have key : ∀ (l : List (List Int)), (∀ x ∈ l, x.length ≤ m) → totSS l ≤ l.length * m := by
    intro l
    induction l with
    | nil => intro _; simp [totSS]
    | cons x l ih =>
      intro h
      have h1 := h x List.mem_cons_self
      have h2 := ih fun y hy => h y (List.mem_cons_of_mem _ hy)
      simp only [totSS, List.map_cons, List.sum_cons, List.length_cons, Nat.add_mul] at h2 ⊢
      omega
  exact Nat.le_trans (key xss hm) (Nat.mul_le_mul_right m hn)

/-- The rows that marks from k on leave. -/
def markR : Int → List (List Int) → List (List Int)
  | _, [] => []
  | k, x :: xs => seqI k x.length :: markR (k + (x.length : Int)) xs
theorem markR_length : ∀ (k : Int) (xs : List (List Int)), (markR k xs).length = xs.length
  | _, [] => rfl
  | k, x :: xs => by simp [markR, markR_length _ xs]
theorem markR_snoc : ∀ (k : Int) (xs : List (List Int)) (x : List Int), markR k (xs ++ [x]) = markR k xs ++ [seqI (k + (totSS xs : Int)) x.length]
  | k, [], x => by simp [markR, totSS]
  | k, y :: xs, x => by
    have h := markR_snoc (k + (y.length : Int)) xs x
    have e : k + (y.length : Int) + (totSS xs : Int) = k + (totSS (y :: xs) : Int) := by simp [totSS]; omega
    rw [e] at h
    simp [markR, h]
theorem markR_at {xss : List (List Int)} {k : Int} {j : Nat} (h : j < xss.length) (h' : j < (markR k xss).length) : (markR k xss)[j] = seqI (k + (totSS (xss.take j) : Int)) xss[j].length := by
  have hp : ∀ (xs ys : List (List Int)) (k : Int), ∃ zs, markR k (xs ++ ys) = markR k xs ++ zs := by
    intro xs
    induction xs with
    | nil => intro ys k; exact ⟨_, rfl⟩
    | cons x xs ih =>
      intro ys k
      obtain ⟨zs, hz⟩ := ih ys (k + (x.length : Int))
      exact ⟨zs, by simp [markR, hz]⟩
  have e : xss = xss.take (j + 1) ++ xss.drop (j + 1) := (List.take_append_drop _ _).symm
  have hl : (markR k (xss.take j)).length = j := by rw [markR_length]; simp; omega
  obtain ⟨zs, hz⟩ := hp (xss.take (j + 1)) (xss.drop (j + 1)) k
  rw [← e, take_snoc xss j h, markR_snoc] at hz
  have : (markR k xss)[j]? = some (seqI (k + (totSS (xss.take j) : Int)) xss[j].length) := by
    rw [hz, List.append_assoc, List.getElem?_append_right (by omega), hl]
    simp
  rw [List.getElem?_eq_getElem h'] at this
  exact Option.some.inj this
/-- The first j are marked. -/
def markedR (xss : List (List Int)) (k : Int) (j : Nat) : List (List Int) := markR k (xss.take j) ++ xss.drop j
theorem markedR_step {xss : List (List Int)} {k : Int} {j : Nat} (h : j < xss.length) : (markedR xss k j).set j (seqI (k + (totSS (xss.take j) : Int)) xss[j].length) = markedR xss k (j + 1) := by
  have hl : (markR k (xss.take j)).length = j := by rw [markR_length]; simp; omega
  unfold markedR
  rw [List.drop_eq_getElem_cons h, List.set_append_right _ _ (by omega), hl, Nat.sub_self, List.set_cons_zero, take_snoc xss j h, markR_snoc]
  simp
theorem markedR_at {xss : List (List Int)} {k : Int} {j : Nat} (h : j < xss.length) (h' : j < (markedR xss k j).length) : (markedR xss k j)[j] = xss[j] := by
  have hl : (markR k (xss.take j)).length = j := by rw [markR_length]; simp; omega
  have e : (markedR xss k j)[j]? = some xss[j] := by
    unfold markedR
    rw [List.getElem?_append_right (by omega), hl]
    simp [h]
  rw [List.getElem?_eq_getElem h'] at e
  exact Option.some.inj e
theorem markedR_length {xss : List (List Int)} {k : Int} {j : Nat} (h : j ≤ xss.length) : (markedR xss k j).length = xss.length := by simp [markedR, markR_length]; omega

/-- A row of slices of the call's own, the slices named. -/
structure OwnRA (w : World) (lo hi : Nat) (v : Value) (xss : List (List Int)) (av : List Value) : Prop where
  args : OwnArgs w lo hi av xss
  row : w.ownsRow lo 23 1 v xss.length av
  lt : ∀ g, v.ownBlock = some g → g < hi
theorem OwnRA.step {w w3 : World} {lo hi j : Nat} {v : Value} {xss : List (List Int)} {av : List Value} {ys : List Int} (h : OwnRA w lo hi v xss av) (hj : j < xss.length) (hja : j < av.length)
    (hI : OwnInts w3 lo hi av[j] ys) (hg : w.grownBy w3 av[j].ownBlock) : OwnRA w3 lo hi v (xss.set j ys) av := by
  obtain ⟨ha, hr, hlt⟩ := h
  have hlen := ha.len
  have hapart : ∀ i i' (hi' : i < av.length) (hi'' : i' < av.length), i ≠ i' → ∀ b, av[i].ownBlock = some b → av[i'].ownBlock ≠ some b := by
    intro i i' h1 h2 hne b hb hb'
    have hp := List.pairwise_iff_getElem.1 ha.apart
    rcases Nat.lt_or_gt_of_ne hne with hl | hl
    · exact hp i i' h1 h2 hl b hb hb'
    · exact hp i' i h2 h1 hl b hb' hb
  refine ⟨⟨by simp [hlen], fun i h1 h2 => ?_, ha.apart⟩, ?_, hlt⟩
  · by_cases e : i = j
    · subst e
      simpa using hI
    · have h0 := ha.own i (by simpa using h1) h2
      rw [List.getElem_set_ne (Ne.symm e)]
      exact h0.kept fun b hb => hg.block b (h0.lt hb).2.2 fun e2 => hapart i j h2 hja e b hb e2.symm
  · rw [List.length_set]
    exact ownsRow_only hr fun b hb => hg.block b (hr.lt b hb).2 fun e2 => rowsI_ne hr hb (ha.own j hj hja) e2.symm

/-- The marks from k on stand in a row of slices, and end at z. -/
def HdRows (w : World) (lo hi : Nat) (v : Value) (xss : List (List Int)) (k z : Int) : Prop := OwnRows w lo hi v (markR k xss) ∧ z = k + (totSS xss : Int) ∧ 0 ≤ k ∧ k ≤ 4294967296 ∧ szRows xss ≤ 1073741824
theorem HdRows.below {w w' : World} {lo hi B : Nat} {v : Value} {xss : List (List Int)} {k z : Int} (h : HdRows w lo hi v xss k z) (hb : Below B w w') (hB : hi ≤ B) : HdRows w' lo hi v xss k z := ⟨h.1.below hb hB, h.2⟩
theorem HdRows.only {w w' : World} {lo hi lo' hi' : Nat} {v : Value} {xss : List (List Int)} {k z : Int} (h : HdRows w lo hi v xss k z) (ho : Only lo' hi' w w') (hd : hi ≤ lo' ∨ hi' ≤ lo) : HdRows w' lo hi v xss k z := ⟨h.1.only ho hd, h.2⟩

end Go.Proofs.YtokmmloakahkhaaGreatDoor
/-
  The specification's Solutions.
-/
namespace Go.Proofs.YtokmmloakahkhaaGreatDoor
open Go.RowKit

theorem solsL_sz (fs : List LFact) (ls : List LLit) : szRows (solsL fs ls) ≤ 1048576 := by
  unfold solsL
  split
  · rename_i h
    rw [Bool.and_eq_true] at h
    have hc' := consts_of h.2
    obtain ⟨_, h2⟩ := solsOf_is (fs := fs) (gs := setOf fs) (SafeB.of h.1) (fun f hf => hc' f ((setOf_mem fs f).1 hf)) (asc_nodup (setOf_asc fs)) (setOf_mem fs)
    have hl := binds_len h2.1 h2.ok
    have ht := totSS_few hl (m := 4) fun b hb => by rw [bindOk_len (h2.ok b hb)]; exact Nat.le_refl _
    unfold szRows
    omega
  · simp [szRows, totSS]
theorem WkRows.none (w : World) (lo hi : Nat) : WkRows w lo hi (.slice none 0 0) [] := ⟨[], ⟨rfl, fun i h => absurd h (by simp)⟩, World.ownsRow_nil _ _ _ _, fun g hg => by cases hg⟩

end Go.Proofs.YtokmmloakahkhaaGreatDoor
/-
  The walk of the program's FactsWith.
-/
namespace Go.Proofs.YtokmmloakahkhaaGreatDoor
open Go.RowKit

theorem ColRel.room (w : World) (cs : Array Value) (n : Nat) (hs : cs.size = n * 2) (hm : n ≤ maxLen) : ColRel w (w.alloc (.cells cs 41)) [] (some ⟨w.heap.size, 0, none⟩) n [] :=
  ⟨below1 _ _, ⟨.nil, World.ownsRow_made w cs n (Nat.le_refl _) hm hs, fun g hg => by simp [Value.ownBlock] at hg; subst hg; simp⟩⟩

set_option maxHeartbeats 2000000 in
set_option maxRecDepth 100000 in
theorem implFactsWith_any (v v2 : Value) (fs : List LFact) (f : LFact) (w : World) (h : RdFacts w w.heap.size v fs) (h2 : RdFact w w.heap.size v2 f) (hn : fs.length ≤ 1048576) (ht : tot fs ≤ 1048576) (hf : f.2.length ≤ 1048576) :
    Calls Tryz.prog 15 #[v, v2] w fun e w' => ∃ A' c', e = .returned (.slice A' (factsWith fs f).length c') ∧ OwnFacts w' w.heap.size w'.heap.size (.slice A' (factsWith fs f).length c') (factsWith fs f) ∧ Below w.heap.size w w' := by
  have H := Lib.hid h
  have H2 := Lib.hid h2
  obtain ⟨A, c, rfl, hc, _⟩ := h
  obtain ⟨a, rfl, A2, c2, rfl, hc2, _⟩ := h2
  obtain ⟨i0, hi0, hz0, hz1, hz2⟩ := info_parts Tryz.infoFact
  have hmk : ∀ W : World, (Instr.makeSlice 27 (.int .i64 0) (.int .i64 ((fs.length : Int) + 1))).run Tryz.prog W = .ok (.slice (some ⟨W.heap.size, 0, none⟩) 0 (fs.length + 1)) (W.alloc (.cells (madeCells #[.int .i64 0, .slice none 0 0] ((fs.length + 1) * 2)) 41)) := fun W => by
    have := run_make_rowN (P := Tryz.prog) 27 41 i0 (.agg #[.int .i64 0, .slice none 0 0]) Tryz.underlying27 hi0 hz0 .i64 .i64 0 (fs.length + 1) (Nat.zero_le _) (by rw [hz2]; omega) (by omega) W
    rw [hz1] at this
    simpa [Value.cells] using this
  go_enter Tryz.func15, Tryz.ntmps15
  go_wp2_with (fail)
  obtain ⟨w1, hw1⟩ : ∃ w1, w1 = (w.alloc (Obj.cells #[Value.int IntKind.i64 f.1, Value.slice A2 f.2.length c2] 41)) := ⟨_, rfl⟩
  have B1 : Below w.heap.size w w1 := by rw [hw1]; exact below1 _ _
  have k0 : Blk w1 w.heap.size 41 #[.int .i64 f.1, .slice A2 f.2.length c2] := by rw [hw1]; exact Blk.new w _ _
  have hzz : w.heap.size + 1 = w1.heap.size := by rw [hw1]; simp
  rw [← hw1]
  clear hw1
  simp only [hzz]
  have HZ := Lib.hid hzz
  clear hzz hmk
  go_loopw [5, 6, 8, 9, 16] (fun o p _ _ i wr => ∃ (k : Nat) (st : List LFact × Bool) (A' : Option Addr) (c' : Nat) (av : List Value), k ≤ fs.length ∧ i = .int .i64 k ∧ p = .bool st.2 ∧ o = .slice A' st.1.length c' ∧ WithRel w1 wr fs f k st A' c' av) (fun _ _ _ _ i _ => fs.length - (intOf i).toNat)
  case atStart => exact ⟨0, ([], false), _, _, [], Nat.zero_le _, rfl, rfl, rfl, ColRel.room w1 _ (fs.length + 1) (size_madeCells _ _) (by unfold maxLen; omega), rfl⟩
  case round =>
    obtain ⟨k, ⟨gs, pb⟩, A', c', av, hk, rfl, rfl, rfl, hcol, hst⟩ := hrel
    have hbd := withTo_bound fs f k hk
    rw [← hst] at hbd
    have hgl : gs.length ≤ 2097152 := by have := hbd.1; simp only at this; split at this <;> omega
    clear hbd
    have HST := Lib.hid hst
    clear hst
    by_cases hlt : k < fs.length
    · obtain ⟨b, o, A3, c3, rfl, hbB, k1, k2, k3⟩ := H.out.get hlt
      have hln := len_le_tot fs k hlt
      have K3 := Lib.hid (show RdFact w w.heap.size (.agg #[.int .i64 fs[k].1, .slice A3 fs[k].2.length c3]) fs[k] from ⟨_, rfl, k3⟩)
      have hB := bthen B1 hcol.below
      have m1 : wr.cell? ⟨b, o + k * 2, none⟩ = some (.int .i64 fs[k].1) := (hB.cell (p := ⟨b, o + k * 2, none⟩) hbB).trans k1
      have m2 : wr.cell? ⟨b, o + k * 2 + 1, none⟩ = some (.slice A3 fs[k].2.length c3) := (hB.cell (p := ⟨b, o + k * 2 + 1, none⟩) hbB).trans k2
      have n1 : ∀ O, (wr.alloc O).cell? ⟨w.heap.size, 0, none⟩ = some (.int .i64 f.1) := fun O => (((k0.below hcol.below k0.lt).alloc O).cell 0)
      have n2 : ∀ O, (wr.alloc O).cell? ⟨w.heap.size, 1, none⟩ = some (.slice A2 f.2.length c2) := fun O => (((k0.below hcol.below k0.lt).alloc O).cell 1)
      obtain ⟨q, hq⟩ : ∃ q, q = factOrder f fs[k] := ⟨_, rfl⟩
      have HQ := Lib.hid hq
      have hlt0 := hcol.own.lt
      have HL := Lib.hid hlt0
      have HC := Lib.hid hcol
      clear hcol k1 k2 k3 hlt0 hq
      go_wp2_with (fail)
      refine (implFactOrder_any _ _ f fs[k] _ (H2.out.on (bthen hB (below1 _ _))) (K3.out.on (bthen hB (below1 _ _))) hf (by omega)).mono ?_
      rw [← HQ.out]
      rintro e w2 ⟨rfl, hb2⟩
      have x2 : Blk w2 wr.heap.size 41 #[.int .i64 fs[k].1, .slice A3 fs[k].2.length c3] := (Blk.new wr _ _).below hb2 (by simp)
      have hwr2 := bthen (below1 _ _) hb2
      have HC2 := Lib.hid (HC.out.on hwr2)
      have P2 := HC2.out.below
      have hB2 := bthen B1 P2
      clear m1 m2 n1 n2
      have n1 : w2.cell? ⟨w.heap.size, 0, none⟩ = some (.int .i64 f.1) := (k0.below P2 k0.lt).cell 0
      have n2 : w2.cell? ⟨w.heap.size, 1, none⟩ = some (.slice A2 f.2.length c2) := (k0.below P2 k0.lt).cell 1
      have m1 : w2.cell? ⟨wr.heap.size, 0, none⟩ = some (.int .i64 fs[k].1) := x2.cell 0
      have m2 : w2.cell? ⟨wr.heap.size, 1, none⟩ = some (.slice A3 fs[k].2.length c3) := x2.cell 1
      cases pb with
      | true =>
        by_cases hq0 : q = 0
        · have t1 : (q != 0) = false := by simp [hq0]
          have HS := Lib.hid (show ((gs, true) : List LFact × Bool) = withStep f (gs, true) fs[k] by simp [withStep, ← HQ.out, hq0])
          clear hq0
          go_wp2_with (fail)
          go_roundw
          case rel => exact ⟨k + 1, (gs, true), _, _, _, by omega, by go_num, rfl, rfl, ⟨HC2.out, With.next HST.out hlt HS.out⟩⟩
          case measure => simp [intOf]; omega
        · have t1 : (q != 0) = true := by simp [hq0]
          have HS := Lib.hid (show ((gs ++ [fs[k]], true) : List LFact × Bool) = withStep f (gs, true) fs[k] by simp [withStep, ← HQ.out, hq0])
          clear hq0
          go_wp2_with (fail)
          refine (copyFact_any _ fs[k] _ (K3.out.on hB2) (by omega)).mono ?_
          rintro e w3 ⟨A4, c4, rfl, ho4, hb4⟩
          go_wp2_with (at_builtin; refine wpList_push rfl (.tmp 36) (.tmp 39) rfl HC2.out hb4 ho4 rfl rfl rfl (by omega) ?_; intro g4 cap4 w4 av4 hcol4 hgr4; have HC4 := Lib.hid hcol4; clear hcol4 hgr4)
          go_roundw
          case rel => exact ⟨k + 1, (gs ++ [fs[k]], true), _, _, _, by omega, by go_num, rfl, by simp, ⟨HC4.out, With.next HST.out hlt HS.out⟩⟩
          case measure => simp [intOf]; omega
      | false =>
        rcases Int.lt_trichotomy q 0 with hq0 | hq0 | hq0
        · have t1 : (q != 0) = true := by simp; omega
          have t2 : decide (q ≤ 0) = true := by simp; omega
          have HS := Lib.hid (show (((gs ++ [f]) ++ [fs[k]], true) : List LFact × Bool) = withStep f (gs, false) fs[k] by
            have e1 : q ≠ 0 := by omega
            have e2 : q ≤ 0 := by omega
            simp [withStep, ← HQ.out, e1, e2])
          clear hq0
          go_wp2_with (fail)
          refine (copyFact_any _ f _ (H2.out.on hB2) (by omega)).mono ?_
          rintro e w3 ⟨A4, c4, rfl, ho4, hb4⟩
          have x3 := x2.below hb4 x2.lt
          clear m1 m2
          go_wp2_with (at_builtin; refine wpList_push rfl (.tmp 29) (.tmp 32) rfl HC2.out hb4 ho4 rfl rfl rfl (by omega) ?_; intro g4 cap4 w4 av4 hcol4 hgr4; have x4 : Blk w4 wr.heap.size 41 #[.int .i64 fs[k].1, .slice A3 fs[k].2.length c3] := (hgr4.block _ x3.lt (fun e => Nat.lt_irrefl _ (HL.out _ e.symm))).trans x3; have m3 : w4.cell? ⟨wr.heap.size, 0, none⟩ = some (.int .i64 fs[k].1) := x4.cell 0; have m4 : w4.cell? ⟨wr.heap.size, 1, none⟩ = some (.slice A3 fs[k].2.length c3) := x4.cell 1; have HC4 := Lib.hid hcol4; clear hcol4 hgr4)
          refine (copyFact_any _ fs[k] _ (K3.out.on (bthen B1 HC4.out.below)) (by omega)).mono ?_
          rintro e w5 ⟨A6, c6, rfl, ho6, hb6⟩
          go_wp2_with (at_builtin; refine wpList_push rfl (.tmp 36) (.tmp 39) rfl HC4.out hb6 ho6 (by simp) rfl rfl (by simp; omega) ?_; intro g6 cap6 w6 av6 hcol6 hgr6; have HC6 := Lib.hid hcol6; clear hcol6 hgr6)
          go_roundw
          case rel => exact ⟨k + 1, ((gs ++ [f]) ++ [fs[k]], true), _, _, _, by omega, by go_num, rfl, by simp, ⟨HC6.out, With.next HST.out hlt HS.out⟩⟩
          case measure => simp [intOf]; omega
        · have t1 : (q != 0) = false := by simp [hq0]
          have t2 : decide (q ≤ 0) = true := by simp; omega
          have HS := Lib.hid (show ((gs ++ [f], true) : List LFact × Bool) = withStep f (gs, false) fs[k] by simp [withStep, ← HQ.out, hq0])
          clear hq0
          go_wp2_with (fail)
          refine (copyFact_any _ f _ (H2.out.on hB2) (by omega)).mono ?_
          rintro e w3 ⟨A4, c4, rfl, ho4, hb4⟩
          go_wp2_with (at_builtin; refine wpList_push rfl (.tmp 29) (.tmp 32) rfl HC2.out hb4 ho4 rfl rfl rfl (by omega) ?_; intro g4 cap4 w4 av4 hcol4 hgr4; have HC4 := Lib.hid hcol4; clear hcol4 hgr4)
          go_roundw
          case rel => exact ⟨k + 1, (gs ++ [f], true), _, _, _, by omega, by go_num, rfl, by simp, ⟨HC4.out, With.next HST.out hlt HS.out⟩⟩
          case measure => simp [intOf]; omega
        · have t1 : (q != 0) = true := by simp; omega
          have t2 : decide (q ≤ 0) = false := by simp; omega
          have HS := Lib.hid (show ((gs ++ [fs[k]], false) : List LFact × Bool) = withStep f (gs, false) fs[k] by
            have e1 : q ≠ 0 := by omega
            have e2 : ¬ q ≤ 0 := by omega
            simp [withStep, ← HQ.out, e1, e2])
          clear hq0
          go_wp2_with (fail)
          refine (copyFact_any _ fs[k] _ (K3.out.on hB2) (by omega)).mono ?_
          rintro e w3 ⟨A4, c4, rfl, ho4, hb4⟩
          go_wp2_with (at_builtin; refine wpList_push rfl (.tmp 36) (.tmp 39) rfl HC2.out hb4 ho4 rfl rfl rfl (by omega) ?_; intro g4 cap4 w4 av4 hcol4 hgr4; have HC4 := Lib.hid hcol4; clear hcol4 hgr4)
          go_roundw
          case rel => exact ⟨k + 1, (gs ++ [fs[k]], false), _, _, _, by omega, by go_num, rfl, by simp, ⟨HC4.out, With.next HST.out hlt HS.out⟩⟩
          case measure => simp [intOf]; omega
    · have hkn : fs.length = k := by omega
      have HB := Lib.hid (bthen B1 hcol.below)
      have hz1 : w.heap.size ≤ w1.heap.size := B1.size
      have n1 : wr.cell? ⟨w.heap.size, 0, none⟩ = some (.int .i64 f.1) := (k0.below hcol.below k0.lt).cell 0
      have n2 : wr.cell? ⟨w.heap.size, 1, none⟩ = some (.slice A2 f.2.length c2) := (k0.below hcol.below k0.lt).cell 1
      have HC := Lib.hid hcol
      cases pb with
      | true =>
        have HE := Lib.hid (show factsWith fs f = gs by unfold factsWith; rw [hkn, ← HST.out]; rfl)
        clear hcol hkn
        go_wp2_with (fail)
        go_ret
        rw [HE.out]
        exact ⟨_, _, rfl, HC.out.own.own.mono hz1 (Nat.le_refl _), HB.out⟩
      | false =>
        have HE := Lib.hid (show factsWith fs f = gs ++ [f] by unfold factsWith; rw [hkn, ← HST.out]; rfl)
        clear hcol hkn
        go_wp2_with (fail)
        refine (copyFact_any _ f _ (H2.out.on HB.out) (by omega)).mono ?_
        rintro e w3 ⟨A4, c4, rfl, ho4, hb4⟩
        go_wp2_with (at_builtin; refine wpList_push rfl (.tmp 44) (.tmp 47) rfl HC.out hb4 ho4 rfl rfl rfl (by omega) ?_; intro g4 cap4 w4 av4 hcol4 hgr4; have HC4 := Lib.hid hcol4; clear hcol4 hgr4)
        go_ret
        rw [HE.out]
        exact ⟨some ⟨g4, 0, none⟩, cap4, by simp, HC4.out.own.own.mono hz1 (Nat.le_refl _), bthen B1 HC4.out.below⟩

end Go.Proofs.YtokmmloakahkhaaGreatDoor
/-
  wrFacts on two slices that read as the same facts.
-/
namespace Go.Proofs.YtokmmloakahkhaaGreatDoor
open Go.RowKit

theorem cmpL_self (xs : List Int) : cmpL xs xs = 0 := by
  induction xs with
  | nil => simp [cmpL]
  | cons x xs ih => simp [cmpL, ih]
theorem factOrder_self (f : LFact) : factOrder f f = 0 := by simp [factOrder, cmpL_self]

set_option maxHeartbeats 1000000 in
set_option maxRecDepth 100000 in
theorem wrFacts_yes (v v2 : Value) (fs : List LFact) (w : World) (h : RdFacts w w.heap.size v fs) (h2 : RdFacts w w.heap.size v2 fs) (hn : fs.length ≤ 1048576) (ht : tot fs ≤ 1048576) :
    Calls Tryz.prog 7 #[v, v2] w fun e w' => e = .returned (.bool true) ∧ Below w.heap.size w w' := by
  have H := Lib.hid h
  have H2 := Lib.hid h2
  obtain ⟨A, c, rfl, hc, _⟩ := h
  obtain ⟨A2, c2, rfl, hc2, _⟩ := h2
  have hnn : ((fs.length : Int) != (fs.length : Int)) = false := by simp
  go_enter Tryz.func7, Tryz.ntmps7
  go_wp2_with (fail)
  go_loopw [5, 13] (fun _ i wr => ∃ k : Nat, k ≤ fs.length ∧ i = .int .i64 k ∧ Below w.heap.size w wr) (fun _ i _ => fs.length - (intOf i).toNat)
  case atStart => exact ⟨0, Nat.zero_le _, rfl, Below.refl _ _⟩
  case round =>
    obtain ⟨k, hk, rfl, hbe⟩ := hrel
    by_cases hlt : k < fs.length
    · obtain ⟨b, o, A3, c3, rfl, hbB, k1, k2, k3⟩ := (H.out.on hbe).get hlt
      have K3 := Lib.hid (show RdFact wr wr.heap.size (.agg #[.int .i64 fs[k].1, .slice A3 fs[k].2.length c3]) fs[k] from ⟨_, rfl, k3⟩)
      obtain ⟨b', o', A4, c4, rfl, hbB', m1, m2, m3⟩ := (H2.out.on hbe).get hlt
      have K4 := Lib.hid (show RdFact wr wr.heap.size (.agg #[.int .i64 fs[k].1, .slice A4 fs[k].2.length c4]) fs[k] from ⟨_, rfl, m3⟩)
      have hln := len_le_tot fs k hlt
      have L1 := later_cell k1
      have L2 := later_cell k2
      have M1 := later_cell m1
      have M2 := later_cell m2
      have CO := Lib.hid (fun x : Later wr => (implFactOrder_any _ _ fs[k] fs[k] x.val (K3.out.on x.2) (K4.out.on x.2) (by omega) (by omega)).mono fun e w' (hh : e = .returned (.int .i64 (factOrder fs[k] fs[k])) ∧ Below x.val.heap.size x.val w') => (⟨by rw [hh.1, factOrder_self], hh.2⟩ : e = .returned (.int .i64 0) ∧ Below x.val.heap.size x.val w'))
      clear k1 k2 k3 m1 m2 m3
      go_wp2_with (fail)
      refine wp_region_later (by kernel_rfl) (by kernel_rfl) ?_
      repeat (go_big_quiet_step ((go_at_call 33; exact later_of (CO.out _))))
      refine wpQuiet_nil ?_
      rintro _ ⟨xq, rfl⟩
      go_wp2_with (fail)
      go_roundw
      case rel => exact ⟨k + 1, by omega, by go_num, bthen hbe xq.2⟩
      case measure => simp [intOf]; omega
    · have hkn : k = fs.length := by omega
      have hdk : decide ((k : Int) < (fs.length : Int)) = false := by simp; omega
      go_wp2_with (fail)
      go_ret
      exact ⟨rfl, hbe⟩

end Go.Proofs.YtokmmloakahkhaaGreatDoor
/-
  A slice of bytes that came in.
-/
namespace Go.Proofs.YtokmmloakahkhaaGreatDoor
open Go.ChangeShapes Go.WideShapes Go.ChangeAt Go.RowKit Go.Joins Go.Deep

theorem Tryz.cells5 : Tryz.prog.cellsOf 5 = 1 := by kernel_rfl

/-- What is known of a slice of bytes that came in. -/
def InBytes (W : World) (v : Value) (bs : List Nat) : Prop := RdBytes W W.heap.size v bs ∧ bs.length ≤ maxLen ∧ ∀ b ∈ bs, b < 256

theorem byte_of_wf {n : Int} (h : (Lit.int .u8 n).wf = true) : 0 ≤ n ∧ n < 256 := by
  simp only [Lit.wf, Bool.and_eq_true, decide_eq_true_eq] at h
  have h1 : IntKind.u8.min = 0 := by decide
  have h2 : IntKind.u8.max = 255 := by decide
  omega

set_option maxRecDepth 100000 in
theorem open_inBytes {H : Type} {enc : TypeId × Value → H} {W : World} {v : Value} {d : DataW H} {p : List MemPlace} {b0 : Nat} (hv : Value.okWide Tryz.prog W .any b0 22 v) (h : DataW.Trod enc Tryz.prog W 0 (fun _ => true) true 22 v d p) :
    ∃ bs, InBytes W v bs := by
  obtain ⟨a, len, cap, rfl⟩ := okWide_slice Tryz.underlying22 hv
  obtain ⟨fuel, hf⟩ := h
  have hf : DataW.trod enc Tryz.prog W 0 (fun _ => true) true fuel 22 [.slice a len cap] = some (d, p) := by simpa [Value.cells] using hf
  rcases open_ints Tryz.underlying22 Tryz.underlying5 Tryz.cells5 hf with ⟨hcs, _⟩ | ⟨a, len, cap, zs, hcs, _, hl, hm, hz, _, hcell, hwz⟩
  · simp at hcs
    obtain ⟨rfl, rfl, rfl⟩ := hcs
    exact ⟨[], ⟨none, 0, rfl, by simp, fun h => absurd h (by simp)⟩, by simp, by simp⟩
  · simp at hcs
    obtain ⟨rfl, rfl, rfl⟩ := hcs
    simp at hz
    refine ⟨(zs.take len).map Int.toNat, ⟨some a, cap, ?_, by simp; omega, fun hn => ?_⟩, by simp; omega, ?_⟩
    · congr 1
      simp
      omega
    · have hlen : (zs.take len).length = len := by simp; omega
      simp only [List.length_map, hlen] at hn
      obtain ⟨b, o, rfl, hc⟩ := ints_at hcell (by omega)
      refine ⟨b, o, rfl, World.block_lt_of_cell? _ _ (hc 0 (by omega)), fun k hk => ?_⟩
      simp only [List.length_map, hlen] at hk
      have hw := byte_of_wf (hwz zs[k] (List.getElem_mem (by omega)))
      rw [hc k (by omega)]
      simp [show k < zs.length by omega]
      omega
    · intro b hb
      rw [List.mem_map] at hb
      obtain ⟨z, hz1, rfl⟩ := hb
      have := byte_of_wf (hwz z (List.mem_of_mem_take hz1))
      omega

end Go.Proofs.YtokmmloakahkhaaGreatDoor
