/-
  Texts that the claim's last one imports, laid together: part 3 of 5. No condition of its own.
-/
import Derived.StillTailTactics
import Derived.Deep.QuietTactic
import Derived.BigQuiet
import Derived.Deep.Quiet
import Derived.Laws.BitsAllLaws
import Derived.Test.YtlehcghdhfeahaaMata1
import Derived.Test.YtlehcghdhfeahaaMata2
/-
  The walks of FactOk: the program's (with factFits) and the specification's.
-/
namespace Go.Proofs.Ytlehcghdhfeahaa
open Go.RowKit

def constOk (x : Int) : Bool := decide (0 ≤ x ∧ x ≤ 5)
def factFits (ar : List Int) (f : LFact) : Bool := decide (0 ≤ f.1 ∧ f.1 < ar.length ∧ (f.2.length : Int) = ar.getD f.1.toNat 0) && f.2.all constOk
def factOk (ar : List Int) (f : LFact) : Bool := arityOk ar && factFits ar f

def ConstsTo (xs : List Int) (k : Nat) : Prop := ∀ j, j < k → constOk (xs.getD j 0) = true
theorem ConstsTo.step {xs : List Int} {k : Nat} (h : ConstsTo xs k) (e : constOk (xs.getD k 0) = true) : ConstsTo xs (k + 1) := fun j hj => by
  by_cases h2 : j = k
  · subst h2; exact e
  · exact h j (by omega)
theorem ConstsTo.all {xs : List Int} (h : ConstsTo xs xs.length) : xs.all constOk = true := by
  rw [List.all_eq_true]
  intro x hx
  obtain ⟨j, hj, rfl⟩ := List.getElem_of_mem hx
  have := h j hj
  simpa [hj] using this
theorem consts_not {xs : List Int} {k : Nat} (hk : k < xs.length) (e : constOk xs[k] = false) : xs.all constOk = false := by
  rw [List.all_eq_false]
  exact ⟨xs[k], List.getElem_mem hk, by simp [e]⟩

set_option maxHeartbeats 400000 in
theorem areConstants_any (v : Value) (xs : List Int) (B : Nat) (w : World) (h : RdInts w B v xs) (hn : xs.length ≤ 1048576) :
    Calls Try.prog 44 #[v] w fun e w' => e = .returned (.bool (xs.all constOk)) ∧ w = w' := by
  obtain ⟨A, c, rfl, hc, h2⟩ := h
  go_enter Try.func44, Try.ntmps44
  go_wp2_with (fail)
  go_loop [4, 7] (fun _ i => ∃ k : Nat, k ≤ xs.length ∧ i = .int .i64 k ∧ ConstsTo xs k) (fun _ i => xs.length - (intOf i).toNat)
  case atStart => exact ⟨0, Nat.zero_le _, rfl, fun j hj => absurd hj (by omega)⟩
  case round =>
    obtain ⟨k, hk, rfl, hs⟩ := hrel
    by_cases hlk : k < xs.length
    · obtain ⟨b2, o2, rfl, hbB2, hx2⟩ := h2 (by omega)
      have hck2 : w.cell? ⟨b2, o2 + k, none⟩ = some (.int .i64 xs[k]) := hx2 k hlk
      clear hx2 h2
      by_cases h0 : xs[k] < 0
      · have HE := Lib.hid (consts_not hlk (by simp [constOk]; omega))
        clear hs
        go_wp2_with (fail)
        go_ret
        exact ⟨ret_bool HE.out.symm, rfl⟩
      · have hd : decide (xs[k] < 0) = false := by simpa using h0
        by_cases h2 : 5 < xs[k]
        · have HE := Lib.hid (consts_not hlk (by simp [constOk]; omega))
          clear hs
          go_wp2_with (fail)
          go_ret
          exact ⟨ret_bool HE.out.symm, rfl⟩
        · have HS := Lib.hid (hs.step (by simp [hlk, constOk]; omega))
          clear hs
          go_wp2_with (fail)
          go_round
          case rel => exact ⟨k + 1, by omega, by go_num, HS.out⟩
          case measure => simp [intOf]; omega
    · have hkn : k = xs.length := by omega
      have HE := Lib.hid (show xs.all constOk = true from ConstsTo.all (by rw [← hkn]; exact hs))
      clear hkn hs h2
      go_wp2_with (fail)
      go_ret
      exact ⟨ret_bool HE.out.symm, rfl⟩

end Go.Proofs.Ytlehcghdhfeahaa
/-
  HeadOf, plain mathematics; blocks that growth leaves alone.
-/
namespace Go.Proofs.Ytlehcghdhfeahaa
open Go.RowKit

def headOk (a : LFact) (bs : List Int) : Bool := (bindOk bs && a.2.all termOk) && (a.2.map (termVal bs)).all constOk
def headOf (a : LFact) (bs : List Int) : LFact := if headOk a bs then (a.1, a.2.map (termVal bs)) else (0, [])
theorem headOk_bind {a : LFact} {bs : List Int} (h : bindOk bs = false) : headOk a bs = false := by unfold headOk; rw [h]; rfl
theorem headOk_terms {a : LFact} {bs : List Int} (h : a.2.all termOk = false) : headOk a bs = false := by unfold headOk; rw [h, Bool.and_false]; rfl
theorem headOk_vals {a : LFact} {bs : List Int} (h : (a.2.map (termVal bs)).all constOk = false) : headOk a bs = false := by unfold headOk; rw [h, Bool.and_false]
theorem headOk_yes {a : LFact} {bs : List Int} (h1 : bindOk bs = true) (h2 : a.2.all termOk = true) (h3 : (a.2.map (termVal bs)).all constOk = true) : headOk a bs = true := by unfold headOk; rw [h1, h2, h3]; rfl
theorem headOf_no {a : LFact} {bs : List Int} (h : headOk a bs = false) : headOf a bs = (0, []) := by unfold headOf; rw [h]; rfl
theorem headOf_yes {a : LFact} {bs : List Int} (h : headOk a bs = true) : headOf a bs = (a.1, a.2.map (termVal bs)) := by unfold headOf; rw [h]; rfl
theorem headOf_length (a : LFact) (bs : List Int) : (headOf a bs).2.length ≤ a.2.length := by
  unfold headOf
  split <;> simp

theorem Blk.grown {w w' : World} {g : Nat} {t : TypeId} {cs : Array Value} {row : Option Nat} (h : Blk w g t cs) (hg : w.grownBy w' row) (hne : row ≠ some g) : Blk w' g t cs := (hg.block g h.lt (fun e => hne e.symm)).trans h
/-- A row that is appended to lies in none of the blocks ahead. -/
theorem OwnInts.apart {w : World} {lo hi : Nat} {v : Value} {xs : List Int} (h : OwnInts w lo hi v xs) {g : Nat} (hg : g < lo) : v.ownBlock ≠ some g := fun e => by have := h.lt e; omega

end Go.Proofs.Ytlehcghdhfeahaa
/-
  The walks of isTerm, areTerms, l2Terms.
-/
namespace Go.Proofs.Ytlehcghdhfeahaa
open Go.RowKit

theorem isTerm_any (n : Int) (w : World) : Calls Try.prog 60 #[.int .i64 n] w fun e w' => e = .returned (.bool (termOk n)) ∧ w = w' := by
  by_cases h1 : isVarB n = true
  · have HE := Lib.hid (show termOk n = true by simp [isVarB] at h1; simp [termOk]; omega)
    go_enter Try.func60, Try.ntmps60
    go_wp2_with (go_at_call 71; refine (isVar_is h1 _).mono ?_; rintro e w' ⟨rfl, rfl⟩)
    go_ret
    exact ⟨ret_bool HE.out.symm, rfl⟩
  · have h2 : isVarB n = false := by simpa using h1
    by_cases h3 : 0 ≤ n
    · have hd : decide (0 ≤ n) = true := by simpa using h3
      by_cases h4 : n ≤ 5
      · have HE := Lib.hid (show termOk n = true by simp [termOk]; omega)
        go_enter Try.func60, Try.ntmps60
        go_wp2_with (go_at_call 71; refine (isVar_is h2 _).mono ?_; rintro e w' ⟨rfl, rfl⟩)
        go_ret
        exact ⟨ret_bool HE.out.symm, rfl⟩
      · have HE := Lib.hid (show termOk n = false by simp [termOk]; omega)
        go_enter Try.func60, Try.ntmps60
        go_wp2_with (go_at_call 71; refine (isVar_is h2 _).mono ?_; rintro e w' ⟨rfl, rfl⟩)
        go_ret
        exact ⟨ret_bool (by rw [HE.out]; simp; omega), rfl⟩
    · have hd : decide (0 ≤ n) = false := by simpa using h3
      have HE := Lib.hid (show termOk n = false by simp [isVarB] at h2; simp [termOk]; omega)
      go_enter Try.func60, Try.ntmps60
      go_wp2_with (go_at_call 71; refine (isVar_is h2 _).mono ?_; rintro e w' ⟨rfl, rfl⟩)
      go_ret
      exact ⟨ret_bool HE.out.symm, rfl⟩

theorem isTerm_is {n : Int} {b : Bool} (h : termOk n = b) (w : World) : Calls Try.prog 60 #[.int .i64 n] w fun e w' => e = .returned (.bool b) ∧ w = w' := h ▸ isTerm_any n w

set_option maxHeartbeats 400000 in
theorem areTerms_any (v : Value) (xs : List Int) (B : Nat) (w : World) (h : RdInts w B v xs) (hr : xs.length ≤ 1048576) :
    Calls Try.prog 43 #[v] w fun e w' => e = .returned (.bool (xs.all termOk)) ∧ w = w' := by
  obtain ⟨A, c, rfl, hc, ha⟩ := h
  go_enter Try.func43, Try.ntmps43
  go_wp2_with (fail)
  go_loop [4, 7] (fun _ i => ∃ k : Nat, k ≤ xs.length ∧ i = .int .i64 k ∧ AllTo termOk xs k) (fun _ i => xs.length - (intOf i).toNat)
  case atStart => exact ⟨0, Nat.zero_le _, rfl, AllTo.start⟩
  case round =>
    obtain ⟨k, hk, rfl, hs⟩ := hrel
    by_cases hlt : k < xs.length
    · obtain ⟨b, o, rfl, hbB, hx⟩ := ha (by omega)
      have hck : w.cell? ⟨b, o + k, none⟩ = some (.int .i64 xs[k]) := hx k hlt
      clear hx ha
      by_cases he : termOk xs[k] = true
      · have HS := Lib.hid (hs.step hlt he)
        clear hs
        go_wp2_with (go_at_call 60; refine (isTerm_is he _).mono ?_; rintro e w' ⟨rfl, rfl⟩)
        go_round
        case rel => exact ⟨k + 1, by omega, by go_num, HS.out⟩
        case measure => simp [intOf]; omega
      · have he' : termOk xs[k] = false := by simpa using he
        have HE := Lib.hid (all_not hlt he')
        clear hs he
        go_wp2_with (go_at_call 60; refine (isTerm_is he' _).mono ?_; rintro e w' ⟨rfl, rfl⟩)
        go_ret
        exact ⟨ret_bool HE.out.symm, rfl⟩
    · have HE := Lib.hid (hs.done (by omega))
      clear hs ha
      go_wp2_with (fail)
      go_ret
      exact ⟨ret_bool HE.out.symm, rfl⟩

set_option maxHeartbeats 400000 in
theorem l2Terms_any (v : Value) (xs : List Int) (B : Nat) (w : World) (h : RdInts w B v xs) (hr : xs.length ≤ 1048576) :
    Calls Try.prog 34 #[v] w fun e w' => e = .returned (.bool (xs.all termOk)) ∧ w = w' := by
  obtain ⟨A, c, rfl, hc, ha⟩ := h
  go_enter Try.func34, Try.ntmps34
  go_wp2_with (fail)
  go_loop [3] (fun i => ∃ k : Nat, k ≤ xs.length ∧ i = .int .i64 k ∧ AllTo termOk xs k) (fun i => xs.length - (intOf i).toNat)
  case atStart => exact ⟨0, Nat.zero_le _, rfl, AllTo.start⟩
  case round =>
    obtain ⟨k, hk, rfl, hs⟩ := hrel
    by_cases hlt : k < xs.length
    · obtain ⟨b, o, rfl, hbB, hx⟩ := ha (by omega)
      have hck : w.cell? ⟨b, o + k, none⟩ = some (.int .i64 xs[k]) := hx k hlt
      clear hx ha
      by_cases he : -4 ≤ xs[k] ∧ xs[k] ≤ 5
      · have HS := Lib.hid (hs.step hlt (by simpa [termOk] using he))
        have HK := Lib.hid (l1In_yes he)
        clear hs he
        go_wp2_with (go_at_call 36; refine (HK.out _).mono ?_; rintro e w' ⟨rfl, rfl⟩)
        go_round
        case rel => exact ⟨k + 1, by omega, by go_num, HS.out⟩
        case measure => simp [intOf]; omega
      · have HE := Lib.hid (all_not hlt (show termOk xs[k] = false by simpa [termOk] using he))
        have HK := Lib.hid (l1In_no he)
        clear hs he
        go_wp2_with (go_at_call 36; refine (HK.out _).mono ?_; rintro e w' ⟨rfl, rfl⟩)
        go_ret
        exact ⟨ret_bool HE.out.symm, rfl⟩
    · have HE := Lib.hid (hs.done (by omega))
      clear hs ha
      go_wp2_with (fail)
      go_ret
      exact ⟨ret_bool HE.out.symm, rfl⟩

end Go.Proofs.Ytlehcghdhfeahaa
/-
  The specification's l3Bind, l3Term, Bound, l3Copy.
-/
namespace Go.Proofs.Ytlehcghdhfeahaa
open Go.RowKit

set_option maxHeartbeats 400000 in
theorem l3Bind_any (v : Value) (bs : List Int) (B : Nat) (w : World) (h : RdInts w B v bs) (hr : bs.length ≤ 1048576) :
    Calls Try.prog 47 #[v] w fun e w' => e = .returned (.bool (bindOk bs)) ∧ w = w' := by
  obtain ⟨A, c, rfl, hc, ha⟩ := h
  go_enter Try.func47, Try.ntmps47
  go_wp2_with (fail)
  go_loop [3] (fun i => ∃ k : Nat, k ≤ bs.length ∧ i = .int .i64 k ∧ AllTo hasB bs k) (fun i => bs.length - (intOf i).toNat)
  case atStart => exact ⟨0, Nat.zero_le _, rfl, AllTo.start⟩
  case round =>
    obtain ⟨k, hk, rfl, hs⟩ := hrel
    by_cases hlt : k < bs.length
    · obtain ⟨b, o, rfl, hbB, hx⟩ := ha (by omega)
      have hck : w.cell? ⟨b, o + k, none⟩ = some (.int .i64 bs[k]) := hx k hlt
      clear hx ha
      by_cases he : -1 ≤ bs[k] ∧ bs[k] ≤ 5
      · have HS := Lib.hid (hs.step hlt (by simpa [hasB] using he))
        have HK := Lib.hid (l1In_yes he)
        clear hs he
        go_wp2_with (go_at_call 36; refine (HK.out _).mono ?_; rintro e w' ⟨rfl, rfl⟩)
        go_round
        case rel => exact ⟨k + 1, by omega, by go_num, HS.out⟩
        case measure => simp [intOf]; omega
      · have HE := Lib.hid (show bindOk bs = false by simp [bindOk, all_not hlt (show hasB bs[k] = false by simpa [hasB] using he)])
        have HK := Lib.hid (l1In_no he)
        clear hs he
        go_wp2_with (go_at_call 36; refine (HK.out _).mono ?_; rintro e w' ⟨rfl, rfl⟩)
        go_ret
        exact ⟨ret_bool HE.out.symm, rfl⟩
    · have HE := Lib.hid (hs.done (by omega))
      clear hs ha
      by_cases hl : bs.length = 4
      · have hl1 : ((bs.length : Int) == 4) = true := by simp; omega
        have HB := Lib.hid (bindOk_iff hl HE.out)
        clear hl
        go_wp2_with (fail)
        go_ret
        exact ⟨ret_bool HB.out.symm, rfl⟩
      · have hl1 : ((bs.length : Int) == 4) = false := by simp; omega
        have HB := Lib.hid (show bindOk bs = false by simp [bindOk, hl])
        clear hl
        go_wp2_with (fail)
        go_ret
        exact ⟨ret_bool HB.out.symm, rfl⟩

theorem l3Bind_is {bs : List Int} {ok : Bool} (hok : bindOk bs = ok) (v : Value) (B : Nat) (w : World) (h : RdInts w B v bs) (hr : bs.length ≤ 1048576) :
    Calls Try.prog 47 #[v] w fun e w' => e = .returned (.bool ok) ∧ w = w' := hok ▸ l3Bind_any v bs B w h hr

set_option maxHeartbeats 400000 in
theorem l3Term_any (v : Value) (bs : List Int) (t : Int) (B : Nat) (w : World) (h : RdInts w B v bs) (hb : bs.length = 4) (ht : termOk t = true) :
    Calls Try.prog 51 #[.int .i64 t, v] w fun e w' => e = .returned (.int .i64 (termVal bs t)) ∧ w = w' := by
  obtain ⟨A, c, rfl, hc, ha⟩ := h
  have htb := termOk_at ht
  by_cases h0 : 0 ≤ t
  · have hd : decide (0 ≤ t) = true := by simpa using h0
    have HE := Lib.hid (termVal_const (bs := bs) h0).symm
    go_enter Try.func51, Try.ntmps51
    go_wp2_with (fail)
    go_ret
    exact ⟨ret_int HE.out, rfl⟩
  · have hd : decide (0 ≤ t) = false := by simpa using h0
    obtain ⟨j, hj4, rfl⟩ : ∃ j : Nat, j < bs.length ∧ t = -1 - (j : Int) := ⟨(-1 - t).toNat, by omega, by omega⟩
    obtain ⟨b, o, rfl, hbB, hx⟩ := ha (by omega)
    have hck : w.cell? ⟨b, o + j, none⟩ = some (.int .i64 bs[j]) := hx j hj4
    have hjI : (j : Int) < (bs.length : Int) := by omega
    have HE := Lib.hid (show bs[j] = termVal bs (-1 - (j : Int)) by
      rw [termVal_var (by omega), show (-1 - (-1 - (j : Int))).toNat = j by omega]
      simp [hj4])
    have hee : -1 - (-1 - (j : Int)) = (j : Int) := by omega
    clear hx ha hb
    go_enter Try.func51, Try.ntmps51
    go_wp2_with (fail)
    go_ret
    exact ⟨ret_int HE.out, rfl⟩

set_option maxHeartbeats 1000000 in
set_option maxRecDepth 100000 in
theorem specBound_any (v v2 : Value) (xs bs : List Int) (w : World) (h : RdInts w w.heap.size v xs) (h2 : RdInts w w.heap.size v2 bs) (hr : xs.length ≤ 1048576) (hr2 : bs.length ≤ 1048576) :
    Calls Try.prog 18 #[v, v2] w fun e w' => ∃ A' c', e = .returned (.slice A' (boundL xs bs).length c') ∧ OwnInts w' w.heap.size w'.heap.size (.slice A' (boundL xs bs).length c') (boundL xs bs) ∧ Below w.heap.size w w' := by
  obtain ⟨i0, hi0, hz0, hz1, hz2⟩ := info_parts Try.infoInt
  have H := Lib.hid h
  have H2 := Lib.hid h2
  obtain ⟨A, c, rfl, hc, _⟩ := h
  obtain ⟨A2, c2, rfl, hc2, _⟩ := h2
  have hbad : (bindOk bs && xs.all termOk) = false → boundL xs bs = [] := fun e => by unfold boundL; rw [e]; rfl
  have HBad := Lib.hid hbad
  clear hbad
  have C0 := Lib.hid (ColI.empty (Below.refl w.heap.size w))
  by_cases hb : bindOk bs = true
  · by_cases ht : xs.all termOk = true
    · obtain ⟨ys, hys⟩ : ∃ ys, ys = xs.map (termVal bs) := ⟨_, rfl⟩
      have HY := Lib.hid (show boundL xs bs = ys by unfold boundL; rw [hb, ht, hys]; rfl)
      have HYL := Lib.hid (show ys.length = xs.length by rw [hys]; simp)
      have HYK := Lib.hid (show ∀ k (hk : k < xs.length), ys.take (k + 1) = ys.take k ++ [termVal bs xs[k]] from fun k hk => by
        rw [take_snoc ys k (by rw [hys]; simpa using hk)]
        simp [hys])
      have HB4 := Lib.hid (bindOk_len hb)
      have HTK := Lib.hid (show ∀ k (hk : k < xs.length), termOk xs[k] = true from fun k hk => List.all_eq_true.1 ht _ (List.getElem_mem hk))
      have L1 := Lib.hid (fun W (hW : Below w.heap.size w W) => l3Bind_is hb (.slice A2 bs.length c2) w.heap.size W (H2.out.below hW (Nat.le_refl _)) hr2)
      have L2 := Lib.hid (fun W (hW : Below w.heap.size w W) => ht ▸ l2Terms_any (.slice A xs.length c) xs w.heap.size W (H.out.below hW (Nat.le_refl _)) hr)
      clear hys hb ht
      go_enter Try.func18, Try.ntmps18
      go_wp2_with (first | (go_at_call 47; refine (L1.out _ (below1 _ _)).mono ?_; rintro e w' ⟨rfl, rfl⟩) | (go_at_call 34; refine (L2.out _ (below1 _ _)).mono ?_; rintro e w' ⟨rfl, rfl⟩))
      go_loopw [5, 6] (fun o i wr => ∃ (k : Nat) (A' : Option Addr) (c' : Nat), k ≤ xs.length ∧ i = .int .i64 k ∧ o = .slice A' (ys.take k).length c' ∧ ColI w wr (ys.take k) A' c') (fun _ i _ => xs.length - (intOf i).toNat)
      case atStart => exact ⟨0, _, 0, Nat.zero_le _, rfl, rfl, C0.out⟩
      case round =>
        obtain ⟨k, A', c', hk, rfl, rfl, hr'⟩ := hrel
        have hln : (ys.take k).length ≤ k := by simp; omega
        by_cases hlt : k < xs.length
        · have hre := H.out.below hr'.below (Nat.le_refl _)
          obtain ⟨A3, c3, e3, _, hx⟩ := hre
          injection e3 with e3 _ e4
          subst e3 e4
          obtain ⟨b, o, rfl, hbB, hx⟩ := hx (by omega)
          have hck : wr.cell? ⟨b, o + k, none⟩ = some (.int .i64 xs[k]) := hx k hlt
          have T1 := Lib.hid (l3Term_any (.slice A2 bs.length c2) bs xs[k] w.heap.size wr (H2.out.below hr'.below (Nat.le_refl _)) HB4.out (HTK.out k hlt))
          have HS := Lib.hid (HYK.out k hlt)
          have HP := Lib.hid hr'
          clear hx hr'
          obtain ⟨zs, hzs⟩ : ∃ zs, zs = ys.take k := ⟨_, rfl⟩
          have HZ := Lib.hid hzs
          rw [← hzs] at HP hln ⊢
          clear hzs
          go_wp2_with (first | (go_at_call 51; refine T1.out.mono ?_; rintro e w' ⟨rfl, rfl⟩) | (at_builtin; refine wpList_append_lies _ rfl (.tmp 23) (.tmp 30) 23 rfl w.heap.size 3 i0 (.int .i64 0) 1 8 Try.underlying23 hi0 hz0 hz1 hz2 rfl (by decide) (.slice A' zs.length c') zs.length (zs.map (Value.int .i64)) rfl ?c1 ⟨_, 0, none⟩ 1 1 [.int .i64 (termVal bs xs[k])] rfl rfl (news1s _ _ _ _ (by simp)) ?c2 (by omega) (by unfold maxLen; omega) (by omega) ?c3 _ rfl ?_))
          case c1 => exact HP.out.own.1.alloc _
          case c2 => intro u hu; simp at hu; subst hu; rfl
          case c3 => have := HP.out.below.size; simp; omega
          intro g cap w4 hown hg _ _
          have hcol := HP.out.push (Below.refl _ _) hg hown
          rw [HZ.out, ← HS.out] at hcol
          have hlen : zs.length + 1 = (ys.take (k + 1)).length := by rw [HS.out, HZ.out]; simp
          rw [hlen]
          have HC := Lib.hid hcol
          clear hcol hlen hown hg
          go_wp2_with (fail)
          go_roundw
          case rel => exact ⟨k + 1, _, _, by omega, by go_num, rfl, HC.out⟩
          case measure => simp [intOf]; omega
        · have hkn : k = xs.length := by omega
          have HZ := Lib.hid (show ys.take k = boundL xs bs by rw [HY.out, hkn, ← HYL.out, List.take_length])
          have HO := Lib.hid hr'
          rw [HZ.out] at HO ⊢
          clear hkn hr'
          go_wp2_with (fail)
          go_ret
          exact ⟨_, _, rfl, HO.out.own, HO.out.below⟩
    · have ht' : xs.all termOk = false := by simpa using ht
      have HE := Lib.hid (HBad.out (by rw [ht', Bool.and_false]))
      have L1 := Lib.hid (fun W (hW : Below w.heap.size w W) => l3Bind_is hb (.slice A2 bs.length c2) w.heap.size W (H2.out.below hW (Nat.le_refl _)) hr2)
      have L2 := Lib.hid (fun W (hW : Below w.heap.size w W) => ht' ▸ l2Terms_any (.slice A xs.length c) xs w.heap.size W (H.out.below hW (Nat.le_refl _)) hr)
      clear hb ht ht'
      go_enter Try.func18, Try.ntmps18
      go_wp2_with (first | (go_at_call 47; refine (L1.out _ (below1 _ _)).mono ?_; rintro e w' ⟨rfl, rfl⟩) | (go_at_call 34; refine (L2.out _ (below1 _ _)).mono ?_; rintro e w' ⟨rfl, rfl⟩))
      go_ret
      rw [HE.out]
      exact ⟨_, _, rfl, C0.out.own, C0.out.below⟩
  · have hb' : bindOk bs = false := by simpa using hb
    have HE := Lib.hid (HBad.out (by rw [hb', Bool.false_and]))
    have L1 := Lib.hid (fun W (hW : Below w.heap.size w W) => l3Bind_is hb' (.slice A2 bs.length c2) w.heap.size W (H2.out.below hW (Nat.le_refl _)) hr2)
    clear hb hb'
    go_enter Try.func18, Try.ntmps18
    go_wp2_with (first | (go_at_call 47; refine (L1.out _ (below1 _ _)).mono ?_; rintro e w' ⟨rfl, rfl⟩))
    go_ret
    rw [HE.out]
    exact ⟨_, _, rfl, C0.out.own, C0.out.below⟩

end Go.Proofs.Ytlehcghdhfeahaa
/-
  The walks of szLit, toLit, eqLit, szLitS, toLitS, eqLitS.
-/
namespace Go.Proofs.Ytlehcghdhfeahaa
open Go.RowKit

theorem Try.infoLit : (Try.prog.info? 27).map (fun i => (i.zero, i.size, i.bytes)) = some (some (.agg #[.int .i64 0, .int .i64 0, .slice none 0 0]), 3, 40) := by kernel_rfl

/-- 'the first k of both are the same', kept from the walk. -/
def TSame {α : Type} (xs ys : List α) (k : Nat) : Prop := xs.take k = ys.take k
theorem TSame.step {α : Type} {xs ys : List α} {k : Nat} (h : TSame xs ys k) (h1 : k < xs.length) (h2 : k < ys.length) (e : xs[k] = ys[k]) : TSame xs ys (k + 1) := by
  unfold TSame at h ⊢
  rw [take_snoc xs k h1, take_snoc ys k h2, h, e]
theorem TSame.eq {α : Type} {xs ys : List α} (h : TSame xs ys xs.length) (hl : xs.length = ys.length) : xs = ys := by
  unfold TSame at h
  rwa [List.take_length, hl, List.take_length] at h

/-- What szLitS answers: -1, or what is left when the literals and all their integers are taken. -/
def SzRes (r left : Int) (n : Nat) : Prop := r = -1 ∨ (0 ≤ r ∧ r + n = left)
def SzTo (r left : Int) (n m : Nat) : Prop := 0 ≤ r ∧ r + n + m = left

end Go.Proofs.Ytlehcghdhfeahaa
/-
  Regions that draw their order and whose callees return plain values and keep all that was there: one walk of the text's order serves every order. The class of worlds: those that keep what was there.
-/
namespace Go.Proofs.Ytlehcghdhfeahaa
open Go.RowKit

/-- A world that keeps all that was there in w0. -/
def Later (w0 : World) : Type := { W : World // Below w0.heap.size w0 W }

instance (w0 : World) : Nonempty (Later w0) := ⟨⟨w0, Below.refl _ _⟩⟩

theorem wp_region_later {P : Program} {id : Nat} {Q : Exit → Act → World → Prop} {a : Act} {w0 : World} {l : List Oper} (hm : P.follows .mixedOrders = true) (hB : Region.lexB .any l.toArray = true)
    (h : wpQuiet P l.toArray (fun w' => ∃ x : Later w0, w' = x.val) (fun a' => ∀ w', (∃ x : Later w0, w' = x.val) → Q .normal a' w') l a) : (Code.region id l.toArray true).wp P Q a w0 :=
  wp_region_quiet (C := fun w' => ∃ x : Later w0, w' = x.val) hm hB ⟨⟨_, (Below.refl _ _).drew⟩, rfl⟩ (by simpa using h)

theorem later_cell {w0 : World} {a : Addr} {v : Value} (h : w0.cell? a = some v) (x : Later w0) : x.val.cell? a = some v := (x.2.cell (World.block_lt_of_cell? _ _ h)).trans h
/-- A callee's contract, met in a later world. -/
theorem later_of {P : Program} {f : FuncId} {args : Array Value} {w0 : World} {x : Later w0} {v : Value} (h : Calls P f args x.val fun e w' => e = .returned v ∧ Below x.val.heap.size x.val w') :
    Calls P f args x.val fun e w'' => e = .returned v ∧ ∃ y : Later w0, w'' = y.val :=
  h.mono fun _ w' ⟨he, hb⟩ => ⟨he, ⟨w', bthen x.2 hb⟩, rfl⟩
theorem later_same {P : Program} {f : FuncId} {args : Array Value} {w0 : World} {x : Later w0} {v : Value} (h : Calls P f args x.val fun e w' => e = .returned v ∧ x.val = w') :
    Calls P f args x.val fun e w'' => e = .returned v ∧ ∃ y : Later w0, w'' = y.val :=
  h.mono fun _ _ ⟨he, hb⟩ => ⟨he, x, hb.symm⟩

end Go.Proofs.Ytlehcghdhfeahaa
/-
  Sets of variables: as words of four bits (the program's), as rows of four bools (the specification's). The words, and the walks of argVars, bodyVars, ruleVars.
-/
namespace Go.Proofs.Ytlehcghdhfeahaa
open Go.RowKit

/-- One more term's variable. -/
def orV (m : Nat) (t : Int) : Nat := if isVarB t then m ||| 2 ^ (-1 - t).toNat else m
def maskFrom (m : Nat) (xs : List Int) : Nat := xs.foldl orV m
def maskOf (xs : List Int) : Nat := maskFrom 0 xs
def bodyMask (ls : List LLit) : Nat := ls.foldl (fun m l => m ||| maskOf l.2.2) 0
def yesMask (ls : List LLit) : Nat := ls.foldl (fun m l => if l.1 = 0 then m ||| maskOf l.2.2 else m) 0
def ruleMask (r : LRule) : Nat := maskOf r.1.2 ||| bodyMask r.2

theorem orV_or (a b : Nat) (t : Int) : orV (a ||| b) t = a ||| orV b t := by
  unfold orV
  split
  · rw [Nat.or_assoc]
  · rfl
theorem maskFrom_or (a b : Nat) : ∀ xs : List Int, maskFrom (a ||| b) xs = a ||| maskFrom b xs
  | [] => rfl
  | t :: xs => by
    show maskFrom (orV (a ||| b) t) xs = a ||| maskFrom (orV b t) xs
    rw [orV_or, maskFrom_or a (orV b t) xs]
theorem maskFrom_eq (a : Nat) (xs : List Int) : maskFrom a xs = a ||| maskOf xs := by
  have := maskFrom_or a 0 xs
  rwa [Nat.or_zero] at this
theorem or_lt16 {a b : Nat} (ha : a < 16) (hb : b < 16) : a ||| b < 16 := Nat.or_lt_two_pow (n := 4) ha hb
theorem pow_var_lt {t : Int} (h : isVarB t = true) : 2 ^ (-1 - t).toNat < 16 := by
  have h4 : (-1 - t).toNat < 4 := by simp [isVarB] at h; omega
  exact Nat.pow_lt_pow_right (by omega) h4
theorem orV_lt {m : Nat} {t : Int} (hm : m < 16) : orV m t < 16 := by
  unfold orV
  split
  · rename_i h
    exact or_lt16 hm (pow_var_lt h)
  · exact hm
theorem maskFrom_lt : ∀ (xs : List Int) {m : Nat}, m < 16 → maskFrom m xs < 16
  | [], _, h => h
  | _ :: xs, _, h => maskFrom_lt xs (orV_lt h)
theorem maskOf_lt (xs : List Int) : maskOf xs < 16 := maskFrom_lt xs (by omega)
theorem maskOf_take {xs : List Int} {k : Nat} (h : k < xs.length) : maskOf (xs.take (k + 1)) = orV (maskOf (xs.take k)) xs[k] := by
  unfold maskOf maskFrom
  rw [take_snoc xs k h, List.foldl_append]
  rfl
theorem bodyMask_take {ls : List LLit} {k : Nat} (h : k < ls.length) : bodyMask (ls.take (k + 1)) = bodyMask (ls.take k) ||| maskOf ls[k].2.2 := by
  unfold bodyMask
  rw [take_snoc ls k h, List.foldl_append]
  rfl
theorem yesMask_take {ls : List LLit} {k : Nat} (h : k < ls.length) : yesMask (ls.take (k + 1)) = if ls[k].1 = 0 then yesMask (ls.take k) ||| maskOf ls[k].2.2 else yesMask (ls.take k) := by
  unfold yesMask
  rw [take_snoc ls k h, List.foldl_append]
  rfl
theorem bodyMask_lt : ∀ (n : Nat) (ls : List LLit), n ≤ ls.length → bodyMask (ls.take n) < 16
  | 0, _, _ => by simp [bodyMask]
  | n + 1, ls, h => by
    rw [bodyMask_take (by omega)]
    exact or_lt16 (bodyMask_lt n ls (by omega)) (maskOf_lt _)
theorem yesMask_lt : ∀ (n : Nat) (ls : List LLit), n ≤ ls.length → yesMask (ls.take n) < 16
  | 0, _, _ => by simp [yesMask]
  | n + 1, ls, h => by
    rw [yesMask_take (by omega)]
    split
    · exact or_lt16 (yesMask_lt n ls (by omega)) (maskOf_lt _)
    · exact yesMask_lt n ls (by omega)
theorem bodyMask_lt' (ls : List LLit) : bodyMask ls < 16 := by
  have := bodyMask_lt ls.length ls (Nat.le_refl _)
  rwa [List.take_length] at this
theorem yesMask_lt' (ls : List LLit) : yesMask ls < 16 := by
  have := yesMask_lt ls.length ls (Nat.le_refl _)
  rwa [List.take_length] at this
theorem ruleMask_lt (r : LRule) : ruleMask r < 16 := or_lt16 (maskOf_lt _) (bodyMask_lt' _)

theorem or_word {a b : Nat} (ha : a < 16) (hb : b < 16) : bits .or .u64 (a : Int) (b : Int) = ((a ||| b : Nat) : Int) := u64_or_nat a b (by omega) (by omega)
/-- The walk's word for one more variable. -/
theorem orV_word {m : Nat} {t : Int} (hm : m < 16) (h : isVarB t = true) : bits .or .u64 (m : Int) (IntKind.u64.wrap (1 * 2 ^ (-1 - t).toNat)) = ((orV m t : Nat) : Int) := by
  have h4 : (-1 - t).toNat < 4 := by simp [isVarB] at h; omega
  have hw : IntKind.u64.wrap (1 * 2 ^ (-1 - t).toNat) = ((2 ^ (-1 - t).toNat : Nat) : Int) := by
    generalize (-1 - t).toNat = n at h4
    match n, h4 with
    | 0, _ => rfl
    | 1, _ => rfl
    | 2, _ => rfl
    | 3, _ => rfl
  rw [hw, or_word hm (pow_var_lt h)]
  simp [orV, h]

theorem later_int {P : Program} {f : FuncId} {args : Array Value} {w0 : World} {x : Later w0} {u v : Value} (h : Calls P f args x.val fun e w' => e = .returned u ∧ Below x.val.heap.size x.val w') (e : u = v) :
    Calls P f args x.val fun e w'' => e = .returned v ∧ ∃ y : Later w0, w'' = y.val := later_of (e ▸ h)

end Go.Proofs.Ytlehcghdhfeahaa
/-
  The walks of yesVars and of the program's RuleSafe.
-/
namespace Go.Proofs.Ytlehcghdhfeahaa
open Go.RowKit

/-- What RuleSafe answers. -/
def ruleSafe (r : LRule) : Bool := bits .andNot .u64 ((ruleMask r : Nat) : Int) ((yesMask r.2 : Nat) : Int) == 0

end Go.Proofs.Ytlehcghdhfeahaa
/-
  The specification's sets of variables: rows of four bools. The walks of l2Mark, l2Marks.
-/
namespace Go.Proofs.Ytlehcghdhfeahaa
open Go.RowKit

/-- Block g is the row of the bits of m. -/
def MkRow (w : World) (g m : Nat) : Prop := Blk w g 4 #[.bool (m.testBit 0), .bool (m.testBit 1), .bool (m.testBit 2), .bool (m.testBit 3)]
theorem MkRow.cell {w : World} {g m : Nat} (h : MkRow w g m) {i : Nat} (hi : i < 4) : w.cell? ⟨g, i, none⟩ = some (.bool (m.testBit i)) := by
  rw [Blk.cell h i]
  match i, hi with
  | 0, _ => rfl
  | 1, _ => rfl
  | 2, _ => rfl
  | 3, _ => rfl
theorem MkRow.frozen {w : World} {g m : Nat} (h : MkRow w g m) (i : Nat) : w.frozen? ⟨g, i, none⟩ = false := Blk.frozen h i
theorem MkRow.lt {w : World} {g m : Nat} (h : MkRow w g m) : g < w.heap.size := Blk.lt h
theorem MkRow.below {B : Nat} {w w' : World} {g m : Nat} (h : MkRow w g m) (hb : Below B w w') (hg : g < B) : MkRow w' g m := Blk.below h hb hg
theorem MkRow.set {w : World} {g m : Nat} (h : MkRow w g m) {j : Nat} (hj : j < 4) : MkRow (w.setCell ⟨g, j, none⟩ (.bool true)) g (m ||| 2 ^ j) := by
  have h2 := Blk.set_ h j (.bool true)
  unfold MkRow
  match j, hj with
  | 0, _ => simpa [Nat.testBit_or, show Nat.testBit 1 1 = false from rfl, show Nat.testBit 1 2 = false from rfl, show Nat.testBit 1 3 = false from rfl] using h2
  | 1, _ => simpa [Nat.testBit_or, show Nat.testBit 2 1 = true from rfl, show Nat.testBit 2 2 = false from rfl, show Nat.testBit 2 3 = false from rfl] using h2
  | 2, _ => simpa [Nat.testBit_or, show Nat.testBit 4 1 = false from rfl, show Nat.testBit 4 2 = true from rfl, show Nat.testBit 4 3 = false from rfl] using h2
  | 3, _ => simpa [Nat.testBit_or, show Nat.testBit 8 1 = false from rfl, show Nat.testBit 8 2 = false from rfl, show Nat.testBit 8 3 = true from rfl] using h2
theorem maskFrom_take {xs : List Int} {m k : Nat} (h : k < xs.length) : maskFrom m (xs.take (k + 1)) = orV (maskFrom m (xs.take k)) xs[k] := by
  unfold maskFrom
  rw [take_snoc xs k h, List.foldl_append]
  rfl
theorem MkRow.var {w : World} {g m : Nat} (h : MkRow w g m) {t : Int} {j : Nat} (hj : j < 4) (ht : t = -1 - (j : Int)) : MkRow (w.setCell ⟨g, j, none⟩ (.bool true)) g (orV m t) := by
  have hv : isVarB t = true := by simp [isVarB]; omega
  have hn : (-1 - t).toNat = j := by omega
  unfold orV
  rw [if_pos hv, hn]
  exact h.set hj

set_option maxHeartbeats 400000 in
theorem l2Mark_any (g m : Nat) (v : Value) (xs : List Int) (w : World) (hm : MkRow w g m) (h : RdInts w g v xs) (hr : xs.length ≤ 1048576) :
    Calls Try.prog 80 #[.slice (some ⟨g, 0, none⟩) 4 4, v] w fun e w' => e = .returned (.tuple #[]) ∧ MkRow w' g (maskFrom m xs) ∧ Only g (g + 1) w w' := by
  have H := Lib.hid h
  have HM := Lib.hid hm
  clear hm
  obtain ⟨A, c, rfl, hc, _⟩ := h
  go_enter Try.func80, Try.ntmps80
  go_wp2_with (fail)
  go_loopw [4] (fun i wr => ∃ k : Nat, k ≤ xs.length ∧ i = .int .i64 k ∧ MkRow wr g (maskFrom m (xs.take k)) ∧ Only g (g + 1) w wr) (fun i _ => xs.length - (intOf i).toNat)
  case atStart => exact ⟨0, Nat.zero_le _, rfl, HM.out, Only.refl _ _ _⟩
  case round =>
    obtain ⟨k, hk, rfl, hx, hon⟩ := hrel
    have hg := HM.out.lt
    by_cases hlt : k < xs.length
    · obtain ⟨A', c', e, _, hr2⟩ := H.out.below (hon.below (Nat.le_refl g) (by omega)) (Nat.le_refl g)
      injection e with e1 _ e3
      subst e1
      subst e3
      obtain ⟨b, o, rfl, hbB, hr2⟩ := hr2 (by omega)
      have hck : wr.cell? ⟨b, o + k, none⟩ = some (.int .i64 xs[k]) := hr2 k hlt
      have htk := maskFrom_take (m := m) hlt
      clear hr2
      by_cases he : -4 ≤ xs[k] ∧ xs[k] ≤ -1
      · have hv : xs[k] = -1 - ((0 : Nat) : Int) ∨ xs[k] = -1 - ((1 : Nat) : Int) ∨ xs[k] = -1 - ((2 : Nat) : Int) ∨ xs[k] = -1 - ((3 : Nat) : Int) := by omega
        have c0 := hx.cell (i := 0) (by omega)
        have c1 := hx.cell (i := 1) (by omega)
        have c2 := hx.cell (i := 2) (by omega)
        have c3 := hx.cell (i := 3) (by omega)
        have f0 := hx.frozen 0
        have f1 := hx.frozen 1
        have f2 := hx.frozen 2
        have f3 := hx.frozen 3
        have HK := Lib.hid (l1In_yes he)
        have HX := Lib.hid (And.intro hx (And.intro hon htk))
        clear he hx hon htk
        rcases hv with hv | hv | hv | hv
        all_goals
          have HV := Lib.hid hv
          rw [hv] at hck
          simp at hck
          clear hv
        · go_wp2_with (go_at_call 36; refine (l1In_yes (by omega) _).mono ?_; rintro e w' ⟨rfl, rfl⟩)
          go_roundw
          case rel => exact ⟨k + 1, by omega, by go_num, by rw [HX.out.2.2]; exact HX.out.1.var (by omega) HV.out, HX.out.2.1.setCell (by simp) _⟩
          case measure => simp [intOf]; omega
        · go_wp2_with (go_at_call 36; refine (l1In_yes (by omega) _).mono ?_; rintro e w' ⟨rfl, rfl⟩)
          go_roundw
          case rel => exact ⟨k + 1, by omega, by go_num, by rw [HX.out.2.2]; exact HX.out.1.var (by omega) HV.out, HX.out.2.1.setCell (by simp) _⟩
          case measure => simp [intOf]; omega
        · go_wp2_with (go_at_call 36; refine (l1In_yes (by omega) _).mono ?_; rintro e w' ⟨rfl, rfl⟩)
          go_roundw
          case rel => exact ⟨k + 1, by omega, by go_num, by rw [HX.out.2.2]; exact HX.out.1.var (by omega) HV.out, HX.out.2.1.setCell (by simp) _⟩
          case measure => simp [intOf]; omega
        · go_wp2_with (go_at_call 36; refine (l1In_yes (by omega) _).mono ?_; rintro e w' ⟨rfl, rfl⟩)
          go_roundw
          case rel => exact ⟨k + 1, by omega, by go_num, by rw [HX.out.2.2]; exact HX.out.1.var (by omega) HV.out, HX.out.2.1.setCell (by simp) _⟩
          case measure => simp [intOf]; omega
      · have HK := Lib.hid (l1In_no he)
        have HX := Lib.hid (show MkRow wr g (maskFrom m (xs.take (k + 1))) by rw [htk]; unfold orV; rw [if_neg (by simp [isVarB]; omega)]; exact hx)
        clear he hx htk
        go_wp2_with (go_at_call 36; refine (HK.out _).mono ?_; rintro e w' ⟨rfl, rfl⟩)
        go_roundw
        case rel => exact ⟨k + 1, by omega, by go_num, HX.out, hon⟩
        case measure => simp [intOf]; omega
    · have HX := Lib.hid (show MkRow wr g (maskFrom m xs) by rw [show k = xs.length by omega, List.take_length] at hx; exact hx)
      clear hx
      go_wp2_with (fail)
      go_end0
      exact ⟨rfl, HX.out, hon⟩

theorem MkRow.only {lo hi : Nat} {w w' : World} {g m : Nat} (h : MkRow w g m) (ho : Only lo hi w w') (hg : g < lo ∨ hi ≤ g) : MkRow w' g m := (ho.block g h.lt hg).trans h
theorem made4 : madeCells #[Value.bool false] 4 = #[.bool false, .bool false, .bool false, .bool false] := by
  apply Array.ext
  · simp [madeCells]
  · intro i h1 h2
    simp [madeCells]
    match i, h2 with
    | 0, _ => rfl
    | 1, _ => rfl
    | 2, _ => rfl
    | 3, _ => rfl
theorem MkRow.made (w : World) : MkRow (w.alloc (.cells (madeCells #[.bool false] 4) 4)) w.heap.size 0 := by
  rw [made4]
  exact Blk.new w _ _
theorem Try.infoBool : (Try.prog.info? 4).map (fun i => (i.zero, i.size, i.bytes)) = some (some (.bool false), 1, 1) := by kernel_rfl

theorem make4 (W : World) : (Instr.makeSlice 96 (.int .i64 4) (.int .i64 4)).run Try.prog W = .ok (.slice (some ⟨W.heap.size, 0, none⟩) 4 4) (W.alloc (.cells (madeCells #[.bool false] 4) 4)) := by
  obtain ⟨i0, hi0, hz0, hz1, hz2⟩ := info_parts Try.infoBool
  have hmk := run_make_rowN (P := Try.prog) 96 4 i0 (.bool false) Try.underlying96 hi0 hz0 .i64 .i64 4 4 (Nat.le_refl _) (by rw [hz2]; omega) (by omega) W
  rw [hz1] at hmk
  simp only [Value.cells, Nat.mul_one] at hmk
  exact hmk

set_option maxHeartbeats 1000000 in
set_option maxRecDepth 100000 in
theorem l2Marks_any (v : Value) (r : LRule) (w : World) (h : RdRule w w.heap.size v r) (hr : szR r ≤ 1048576) :
    Calls Try.prog 81 #[v] w fun e w' => ∃ g, e = .returned (.slice (some ⟨g, 0, none⟩) 4 4) ∧ MkRow w' g (ruleMask r) ∧ w.heap.size ≤ g ∧ Below w.heap.size w w' := by
  have hmk := make4
  obtain ⟨a, b, rfl, h, h2⟩ := h
  unfold szR at hr
  have H := Lib.hid h
  have H2 := Lib.hid h2
  obtain ⟨A, c, rfl, hc, _⟩ := h
  obtain ⟨A2, c2, rfl, hcc, _⟩ := h2
  go_enter Try.func81, Try.ntmps81
  go_wp2_with (fail)
  obtain ⟨w1, hw1⟩ : ∃ w1, w1 = w.alloc (Obj.cells #[Value.int IntKind.i64 r.1.1, Value.slice A r.1.2.length c, Value.slice A2 r.2.length c2] 62) := ⟨_, rfl⟩
  have B1 : Below w.heap.size w w1 := by rw [hw1]; exact below1 _ _
  have s1 : w1.heap.size = w.heap.size + 1 := by rw [hw1]; simp
  have x1 : Blk w1 w.heap.size 62 #[.int .i64 r.1.1, .slice A r.1.2.length c, .slice A2 r.2.length c2] := by rw [hw1]; exact Blk.new w _ _
  obtain ⟨w2, hw2⟩ : ∃ w2, w2 = w1.alloc (Obj.cells (madeCells #[Value.bool false] 4) 4) := ⟨_, rfl⟩
  have m2 : MkRow w2 (w.heap.size + 1) 0 := by rw [hw2, ← s1]; exact MkRow.made _
  have b2 : Below w1.heap.size w1 w2 := by rw [hw2]; exact below1 _ _
  have x2 := x1.below b2 x1.lt
  have B2 := bthen B1 b2
  rw [← hw1, ← hw2]
  clear hw1 hw2
  refine (l2Mark_any (w.heap.size + 1) 0 _ r.1.2 _ m2 ((H.out.below B2 (Nat.le_refl _)).more (by omega)) (by omega)).mono ?_
  rintro e w3 ⟨rfl, m3, on3⟩
  have x3 := x2.only on3 (.inl (by omega))
  have B3 : Below w.heap.size w w3 := Only.then_ B2 on3 (by omega)
  have q3 : w3.cell? ⟨w.heap.size, 2, none⟩ = some (.slice A2 r.2.length c2) := x3.cell 2
  rw [maskFrom_eq, Nat.zero_or] at m3
  clear x1 x2 m2
  go_wp2_with (fail)
  go_loopw [4] (fun i wr => ∃ k : Nat, k ≤ r.2.length ∧ i = .int .i64 k ∧ MkRow wr (w.heap.size + 1) (maskOf r.1.2 ||| bodyMask (r.2.take k)) ∧ Only (w.heap.size + 1) (w.heap.size + 2) w3 wr) (fun i _ => r.2.length - (intOf i).toNat)
  case atStart => exact ⟨0, Nat.zero_le _, rfl, by simpa [bodyMask] using m3, Only.refl _ _ _⟩
  case round =>
    obtain ⟨k, hk, rfl, hm, hon⟩ := hrel
    have BW : Below w.heap.size w wr := Only.then_ B3 hon (by omega)
    have xr := x3.only hon (.inl (by omega))
    have q2 : wr.cell? ⟨w.heap.size, 2, none⟩ = some (.slice A2 r.2.length c2) := xr.cell 2
    clear q3
    by_cases hlt : k < r.2.length
    · obtain ⟨b, o, u0, u1, u2, rfl, hbB, k0, k1, k2, rfl, rfl, p3⟩ := (H2.out.below BW (Nat.le_refl _)).get hlt
      have HA := Lib.hid p3
      obtain ⟨A3, c3, rfl, hc3, _⟩ := p3
      have hle := len_le_totL r.2 k hlt
      go_wp2_with (fail)
      refine (l2Mark_any (w.heap.size + 1) _ _ r.2[k].2.2 _ hm (HA.out.more (by omega)) (by omega)).mono ?_
      rintro e w4 ⟨rfl, m4, on4⟩
      rw [maskFrom_eq, Nat.or_assoc, ← bodyMask_take hlt] at m4
      go_wp2_with (fail)
      go_roundw
      case rel => exact ⟨k + 1, by omega, by go_num, m4, hon.trans on4⟩
      case measure => simp [intOf]; omega
    · have HX := Lib.hid (show MkRow wr (w.heap.size + 1) (ruleMask r) by rw [show k = r.2.length by omega, List.take_length] at hm; exact hm)
      clear hm
      go_wp2_with (fail)
      go_ret
      exact ⟨_, rfl, HX.out, by omega, BW⟩

end Go.Proofs.Ytlehcghdhfeahaa
/-
  The walk of the specification's RuleSafe.
-/
namespace Go.Proofs.Ytlehcghdhfeahaa
open Go.RowKit

def safeTo (a b k : Nat) : Bool := (List.range k).all fun i => !(a.testBit i && !b.testBit i)
theorem safe_bits : ∀ a b : Fin 16, (bits .andNot .u64 ((a.val : Nat) : Int) ((b.val : Nat) : Int) == 0) = safeTo a.val b.val 4 := by decide +kernel
theorem ruleSafe_eq (r : LRule) : ruleSafe r = safeTo (ruleMask r) (yesMask r.2) 4 := safe_bits ⟨ruleMask r, ruleMask_lt r⟩ ⟨yesMask r.2, yesMask_lt' r.2⟩
theorem safeTo_step {a b k : Nat} (h : safeTo a b k = true) (e : (a.testBit k && !b.testBit k) = false) : safeTo a b (k + 1) = true := by
  unfold safeTo at h ⊢
  rw [List.range_succ, List.all_append, h, Bool.true_and]
  simp only [List.all_cons, List.all_nil, e]
  rfl
theorem safeTo_not {a b k : Nat} (hk : k < 4) (e : (a.testBit k && !b.testBit k) = true) : safeTo a b 4 = false := by
  unfold safeTo
  rw [List.all_eq_false]
  exact ⟨k, List.mem_range.2 hk, by simp [e]⟩

set_option maxHeartbeats 1000000 in
set_option maxRecDepth 100000 in
theorem specRuleSafe_any (v : Value) (r : LRule) (w : World) (h : RdRule w w.heap.size v r) (hr : szR r ≤ 1048576) :
    Calls Try.prog 76 #[v] w fun e w' => e = .returned (.bool (ruleSafe r)) ∧ Below w.heap.size w w' := by
  have hmk := make4
  obtain ⟨a, b, rfl, h, h2⟩ := h
  have hsz := hr
  unfold szR at hr
  have H := Lib.hid h
  have H2 := Lib.hid h2
  obtain ⟨A, c, rfl, hc, _⟩ := h
  obtain ⟨A2, c2, rfl, hcc, _⟩ := h2
  go_enter Try.func76, Try.ntmps76
  go_wp2_with (fail)
  obtain ⟨w1, hw1⟩ : ∃ w1, w1 = w.alloc (Obj.cells #[Value.int IntKind.i64 r.1.1, Value.slice A r.1.2.length c, Value.slice A2 r.2.length c2] 62) := ⟨_, rfl⟩
  have B1 : Below w.heap.size w w1 := by rw [hw1]; exact below1 _ _
  have s1 : w1.heap.size = w.heap.size + 1 := by rw [hw1]; simp
  have x1 : Blk w1 w.heap.size 62 #[.int .i64 r.1.1, .slice A r.1.2.length c, .slice A2 r.2.length c2] := by rw [hw1]; exact Blk.new w _ _
  obtain ⟨w2, hw2⟩ : ∃ w2, w2 = w1.alloc (Obj.cells (madeCells #[Value.bool false] 4) 4) := ⟨_, rfl⟩
  have m2 : MkRow w2 (w.heap.size + 1) 0 := by rw [hw2, ← s1]; exact MkRow.made _
  have b2 : Below w1.heap.size w1 w2 := by rw [hw2]; exact below1 _ _
  have x2 := x1.below b2 x1.lt
  have B2 := bthen B1 b2
  have s2 : w2.heap.size = w.heap.size + 2 := by rw [hw2]; simp [s1]
  rw [← hw1, ← hw2]
  clear hw1 hw2
  go_loopw [4] (fun i wr => ∃ k : Nat, k ≤ r.2.length ∧ i = .int .i64 k ∧ MkRow wr (w.heap.size + 1) (yesMask (r.2.take k)) ∧ Only (w.heap.size + 1) (w.heap.size + 2) w2 wr) (fun i _ => r.2.length - (intOf i).toNat)
  case atStart => exact ⟨0, Nat.zero_le _, rfl, by simpa [yesMask] using m2, Only.refl _ _ _⟩
  case round =>
    obtain ⟨k, hk, rfl, hm, hon⟩ := hrel
    have BW : Below w.heap.size w wr := Only.then_ B2 hon (by omega)
    have xr := x2.only hon (.inl (by omega))
    have q0 : wr.cell? ⟨w.heap.size, 0, none⟩ = some (.int .i64 r.1.1) := xr.cell 0
    have q1 : wr.cell? ⟨w.heap.size, 1, none⟩ = some (.slice A r.1.2.length c) := xr.cell 1
    have q2 : wr.cell? ⟨w.heap.size, 2, none⟩ = some (.slice A2 r.2.length c2) := xr.cell 2
    by_cases hlt : k < r.2.length
    · obtain ⟨b, o, u0, u1, u2, rfl, hbB, k0, k1, k2, rfl, rfl, p3⟩ := (H2.out.below BW (Nat.le_refl _)).get hlt
      have HA := Lib.hid p3
      obtain ⟨A3, c3, rfl, hc3, _⟩ := p3
      have hle := len_le_totL r.2 k hlt
      have hty := yesMask_take hlt
      by_cases h0 : r.2[k].1 = 0
      · have hd : (r.2[k].1 == 0) = true := by simpa using h0
        rw [if_pos h0] at hty
        clear h0
        go_wp2_with (fail)
        refine (l2Mark_any (w.heap.size + 1) _ _ r.2[k].2.2 _ hm (HA.out.more (by omega)) (by omega)).mono ?_
        rintro e w4 ⟨rfl, m4, on4⟩
        rw [maskFrom_eq, ← hty] at m4
        clear hty
        go_wp2_with (fail)
        go_roundw
        case rel => exact ⟨k + 1, by omega, by go_num, m4, hon.trans on4⟩
        case measure => simp [intOf]; omega
      · have hd : (r.2[k].1 == 0) = false := by simpa using h0
        rw [if_neg h0] at hty
        rw [← hty] at hm
        have HM := Lib.hid hm
        clear hty hm h0
        go_wp2_with (fail)
        go_roundw
        case rel => exact ⟨k + 1, by omega, by go_num, HM.out, hon⟩
        case measure => simp [intOf]; omega
    · have HX := Lib.hid (show MkRow wr (w.heap.size + 1) (yesMask r.2) by rw [show k = r.2.length by omega, List.take_length] at hm; exact hm)
      have hgs := hm.lt
      clear hm
      go_wp2_with (fail)
      refine (l2Marks_any _ r _ ⟨_, _, rfl, H.out.on BW, H2.out.on BW⟩ hsz).mono ?_
      rintro e w5 ⟨g2, rfl, m5, hg2, hb5⟩
      have B5 := bthen BW hb5
      have y5 := HX.out.below hb5 hgs
      have HE := Lib.hid (ruleSafe_eq r)
      go_wp2_with (fail)
      go_loop [6] (fun i => ∃ k : Nat, k ≤ 4 ∧ i = .int .i64 k ∧ safeTo (ruleMask r) (yesMask r.2) k = true) (fun i => 4 - (intOf i).toNat)
      case atStart => exact ⟨0, Nat.zero_le _, rfl, by simp [safeTo]⟩
      case round =>
        obtain ⟨j, hj, rfl, hs⟩ := hrel
        by_cases hjl : j < 4
        · have c5 := m5.cell hjl
          have d5 := y5.cell hjl
          cases ha : (ruleMask r).testBit j
          · rw [ha] at c5
            have HS := Lib.hid (safeTo_step hs (by rw [ha]; rfl))
            clear hs ha
            go_wp2_with (fail)
            go_round
            case rel => exact ⟨j + 1, by omega, by go_num, HS.out⟩
            case measure => simp [intOf]; omega
          · rw [ha] at c5
            cases hb : (yesMask r.2).testBit j
            · rw [hb] at d5
              have HS := Lib.hid (safeTo_not hjl (show ((ruleMask r).testBit j && !(yesMask r.2).testBit j) = true by rw [ha, hb]; rfl))
              clear hs ha hb
              go_wp2_with (fail)
              go_ret
              exact ⟨ret_bool (by rw [HE.out, HS.out]), B5⟩
            · rw [hb] at d5
              have HS := Lib.hid (safeTo_step hs (by rw [ha, hb]; rfl))
              clear hs ha hb
              go_wp2_with (fail)
              go_round
              case rel => exact ⟨j + 1, by omega, by go_num, HS.out⟩
              case measure => simp [intOf]; omega
        · have HS := Lib.hid (show safeTo (ruleMask r) (yesMask r.2) 4 = true by rw [show j = 4 by omega] at hs; exact hs)
          clear hs
          go_wp2_with (fail)
          go_ret
          exact ⟨ret_bool (by rw [HE.out, HS.out]), B5⟩

end Go.Proofs.Ytlehcghdhfeahaa
/-
  The walks of the program's words of what variables have: bindingShift, with, constant, value.
-/
namespace Go.Proofs.Ytlehcghdhfeahaa
open Go.RowKit

theorem shift_any (v : Int) (h0 : 0 ≤ v) (h1 : v ≤ 3) (w : World) : Calls Try.prog 70 #[.int .i64 v] w fun e w' => e = .returned (.int .i64 ((3 - v) * 4)) ∧ w = w' := by
  go_enter Try.func70, Try.ntmps70
  go_wp2
  go_ret
  exact ⟨rfl, rfl⟩

theorem shl_word {v : Nat} (hv : v < 4) {c : Int} (hc : -1 ≤ c ∧ c ≤ 5) : (c + 1) * 2 ^ ((3 - v) * 4) % 4294967296 = ((shlB v c : Nat) : Int) := by
  unfold shlB
  match v, hv with
  | 0, _ => show (c + 1) * 4096 % 4294967296 = (((c + 1).toNat * 4096 : Nat) : Int); omega
  | 1, _ => show (c + 1) * 256 % 4294967296 = (((c + 1).toNat * 256 : Nat) : Int); omega
  | 2, _ => show (c + 1) * 16 % 4294967296 = (((c + 1).toNat * 16 : Nat) : Int); omega
  | 3, _ => show (c + 1) * 1 % 4294967296 = (((c + 1).toNat * 1 : Nat) : Int); omega
theorem or_word32 {a b : Nat} (ha : a < 65536) (hb : b < 65536) : bits .or .u32 (a : Int) (b : Int) = ((a ||| b : Nat) : Int) := u32_or_nat a b (by omega) (by omega)
theorem field_word {m v : Nat} (hm : m < 65536) : bits .and .u32 ((m : Int) / 2 ^ ((3 - v) * 4)) 15 = ((fieldB m v : Nat) : Int) := by
  have h := u32_and_nat (m / 2 ^ ((3 - v) * 4)) 15 (Nat.lt_of_le_of_lt (Nat.div_le_self _ _) (by omega)) (by omega)
  have e : (15 : Nat) = 2 ^ 4 - 1 := rfl
  rw [e, Nat.and_two_pow_sub_one_eq_mod] at h
  simpa [fieldB] using h
theorem fieldB_lt (m v : Nat) : fieldB m v < 16 := Nat.mod_lt _ (by omega)

theorem with_any (m v : Nat) (c : Int) (hm : m < 65536) (hv : v < 4) (hc : -1 ≤ c ∧ c ≤ 5) (w : World) :
    Calls Try.prog 59 #[.int .u32 (m : Nat), .int .i64 (v : Nat), .int .i64 c] w fun e w' => e = .returned (.int .u32 ((m ||| shlB v c : Nat) : Int)) ∧ w = w' := by
  go_enter Try.func59, Try.ntmps59
  go_wp2_with (go_at_call 70; refine (shift_any _ (by omega) (by omega) _).mono ?_; rintro e w' ⟨rfl, rfl⟩)
  go_ret
  exact ⟨ret_int (by rw [shl_word hv hc, or_word32 hm (shlB_lt hv hc)]), rfl⟩

theorem constant_any (m v : Nat) (hm : m < 65536) (hv : v < 4) (w : World) :
    Calls Try.prog 63 #[.int .u32 (m : Nat), .int .i64 (v : Nat)] w fun e w' => e = .returned (.int .i64 ((fieldB m v : Nat) - 1)) ∧ w = w' := by
  go_enter Try.func63, Try.ntmps63
  go_wp2_with (go_at_call 70; refine (shift_any _ (by omega) (by omega) _).mono ?_; rintro e w' ⟨rfl, rfl⟩)
  go_ret
  exact ⟨ret_int (by have := fieldB_lt m v; rw [field_word hm, IntWalk.wrap64_in (fieldB m v : Nat) (by omega), IntWalk.wrap64_in _ (by omega)]), rfl⟩

theorem value_any (bs : List Int) (hb : bindOk bs = true) (t : Int) (ht : termOk t = true) (w : World) :
    Calls Try.prog 61 #[.int .u32 (encB bs : Nat), .int .i64 t] w fun e w' => e = .returned (.int .i64 (termVal bs t)) ∧ w = w' := by
  have htb := termOk_at ht
  by_cases h1 : isVarB t = true
  · have hv : -4 ≤ t ∧ t ≤ -1 := by simpa [isVarB] using h1
    obtain ⟨v, hv4, rfl⟩ : ∃ v : Nat, v < 4 ∧ t = -1 - (v : Int) := ⟨(-1 - t).toNat, by omega, by omega⟩
    have HE := Lib.hid (show ((fieldB (encB bs) v : Nat) : Int) - 1 = termVal bs (-1 - (v : Int)) by
      rw [fieldB_enc hb hv4, termVal_var (by omega)]
      congr 1
      omega)
    have HN := Lib.hid (show -1 - (-1 - (v : Int)) = (v : Int) by omega)
    have hlt := encB_lt hb
    generalize encB bs = m at HE hlt
    go_enter Try.func61, Try.ntmps61
    go_wp2_with (first | (go_at_call 71; refine (isVar_is h1 _).mono ?_; rintro e w' ⟨rfl, rfl⟩) | (go_at_call 62; refine (varNumber_any _ hv.1 hv.2 _).mono ?_; rintro e w' ⟨rfl, rfl⟩; rw [HN.out]) | (go_at_call 63; refine (constant_any _ _ hlt hv4 _).mono ?_; rintro e w' ⟨rfl, rfl⟩))
    go_ret
    exact ⟨ret_int HE.out, rfl⟩
  · have h2 : isVarB t = false := by simpa using h1
    have h0 : 0 ≤ t := by simp [isVarB] at h2; omega
    have HE := Lib.hid (termVal_const (bs := bs) h0).symm
    go_enter Try.func61, Try.ntmps61
    go_wp2_with (go_at_call 71; refine (isVar_is h2 _).mono ?_; rintro e w' ⟨rfl, rfl⟩)
    go_ret
    exact ⟨ret_int HE.out, rfl⟩

end Go.Proofs.Ytlehcghdhfeahaa
/-
  The walks of bindingOf, values, numbers.
-/
namespace Go.Proofs.Ytlehcghdhfeahaa
open Go.RowKit

set_option maxHeartbeats 400000 in
theorem bindingOf_n (v : Value) (bs : List Int) (B z0 : Nat) (ok : Bool) (hz0 : z0 = if bindOk bs then encB bs else 0) (hok : ok = bindOk bs) (w : World) (h : RdInts w B v bs) (hr : bs.length ≤ 1048576) :
    Calls Try.prog 42 #[v] w fun e w' => e = .returned (.tuple #[.int .u32 (z0 : Nat), .bool ok]) ∧ w = w' := by
  obtain ⟨A, c, rfl, hc, ha⟩ := h
  have HO := Lib.hid (And.intro hz0 hok)
  clear hz0 hok
  by_cases hl : bs.length = 4
  · have hl1 : ((bs.length : Int) != 4) = false := by simp; omega
    have HL := Lib.hid hl
    clear hl
    go_enter Try.func42, Try.ntmps42
    go_wp2_with (fail)
    go_loop [4, 5, 6, 12] (fun m _ _ i => ∃ (k : Nat) (z : Nat), k ≤ bs.length ∧ i = .int .i64 k ∧ m = .int .u32 (z : Nat) ∧ z = encB (padB bs k) ∧ (bs.take k).all hasB = true) (fun _ _ _ i => bs.length - (intOf i).toNat)
    case atStart => exact ⟨0, 0, Nat.zero_le _, rfl, rfl, by rw [padB_zero, encB_none], rfl⟩
    case round =>
      obtain ⟨k, z, hk, rfl, rfl, hz, hs⟩ := hrel
      by_cases hlt : k < bs.length
      · obtain ⟨b, o, rfl, hbB, hx⟩ := ha (by omega)
        have hck : w.cell? ⟨b, o + k, none⟩ = some (.int .i64 bs[k]) := hx k hlt
        clear hx ha
        by_cases h0 : bs[k] < -1
        · have HE := Lib.hid (show bindOk bs = false by
            have : bs.all hasB = false := all_not hlt (by simp [hasB]; omega)
            simp [bindOk, this])
          clear hz hs
          go_wp2_with (fail)
          go_ret2
          rw [show ok = false by rw [HO.out.2, HE.out], show z0 = 0 by rw [HO.out.1, HE.out]; rfl]
          exact ⟨rfl, rfl⟩
        · have hd0 : decide (bs[k] < -1) = false := by simpa using h0
          by_cases h5 : 5 < bs[k]
          · have HE := Lib.hid (show bindOk bs = false by
              have : bs.all hasB = false := all_not hlt (by simp [hasB]; omega)
              simp [bindOk, this])
            clear hz hs
            go_wp2_with (fail)
            go_ret2
            rw [show ok = false by rw [HO.out.2, HE.out], show z0 = 0 by rw [HO.out.1, HE.out]; rfl]
            exact ⟨rfl, rfl⟩
          · have hk4 : k < 4 := by have := HL.out; omega
            have hp := padB_ok HL.out (Nat.le_of_lt hk4) hs
            have hst := padB_step HL.out hk4
            have hin : -1 ≤ bs[k] ∧ bs[k] ≤ 5 := by omega
            have hzl : z < 65536 := by rw [hz]; exact encB_lt hp
            have HZ := Lib.hid (show z ||| shlB k bs[k] = encB (padB bs (k + 1)) by rw [hz, encB_set hp hk4 hst.1 hin, hst.2])
            have HS := Lib.hid (show (bs.take (k + 1)).all hasB = true by rw [take_snoc bs k hlt, List.all_append, hs]; simp [hasB]; omega)
            clear hz hs hst hp
            go_wp2_with (go_at_call 59; refine (with_any _ _ _ hzl hk4 hin _).mono ?_; rintro e w' ⟨rfl, rfl⟩)
            go_round
            case rel => exact ⟨k + 1, _, by omega, by go_num, rfl, HZ.out, HS.out⟩
            case measure => simp [intOf]; omega
      · have hkn : k = bs.length := by omega
        have HE := Lib.hid (show bindOk bs = true by rw [hkn, List.take_length] at hs; exact bindOk_iff HL.out hs)
        have HZ := Lib.hid (show z = encB bs by rw [hz, hkn, HL.out, padB_all HL.out])
        clear hz hs ha hkn
        go_wp2_with (fail)
        go_ret2
        rw [show ok = true by rw [HO.out.2, HE.out], show z0 = z by rw [HO.out.1, HE.out, HZ.out]; rfl]
        exact ⟨rfl, rfl⟩
  · have hl1 : ((bs.length : Int) != 4) = true := by simp; omega
    have HE := Lib.hid (show bindOk bs = false by simp [bindOk, hl])
    clear hl ha
    go_enter Try.func42, Try.ntmps42
    go_wp2_with (fail)
    go_ret2
    rw [show ok = false by rw [HO.out.2, HE.out], show z0 = 0 by rw [HO.out.1, HE.out]; rfl]
    exact ⟨rfl, rfl⟩

theorem bindingOf_yes {bs : List Int} (hb : bindOk bs = true) (v : Value) (B : Nat) (w : World) (h : RdInts w B v bs) :
    Calls Try.prog 42 #[v] w fun e w' => e = .returned (.tuple #[.int .u32 (encB bs : Nat), .bool true]) ∧ w = w' :=
  bindingOf_n v bs B _ true (by rw [hb]; rfl) hb.symm w h (by have := bindOk_len hb; omega)
theorem bindingOf_no {bs : List Int} (hb : bindOk bs = false) (v : Value) (B : Nat) (w : World) (h : RdInts w B v bs) (hr : bs.length ≤ 1048576) :
    Calls Try.prog 42 #[v] w fun e w' => e = .returned (.tuple #[.int .u32 ((0 : Nat) : Int), .bool false]) ∧ w = w' :=
  bindingOf_n v bs B 0 false (by rw [hb]; rfl) hb.symm w h hr

set_option maxHeartbeats 400000 in
theorem values_any (v : Value) (bs args : List Int) (hb : bindOk bs = true) (ht : args.all termOk = true) (w : World) (h : RdInts w w.heap.size v args) (hr : args.length ≤ 1048576) :
    Calls Try.prog 50 #[.int .u32 (encB bs : Nat), v] w fun e w' => ∃ A' c', e = .returned (.slice A' args.length c') ∧ OwnInts w' w.heap.size w'.heap.size (.slice A' args.length c') (args.map (termVal bs)) ∧ Below w.heap.size w w' := by
  obtain ⟨A, c, rfl, hc, hcell⟩ := h
  have hmk := run_make_row' (P := Try.prog) 23 3 (.int .i64 0) 8 Try.underlying23 Try.infoInt rfl .i64 .i64 args.length (by omega) (by omega)
  have HV := Lib.hid (fun t ht => value_any bs hb t ht)
  generalize encB bs = m at HV
  obtain ⟨ys, hys⟩ : ∃ ys, ys = args.map (termVal bs) := ⟨_, rfl⟩
  have hyl : ys.length = args.length := by rw [hys]; simp
  have HY := Lib.hid hys
  have HYL := Lib.hid hyl
  clear hys hyl
  go_enter Try.func50, Try.ntmps50
  go_wp2_with (fail)
  go_loopw [6, 7, 13] (fun _ _ i wr => ∃ k : Nat, k ≤ args.length ∧ i = .int .i64 k ∧ wr.rowIs w.heap.size 3 args.length (fun j => if j < k then .int .i64 (ys.getD j 0) else .int .i64 0) ∧ Below w.heap.size w wr)
    (fun _ _ i _ => args.length - (intOf i).toNat)
  case atStart => exact ⟨0, Nat.zero_le _, rfl, (World.rowIs_made w _ _ _).congr (fun j _ => by simp), (Below.refl _ _).alloc (Nat.le_refl _) _⟩
  case round =>
    obtain ⟨k, hk, rfl, hrow, hb⟩ := hrel
    by_cases hlt : k < args.length
    · obtain ⟨b, o, rfl, hbB, hx⟩ := hcell (by omega)
      have hck : wr.cell? ⟨b, o + k, none⟩ = some (.int .i64 args[k]) := (hb.cell (p := ⟨b, o + k, none⟩) hbB).trans (hx k hlt)
      have hok : termOk args[k] = true := List.all_eq_true.1 ht _ (List.getElem_mem hlt)
      have hc2 := hrow.cell hlt
      have hf2 := hrow.frozen k
      have HV2 := Lib.hid (HV.out _ hok)
      have HG := Lib.hid (show ys.getD k 0 = termVal bs args[k] by rw [HY.out]; simp [hlt])
      clear hx
      have HR := Lib.hid hrow
      clear hrow hok
      go_wp2_with (go_at_call 61; refine (HV2.out _).mono ?_; rintro e w' ⟨rfl, rfl⟩)
      go_roundw
      case rel =>
        refine ⟨k + 1, by omega, by go_num, (HR.out.set k _).congr (fun j hj => ?_), hb.setCell (Nat.le_refl _) _⟩
        by_cases e : j = k
        · subst e
          simp only [if_true]
          rw [if_pos (by omega), HG.out]
        · rw [if_neg e]
          by_cases h2 : j < k
          · rw [if_pos h2, if_pos (by omega)]
          · rw [if_neg h2, if_neg (by omega)]
      case measure => simp [intOf]; omega
    · have hkn : k = args.length := by omega
      have HO : OwnInts wr w.heap.size wr.heap.size (.slice (some ⟨w.heap.size, 0, none⟩) ys.length ys.length) ys :=
        OwnInts.of_rowIs (by rw [HYL.out]; exact hrow.congr (fun j hj => by rw [if_pos (by omega)])) (Nat.le_refl _) hrow.lt (by have := HYL.out; unfold maxLen; omega)
      rw [HYL.out, HY.out] at HO
      clear hrow hcell
      have HH := Lib.hid HO
      clear HO
      clear hkn
      go_wp2_with (fail)
      go_ret
      exact ⟨_, _, rfl, HH.out, hb⟩

theorem bs_getD {bs : List Int} {j : Nat} (hl : bs.length = 4) (hj : j < 4) : bs.getD j (-1) = bs.getD j 0 := by
  rw [List.getD_eq_getElem?_getD, List.getD_eq_getElem?_getD, List.getElem?_eq_getElem (by omega)]
  rfl

theorem make4i (W : World) : (Instr.makeSlice 23 (.int .i64 4) (.int .i64 4)).run Try.prog W = .ok (.slice (some ⟨W.heap.size, 0, none⟩) 4 4) (W.alloc (.cells (madeCells #[.int .i64 0] 4) 3)) :=
  run_make_row' (P := Try.prog) 23 3 (.int .i64 0) 8 Try.underlying23 Try.infoInt rfl .i64 .i64 4 (by omega) (by omega) W

set_option maxHeartbeats 400000 in
set_option maxRecDepth 100000 in
theorem numbers_any (bs : List Int) (hb : bindOk bs = true) (w : World) :
    Calls Try.prog 46 #[.int .u32 (encB bs : Nat)] w fun e w' => ∃ A' c', e = .returned (.slice A' bs.length c') ∧ OwnInts w' w.heap.size w'.heap.size (.slice A' bs.length c') bs ∧ Below w.heap.size w w' := by
  have hmk := make4i
  have hl := bindOk_len hb
  have HV := Lib.hid (fun v (hv : v < 4) => (show (fieldB (encB bs) v : Nat) - 1 = bs.getD v 0 by rw [fieldB_enc hb hv, bs_getD hl hv]))
  have hm := encB_lt hb
  generalize encB bs = m at HV hm
  have HL := Lib.hid hl
  clear hl
  go_enter Try.func46, Try.ntmps46
  go_wp2_with (fail)
  go_loopw [4, 8] (fun _ i wr => ∃ k : Nat, k ≤ 4 ∧ i = .int .i64 k ∧ wr.rowIs w.heap.size 3 4 (fun j => if j < k then .int .i64 (bs.getD j 0) else .int .i64 0) ∧ Below w.heap.size w wr)
    (fun _ i _ => 4 - (intOf i).toNat)
  case atStart => exact ⟨0, Nat.zero_le _, rfl, (World.rowIs_made w _ _ _).congr (fun j _ => by simp), (Below.refl _ _).alloc (Nat.le_refl _) _⟩
  case round =>
    obtain ⟨k, hk, rfl, hrow, hb⟩ := hrel
    by_cases hlt : k < 4
    · have hc2 := hrow.cell hlt
      have hf2 := hrow.frozen k
      have HC := Lib.hid (constant_any m k hm hlt)
      have HG := Lib.hid (HV.out k hlt)
      have HR := Lib.hid hrow
      clear hrow
      go_wp2_with (go_at_call 63; refine (HC.out _).mono ?_; rw [HG.out]; rintro e w' ⟨rfl, rfl⟩)
      go_roundw
      case rel =>
        refine ⟨k + 1, by omega, by go_num, (HR.out.set k _).congr (fun j hj => ?_), hb.setCell (Nat.le_refl _) _⟩
        by_cases e : j = k
        · subst e
          simp only [if_true]
          rw [if_pos (by omega)]
          simp
        · rw [if_neg e]
          by_cases h2 : j < k
          · rw [if_pos h2, if_pos (by omega)]
          · rw [if_neg h2, if_neg (by omega)]
      case measure => simp [intOf]; omega
    · have hkn : k = 4 := by omega
      have HO : OwnInts wr w.heap.size wr.heap.size (.slice (some ⟨w.heap.size, 0, none⟩) bs.length bs.length) bs :=
        OwnInts.of_rowIs (by rw [HL.out]; exact hrow.congr (fun j hj => by rw [if_pos (by omega)])) (Nat.le_refl _) hrow.lt (by have := HL.out; unfold maxLen; omega)
      have HH := Lib.hid HO
      clear HO hrow hkn
      go_wp2_with (fail)
      go_ret
      refine ⟨_, _, ?_, HH.out, hb⟩
      rw [HL.out]
      rfl

end Go.Proofs.Ytlehcghdhfeahaa
/-
  The program's Bound.
-/
namespace Go.Proofs.Ytlehcghdhfeahaa
open Go.RowKit

theorem areTerms_is {xs : List Int} {b : Bool} (e : xs.all termOk = b) (v : Value) (B : Nat) (w : World) (h : RdInts w B v xs) (hr : xs.length ≤ 1048576) :
    Calls Try.prog 43 #[v] w fun e w' => e = .returned (.bool b) ∧ w = w' := e ▸ areTerms_any v xs B w h hr

set_option maxHeartbeats 400000 in
set_option maxRecDepth 100000 in
theorem implBound_any (v v2 : Value) (xs bs : List Int) (w : World) (h : RdInts w w.heap.size v xs) (h2 : RdInts w w.heap.size v2 bs) (hr : xs.length ≤ 1048576) (hr2 : bs.length ≤ 1048576) :
    Calls Try.prog 17 #[v, v2] w fun e w' => ∃ A' c', e = .returned (.slice A' (boundL xs bs).length c') ∧ OwnInts w' w.heap.size w'.heap.size (.slice A' (boundL xs bs).length c') (boundL xs bs) ∧ Below w.heap.size w w' := by
  have H := Lib.hid h
  have H2 := Lib.hid h2
  obtain ⟨A, c, rfl, hc, _⟩ := h
  obtain ⟨A2, c2, rfl, hc2, _⟩ := h2
  have HBad := Lib.hid (show (bindOk bs && xs.all termOk) = false → boundL xs bs = [] from fun e => by unfold boundL; rw [e]; rfl)
  have N0 := Lib.hid (show OwnInts w w.heap.size w.heap.size (.slice none 0 0) [] from ⟨World.ownsRow_nil _ _ _ _, fun g hg => by cases hg⟩)
  by_cases hb : bindOk bs = true
  · have L1 := Lib.hid (fun W (hW : RdInts W w.heap.size (.slice A2 bs.length c2) bs) => bindingOf_yes hb (.slice A2 bs.length c2) w.heap.size W hW)
    by_cases ht : xs.all termOk = true
    · have HY := Lib.hid (show boundL xs bs = xs.map (termVal bs) by unfold boundL; rw [hb, ht]; rfl)
      have HL := Lib.hid (show (boundL xs bs).length = xs.length by rw [HY.out]; simp)
      have L2 := Lib.hid (areTerms_is ht (.slice A xs.length c) w.heap.size w H.out hr)
      have L3 := Lib.hid (values_any (.slice A xs.length c) bs xs hb ht w H.out hr)
      clear hb ht
      generalize encB bs = m at L1 L3
      go_enter Try.func17, Try.ntmps17
      go_wp2_with (first | (go_at_call 42; refine (L1.out _ H2.out).mono ?_; rintro e w' ⟨rfl, rfl⟩) | (go_at_call 43; refine L2.out.mono ?_; rintro e w' ⟨rfl, rfl⟩) | (go_at_call 50; refine L3.out.mono ?_; rintro e w1 ⟨A', c', rfl, ho, hbe⟩; have HO := Lib.hid (And.intro ho hbe); clear ho hbe))
      go_ret
      refine ⟨A', c', by rw [HL.out]; rfl, ?_, HO.out.2⟩
      rw [HL.out, HY.out]
      exact HO.out.1
    · have ht' : xs.all termOk = false := by simpa using ht
      have HE := Lib.hid (HBad.out (by rw [ht', Bool.and_false]))
      have L2 := Lib.hid (areTerms_is ht' (.slice A xs.length c) w.heap.size w H.out hr)
      clear hb ht ht'
      generalize encB bs = m at L1
      go_enter Try.func17, Try.ntmps17
      go_wp2_with (first | (go_at_call 42; refine (L1.out _ H2.out).mono ?_; rintro e w' ⟨rfl, rfl⟩) | (go_at_call 43; refine L2.out.mono ?_; rintro e w' ⟨rfl, rfl⟩))
      go_ret
      rw [HE.out]
      exact ⟨_, _, rfl, N0.out, Below.refl _ _⟩
  · have hb' : bindOk bs = false := by simpa using hb
    have HE := Lib.hid (HBad.out (by rw [hb', Bool.false_and]))
    have L1 := Lib.hid (fun W (hW : RdInts W w.heap.size (.slice A2 bs.length c2) bs) => bindingOf_no hb' (.slice A2 bs.length c2) w.heap.size W hW hr2)
    clear hb hb'
    go_enter Try.func17, Try.ntmps17
    go_wp2_with (first | (go_at_call 42; refine (L1.out _ H2.out).mono ?_; rintro e w' ⟨rfl, rfl⟩))
    go_ret
    rw [HE.out]
    exact ⟨_, _, rfl, N0.out, Below.refl _ _⟩

end Go.Proofs.Ytlehcghdhfeahaa
/-
  Both BodySafe.
-/
namespace Go.Proofs.Ytlehcghdhfeahaa
open Go.RowKit

def litFine (l : LLit) : Bool := decide (0 ≤ l.1 ∧ l.1 ≤ 3) && l.2.2.all termOk
def bodySafe (ls : List LLit) : Bool := (ls.all litFine && decide (ls.length ≤ 4)) && ruleSafe ((0, []), ls)
theorem litFine_kind {l : LLit} (h : ¬ (0 ≤ l.1 ∧ l.1 ≤ 3)) : litFine l = false := by simp [litFine, h]
theorem litFine_terms {l : LLit} (h : l.2.2.all termOk = false) : litFine l = false := by unfold litFine; rw [h, Bool.and_false]
theorem litFine_yes {l : LLit} (h : 0 ≤ l.1 ∧ l.1 ≤ 3) (h2 : l.2.2.all termOk = true) : litFine l = true := by unfold litFine; rw [h2, decide_eq_true h]; rfl
theorem ruleMask_body (ls : List LLit) : ruleMask ((0, []), ls) = bodyMask ls := by simp [ruleMask, maskOf, maskFrom]
theorem bodySafe_not {ls : List LLit} {k : Nat} (hk : k < ls.length) (e : litFine ls[k] = false) : bodySafe ls = false := by
  unfold bodySafe
  rw [all_not hk e]
  rfl
theorem l2Terms_is {xs : List Int} {b : Bool} (e : xs.all termOk = b) (v : Value) (B : Nat) (w : World) (h : RdInts w B v xs) (hr : xs.length ≤ 1048576) :
    Calls Try.prog 34 #[v] w fun e w' => e = .returned (.bool b) ∧ w = w' := e ▸ l2Terms_any v xs B w h hr

end Go.Proofs.Ytlehcghdhfeahaa
/-
  The specification's HeadOf.
-/
namespace Go.Proofs.Ytlehcghdhfeahaa
open Go.RowKit

theorem zeroI (w : World) (lo hi : Nat) : OwnInts w lo hi (.slice none 0 0) [] := ⟨World.ownsRow_nil _ _ _ _, fun g hg => by cases hg⟩

set_option maxHeartbeats 2000000 in
set_option maxRecDepth 100000 in
theorem specHeadOf_any (v v2 : Value) (a : LFact) (bs : List Int) (w : World) (h : RdFact w w.heap.size v a) (h2 : RdInts w w.heap.size v2 bs) (hr : a.2.length ≤ 1048576) (hr2 : bs.length ≤ 1048576) :
    Calls Try.prog 24 #[v, v2] w fun e w' => ∃ A' c', e = .returned (.tuple #[.agg #[.int .i64 (headOf a bs).1, .slice A' (headOf a bs).2.length c'], .bool (headOk a bs)]) ∧ OwnInts w' w.heap.size w'.heap.size (.slice A' (headOf a bs).2.length c') (headOf a bs).2 ∧ Below w.heap.size w w' := by
  obtain ⟨i0, hi0, hz0, hz1, hz2⟩ := info_parts Try.infoInt
  obtain ⟨u, rfl, h⟩ := h
  have H := Lib.hid h
  have H2 := Lib.hid h2
  obtain ⟨A, c, rfl, hc, _⟩ := h
  obtain ⟨A2, c2, rfl, hc2, _⟩ := h2
  obtain ⟨F, hF⟩ : ∃ F, F = headOf a bs := ⟨_, rfl⟩
  obtain ⟨ok, hok⟩ : ∃ ok, ok = headOk a bs := ⟨_, rfl⟩
  rw [← hF, ← hok]
  have HF := Lib.hid hF
  have HK := Lib.hid hok
  clear hF hok
  -- the worlds ahead
  have X0 : ∀ T1 c1 T2 c2, Blk ((w.alloc (Obj.cells c1 T1)).alloc (Obj.cells c2 T2)) w.heap.size T1 c1 := fun T1 c1 T2 c2 => (Blk.new w T1 c1).alloc _
  have X1 : ∀ o T2 c2, Blk ((w.alloc o).alloc (Obj.cells c2 T2)) (w.heap.size + 1) T2 c2 := fun o T2 c2 => by simpa using Blk.new (w.alloc o) T2 c2
  by_cases hb : bindOk bs = true
  · have L1 := Lib.hid (fun W (hW : Below w.heap.size w W) => l3Bind_is hb (.slice A2 bs.length c2) w.heap.size W (H2.out.below hW (Nat.le_refl _)) hr2)
    by_cases ht : a.2.all termOk = true
    · have L2 := Lib.hid (fun W (hW : Below w.heap.size w W) => l2Terms_is ht (.slice A a.2.length c) w.heap.size W (H.out.below hW (Nat.le_refl _)) hr)
      have HB4 := Lib.hid (bindOk_len hb)
      have HB := Lib.hid hb
      have HT := Lib.hid ht
      have HTK := Lib.hid (show ∀ k (hk : k < a.2.length), termOk a.2[k] = true ∧ -1 ≤ termVal bs a.2[k] ∧ termVal bs a.2[k] ≤ 5 from fun k hk => by
        have := List.all_eq_true.1 ht _ (List.getElem_mem hk)
        exact ⟨this, termVal_bounds hb this⟩)
      obtain ⟨ys, hys⟩ : ∃ ys, ys = a.2.map (termVal bs) := ⟨_, rfl⟩
      have HY := Lib.hid hys
      have HYL := Lib.hid (show ys.length = a.2.length by rw [hys]; simp)
      have HYK := Lib.hid (show ∀ k (hk : k < a.2.length), ys.take (k + 1) = ys.take k ++ [termVal bs a.2[k]] from fun k hk => by
        rw [take_snoc ys k (by rw [hys]; simpa using hk)]
        simp [hys])
      clear hb ht hys
      go_enter Try.func24, Try.ntmps24
      go_wp2_with (fail)
      have x0 := X0 25 #[.int .i64 a.1, .slice A a.2.length c] 35 #[.int .i64 0, .slice none 0 0]
      have x1 := X1 (Obj.cells #[.int .i64 a.1, .slice A a.2.length c] 25) 35 #[.int .i64 0, .slice none 0 0]
      obtain ⟨w2, hw2⟩ : ∃ w2, w2 = ((w.alloc (Obj.cells #[Value.int IntKind.i64 a.1, Value.slice A a.2.length c] 25)).alloc (Obj.cells #[Value.int IntKind.i64 0, Value.slice none 0 0] 35)) := ⟨_, rfl⟩
      have B2 : Below w.heap.size w w2 := by rw [hw2]; exact below2 _ _ _
      have hs2 : w.heap.size + 1 < w2.heap.size := by rw [hw2]; simp
      rw [← hw2] at x0 x1 ⊢
      clear hw2 X0 X1
      have q00 : w2.cell? ⟨w.heap.size, 0, none⟩ = some (.int .i64 a.1) := x0.cell 0
      have q01 : w2.cell? ⟨w.heap.size, 1, none⟩ = some (.slice A a.2.length c) := x0.cell 1
      refine (L1.out _ B2).mono ?_
      rintro e w' ⟨rfl, rfl⟩
      go_wp2_with (fail)
      refine (L2.out _ B2).mono ?_
      rintro e w' ⟨rfl, rfl⟩
      go_wp2_with (fail)
      have x2 : Blk (w2.alloc (Obj.cells #[Value.int IntKind.i64 a.1, Value.slice none 0 0] 35)) w2.heap.size 35 #[.int .i64 a.1, .slice none 0 0] := Blk.new _ _ _
      have R0 : Below w.heap.size w (w2.alloc (Obj.cells #[Value.int IntKind.i64 a.1, Value.slice none 0 0] 35)) ∧ Blk (w2.alloc (Obj.cells #[Value.int IntKind.i64 a.1, Value.slice none 0 0] 35)) w.heap.size 25 #[.int .i64 a.1, .slice A a.2.length c] ∧ Blk (w2.alloc (Obj.cells #[Value.int IntKind.i64 a.1, Value.slice none 0 0] 35)) (w.heap.size + 1) 35 #[.int .i64 0, .slice none 0 0] := ⟨bthen B2 (below1 _ _), x0.alloc _, x1.alloc _⟩
      clear x0 x1 q00 q01
      go_loopw [7, 8] (fun i _ wr => ∃ (k : Nat) (A' : Option Addr) (c' : Nat), k ≤ a.2.length ∧ i = .int .i64 k ∧ (ys.take k).all constOk = true ∧ OwnInts wr (w2.heap.size + 1) wr.heap.size (.slice A' (ys.take k).length c') (ys.take k) ∧
          Blk wr w2.heap.size 35 #[.int .i64 a.1, .slice A' (ys.take k).length c'] ∧ (Below w.heap.size w wr ∧ Blk wr w.heap.size 25 #[.int .i64 a.1, .slice A a.2.length c] ∧ Blk wr (w.heap.size + 1) 35 #[.int .i64 0, .slice none 0 0])) (fun i _ _ => a.2.length - (intOf i).toNat)
      case atStart => exact ⟨0, none, 0, Nat.zero_le _, rfl, rfl, zeroI _ _ _, x2, R0⟩
      case round =>
        obtain ⟨k, A', c', hk, rfl, hs, ho, y2, hbe, y0, y1⟩ := hrel
        have hln : (ys.take k).length ≤ k := by simp; omega
        have q00 : wr.cell? ⟨w.heap.size, 0, none⟩ = some (.int .i64 a.1) := y0.cell 0
        have q01 : wr.cell? ⟨w.heap.size, 1, none⟩ = some (.slice A a.2.length c) := y0.cell 1
        by_cases hlt : k < a.2.length
        · have hre := H.out.below hbe (Nat.le_refl _)
          obtain ⟨A3, c3, e3, _, hx⟩ := hre
          injection e3 with e3 _ e4
          subst e3 e4
          obtain ⟨b, o, rfl, hbB, hx⟩ := hx (by omega)
          have hck : wr.cell? ⟨b, o + k, none⟩ = some (.int .i64 a.2[k]) := hx k hlt
          obtain ⟨htk, htl, hth⟩ := HTK.out k hlt
          have T1 := Lib.hid (l3Term_any (.slice A2 bs.length c2) bs a.2[k] w.heap.size wr (H2.out.below hbe (Nat.le_refl _)) HB4.out htk)
          have HS := Lib.hid (HYK.out k hlt)
          clear hx
          obtain ⟨zs, hzs⟩ : ∃ zs, zs = ys.take k := ⟨_, rfl⟩
          rw [← hzs] at ho hln y2 hs
          have HZ := Lib.hid hzs
          clear hzs
          obtain ⟨t, htv⟩ : ∃ t, t = termVal bs a.2[k] := ⟨_, rfl⟩
          rw [← htv] at T1 HS htl hth
          have HTV := Lib.hid htv
          clear htv htk
          have HP := Lib.hid (And.intro ho (And.intro hbe (And.intro y0 (And.intro y1 y2))))
          have c20 : wr.cell? ⟨w2.heap.size, 0, none⟩ = some (.int .i64 a.1) := y2.cell 0
          have c21 : wr.cell? ⟨w2.heap.size, 1, none⟩ = some (.slice A' zs.length c') := y2.cell 1
          have c10 : wr.cell? ⟨w.heap.size + 1, 0, none⟩ = some (.int .i64 0) := y1.cell 0
          have c11 : wr.cell? ⟨w.heap.size + 1, 1, none⟩ = some (.slice none 0 0) := y1.cell 1
          have f10 := y1.frozen 0
          have f11 := y1.frozen 1
          clear ho y0 y1 y2
          by_cases h0 : t < 0
          · have HN := Lib.hid (show ok = false ∧ F = (0, []) by
              have hno : headOk a bs = false := headOk_vals (all_not (k := k) (by simpa using hlt) (by
                have := HTV.out
                simp [constOk]
                omega))
              exact ⟨by rw [HK.out, hno], by rw [HF.out, headOf_no hno]⟩)
            clear hs
            go_wp2_with (go_at_call 51; refine T1.out.mono ?_; rintro e w' ⟨rfl, rfl⟩)
            refine bodyPost_ret (v := .tuple #[.agg #[.int .i64 0, .slice none 0 0], .bool false]) (by simp [results, Try.results24, go_sem, c10, c11]) rfl ?_
            rw [HN.out.1, HN.out.2]
            exact ⟨none, 0, rfl, zeroI _ _ _, (hbe.setCell (by simp) _).setCell (by simp) _⟩
          · have hd0 : decide (t < 0) = false := by simpa using h0
            have HCS := Lib.hid (show (zs ++ [t]).all constOk = true by rw [List.all_append, hs]; simp [constOk]; omega)
            clear hs
            go_wp2_with (first | (go_at_call 51; refine T1.out.mono ?_; rintro e w' ⟨rfl, rfl⟩) | (at_builtin; refine wpList_append_lies _ rfl (.tmp 40) (.tmp 42) 23 rfl (w2.heap.size + 1) 3 i0 (.int .i64 0) 1 8 Try.underlying23 hi0 hz0 hz1 hz2 rfl (by decide) (.slice A' zs.length c') zs.length (zs.map (Value.int .i64)) rfl ?c1 ⟨_, 0, none⟩ 1 1 [.int .i64 t] rfl rfl (news1s _ _ _ _ (by simp)) ?c2 (by omega) (by unfold maxLen; omega) (by omega) ?c3 _ rfl ?_))
            case c1 => exact HP.out.1.1.alloc _
            case c2 => intro u hu; simp at hu; subst hu; rfl
            case c3 => have := HP.out.2.2.2.2.lt; simp; omega
            intro g cap w4 hown hg _ _
            have hgr := grown_from_alloc hg
            obtain ⟨ho, hbe', y0, y1, y2⟩ := HP.out
            have z0 := y0.grown hgr (ho.apart (by omega))
            have z1 := y1.grown hgr (ho.apart (by omega))
            have z2 := y2.grown hgr (ho.apart (by omega))
            have hb4 : Below w.heap.size w w4 := hbe'.trans (Below.grown (Below.refl _ _) hgr hbe'.size (fun j hj => by have := ho.lt hj; omega))
            have z2f := z2.frozen 1
            have z2c : w4.cell? ⟨w2.heap.size, 1, none⟩ = some (.slice A' zs.length c') := z2.cell 1
            have z2s := z2.set_ 1 (.slice (some ⟨g, 0, none⟩) (zs.length + 1) cap)
            have hlen : zs.length + 1 = (zs ++ [t]).length := by simp
            have hoo : OwnInts w4 (w2.heap.size + 1) w4.heap.size (.slice (some ⟨g, 0, none⟩) (zs.length + 1) cap) (zs ++ [t]) := by
              refine ⟨?_, fun b hb' => (hown.lt b hb').2⟩
              rw [← hlen]
              simpa using hown
            have hos := hoo.set (p := ⟨w2.heap.size, 1, none⟩) (.inl (by show w2.heap.size < w2.heap.size + 1; omega)) (.slice (some ⟨g, 0, none⟩) (zs.length + 1) cap)
            have z0s := z0.far (p := ⟨w2.heap.size, 1, none⟩) (by show w.heap.size ≠ w2.heap.size; omega) (.slice (some ⟨g, 0, none⟩) (zs.length + 1) cap)
            have z1s := z1.far (p := ⟨w2.heap.size, 1, none⟩) (by show w.heap.size + 1 ≠ w2.heap.size; omega) (.slice (some ⟨g, 0, none⟩) (zs.length + 1) cap)
            have HQ := Lib.hid (And.intro hos (And.intro z2s (And.intro (hb4.setCell (p := ⟨w2.heap.size, 1, none⟩) (by show w.heap.size ≤ w2.heap.size; omega) (.slice (some ⟨g, 0, none⟩) (zs.length + 1) cap)) (And.intro z0s z1s))))
            have HSE := Lib.hid (show ys.take (k + 1) = zs ++ [t] by rw [HS.out, HZ.out])
            clear hown hg hgr ho hbe' y0 y1 y2 z0 z1 hb4 z2s hlen hoo hos z0s z1s
            go_wp2_with (fail)
            go_roundw
            case rel =>
              obtain ⟨a1, a2, a3, a4, a5⟩ := HQ.out
              refine ⟨k + 1, some ⟨g, 0, none⟩, cap, by omega, by go_num, by rw [HSE.out]; exact HCS.out, ?_, ?_, a3, a4, a5⟩
              · rw [HSE.out]
                simpa using a1
              · rw [HSE.out]
                simpa using a2
            case measure => simp [intOf]; omega
        · have hkn : k = a.2.length := by omega
          have hall : ys.take k = ys := by rw [hkn, ← HYL.out, List.take_length]
          rw [hall] at hs ho y2
          have HN := Lib.hid (show ok = true ∧ F = (a.1, ys) by
            have hyes : headOk a bs = true := headOk_yes HB.out HT.out (by rw [← HY.out]; exact hs)
            exact ⟨by rw [HK.out, hyes], by rw [HF.out, headOf_yes hyes, HY.out]⟩)
          have c20 : wr.cell? ⟨w2.heap.size, 0, none⟩ = some (.int .i64 a.1) := y2.cell 0
          have c21 : wr.cell? ⟨w2.heap.size, 1, none⟩ = some (.slice A' ys.length c') := y2.cell 1
          have c10 : wr.cell? ⟨w.heap.size + 1, 0, none⟩ = some (.int .i64 0) := y1.cell 0
          have c11 : wr.cell? ⟨w.heap.size + 1, 1, none⟩ = some (.slice none 0 0) := y1.cell 1
          have f10 := y1.frozen 0
          have f11 := y1.frozen 1
          have HP := Lib.hid (And.intro ho hbe)
          clear hs hall hkn ho y0 y1 y2
          go_wp2_with (fail)
          refine bodyPost_ret (v := .tuple #[.agg #[.int .i64 a.1, .slice A' ys.length c'], .bool true]) (by simp [results, Try.results24, go_sem, c10, c11]) rfl ?_
          rw [HN.out.1, HN.out.2]
          refine ⟨A', c', rfl, ?_, (HP.out.2.setCell (by simp) _).setCell (by simp) _⟩
          exact ((HP.out.1.set (p := ⟨w.heap.size + 1, 0, none⟩) (.inl (by show w.heap.size + 1 < w2.heap.size + 1; omega)) _).set (p := ⟨w.heap.size + 1, 1, none⟩) (.inl (by show w.heap.size + 1 < w2.heap.size + 1; omega)) _).mono (by omega) (by simp)
    · have ht' : a.2.all termOk = false := by simpa using ht
      have L2 := Lib.hid (fun W (hW : Below w.heap.size w W) => l2Terms_is ht' (.slice A a.2.length c) w.heap.size W (H.out.below hW (Nat.le_refl _)) hr)
      have HN := Lib.hid (show ok = false ∧ F = (0, []) from ⟨by rw [HK.out, headOk_terms ht'], by rw [HF.out, headOf_no (headOk_terms ht')]⟩)
      clear hb ht ht'
      go_enter Try.func24, Try.ntmps24
      go_wp2_with (fail)
      have x0 := X0 25 #[.int .i64 a.1, .slice A a.2.length c] 35 #[.int .i64 0, .slice none 0 0]
      have x1 := X1 (Obj.cells #[.int .i64 a.1, .slice A a.2.length c] 25) 35 #[.int .i64 0, .slice none 0 0]
      obtain ⟨w2, hw2⟩ : ∃ w2, w2 = ((w.alloc (Obj.cells #[Value.int IntKind.i64 a.1, Value.slice A a.2.length c] 25)).alloc (Obj.cells #[Value.int IntKind.i64 0, Value.slice none 0 0] 35)) := ⟨_, rfl⟩
      have B2 : Below w.heap.size w w2 := by rw [hw2]; exact below2 _ _ _
      rw [← hw2] at x0 x1 ⊢
      clear hw2 X0 X1
      have q00 : w2.cell? ⟨w.heap.size, 0, none⟩ = some (.int .i64 a.1) := x0.cell 0
      have q01 : w2.cell? ⟨w.heap.size, 1, none⟩ = some (.slice A a.2.length c) := x0.cell 1
      have c10 : w2.cell? ⟨w.heap.size + 1, 0, none⟩ = some (.int .i64 0) := x1.cell 0
      have c11 : w2.cell? ⟨w.heap.size + 1, 1, none⟩ = some (.slice none 0 0) := x1.cell 1
      have f10 := x1.frozen 0
      have f11 := x1.frozen 1
      refine (L1.out _ B2).mono ?_
      rintro e w' ⟨rfl, rfl⟩
      go_wp2_with (go_at_call 34; refine (L2.out _ B2).mono ?_; rintro e w' ⟨rfl, rfl⟩)
      refine bodyPost_ret (v := .tuple #[.agg #[.int .i64 0, .slice none 0 0], .bool false]) (by simp [results, Try.results24, go_sem, c10, c11]) rfl ?_
      rw [HN.out.1, HN.out.2]
      exact ⟨none, 0, rfl, zeroI _ _ _, (B2.setCell (by simp) _).setCell (by simp) _⟩
  · have hb' : bindOk bs = false := by simpa using hb
    have L1 := Lib.hid (fun W (hW : Below w.heap.size w W) => l3Bind_is hb' (.slice A2 bs.length c2) w.heap.size W (H2.out.below hW (Nat.le_refl _)) hr2)
    have HN := Lib.hid (show ok = false ∧ F = (0, []) from ⟨by rw [HK.out, headOk_bind hb'], by rw [HF.out, headOf_no (headOk_bind hb')]⟩)
    clear hb hb'
    go_enter Try.func24, Try.ntmps24
    go_wp2_with (fail)
    have x1 := X1 (Obj.cells #[.int .i64 a.1, .slice A a.2.length c] 25) 35 #[.int .i64 0, .slice none 0 0]
    obtain ⟨w2, hw2⟩ : ∃ w2, w2 = ((w.alloc (Obj.cells #[Value.int IntKind.i64 a.1, Value.slice A a.2.length c] 25)).alloc (Obj.cells #[Value.int IntKind.i64 0, Value.slice none 0 0] 35)) := ⟨_, rfl⟩
    have B2 : Below w.heap.size w w2 := by rw [hw2]; exact below2 _ _ _
    rw [← hw2] at x1 ⊢
    clear hw2 X0 X1
    have c10 : w2.cell? ⟨w.heap.size + 1, 0, none⟩ = some (.int .i64 0) := x1.cell 0
    have c11 : w2.cell? ⟨w.heap.size + 1, 1, none⟩ = some (.slice none 0 0) := x1.cell 1
    have f10 := x1.frozen 0
    have f11 := x1.frozen 1
    refine (L1.out _ B2).mono ?_
    rintro e w' ⟨rfl, rfl⟩
    go_wp2_with (fail)
    refine bodyPost_ret (v := .tuple #[.agg #[.int .i64 0, .slice none 0 0], .bool false]) (by simp [results, Try.results24, go_sem, c10, c11]) rfl ?_
    rw [HN.out.1, HN.out.2]
    exact ⟨none, 0, rfl, zeroI _ _ _, (B2.setCell (by simp) _).setCell (by simp) _⟩

end Go.Proofs.Ytlehcghdhfeahaa
/-
  The program's HeadOf.
-/
namespace Go.Proofs.Ytlehcghdhfeahaa
open Go.RowKit

theorem areConstants_is {xs : List Int} {b : Bool} (e : xs.all constOk = b) (v : Value) (B : Nat) (w : World) (h : RdInts w B v xs) (hr : xs.length ≤ 1048576) :
    Calls Try.prog 44 #[v] w fun e w' => e = .returned (.bool b) ∧ w = w' := e ▸ areConstants_any v xs B w h hr

set_option maxHeartbeats 2000000 in
set_option maxRecDepth 100000 in
theorem implHeadOf_any (v v2 : Value) (a : LFact) (bs : List Int) (w : World) (h : RdFact w w.heap.size v a) (h2 : RdInts w w.heap.size v2 bs) (hr : a.2.length ≤ 1048576) (hr2 : bs.length ≤ 1048576) :
    Calls Try.prog 19 #[v, v2] w fun e w' => ∃ A' c', e = .returned (.tuple #[.agg #[.int .i64 (headOf a bs).1, .slice A' (headOf a bs).2.length c'], .bool (headOk a bs)]) ∧ OwnInts w' w.heap.size w'.heap.size (.slice A' (headOf a bs).2.length c') (headOf a bs).2 ∧ Below w.heap.size w w' := by
  obtain ⟨u, rfl, h⟩ := h
  have H := Lib.hid h
  have H2 := Lib.hid h2
  obtain ⟨A, c, rfl, hc, _⟩ := h
  obtain ⟨A2, c2, rfl, hc2, _⟩ := h2
  obtain ⟨F, hF⟩ : ∃ F, F = headOf a bs := ⟨_, rfl⟩
  obtain ⟨ok, hok⟩ : ∃ ok, ok = headOk a bs := ⟨_, rfl⟩
  rw [← hF, ← hok]
  have HF := Lib.hid hF
  have HK := Lib.hid hok
  clear hF hok
  have x0 := (Blk.new w 25 #[.int .i64 a.1, .slice A a.2.length c]).alloc (Obj.cells #[.int .i64 0, .slice none 0 0] 35)
  have x1 : Blk ((w.alloc (Obj.cells #[.int .i64 a.1, .slice A a.2.length c] 25)).alloc (Obj.cells #[.int .i64 0, .slice none 0 0] 35)) (w.heap.size + 1) 35 #[.int .i64 0, .slice none 0 0] := by simpa using Blk.new (w.alloc (Obj.cells #[.int .i64 a.1, .slice A a.2.length c] 25)) 35 #[.int .i64 0, .slice none 0 0]
  obtain ⟨w2, hw2⟩ : ∃ w2, w2 = ((w.alloc (Obj.cells #[Value.int IntKind.i64 a.1, Value.slice A a.2.length c] 25)).alloc (Obj.cells #[Value.int IntKind.i64 0, Value.slice none 0 0] 35)) := ⟨_, rfl⟩
  have B2 : Below w.heap.size w w2 := by rw [hw2]; exact below2 _ _ _
  have HW := Lib.hid hw2
  rw [← hw2] at x0 x1
  have q00 : w2.cell? ⟨w.heap.size, 0, none⟩ = some (.int .i64 a.1) := x0.cell 0
  have q01 : w2.cell? ⟨w.heap.size, 1, none⟩ = some (.slice A a.2.length c) := x0.cell 1
  have c10 : w2.cell? ⟨w.heap.size + 1, 0, none⟩ = some (.int .i64 0) := x1.cell 0
  have c11 : w2.cell? ⟨w.heap.size + 1, 1, none⟩ = some (.slice none 0 0) := x1.cell 1
  have f10 := x1.frozen 0
  have f11 := x1.frozen 1
  clear hw2
  by_cases hb : bindOk bs = true
  · have L1 := Lib.hid (bindingOf_yes hb (.slice A2 bs.length c2) w2.heap.size w2 (H2.out.on B2))
    by_cases ht : a.2.all termOk = true
    · have L2 := Lib.hid (areTerms_is ht (.slice A a.2.length c) w2.heap.size w2 (H.out.on B2) hr)
      have L3 := Lib.hid (values_any (.slice A a.2.length c) bs a.2 hb ht w2 (H.out.on B2) hr)
      obtain ⟨ys, hys⟩ : ∃ ys, ys = a.2.map (termVal bs) := ⟨_, rfl⟩
      have HYL := Lib.hid (show ys.length = a.2.length by rw [hys]; simp)
      rw [← hys] at L3
      have HY := Lib.hid (And.intro hys (And.intro hb ht))
      clear hys hb ht
      generalize encB bs = m at L1 L3
      go_enter Try.func19, Try.ntmps19
      go_wp2_with (fail)
      rw [← HW.out]
      refine L1.out.mono ?_
      rintro e w' ⟨rfl, rfl⟩
      go_wp2_with (fail)
      refine L2.out.mono ?_
      rintro e w' ⟨rfl, rfl⟩
      go_wp2_with (fail)
      refine L3.out.mono ?_
      rintro e w3 ⟨A', c', rfl, ho, hb3⟩
      rw [← HYL.out] at ho ⊢
      have ho' := ho
      have x0' := x0.below hb3 x0.lt
      have x1' := x1.below hb3 x1.lt
      have l1 := x1.lt
      have B3 := bthen B2 hb3
      clear q00 q01 c10 c11 f10 f11 x0 x1
      have q00 : w3.cell? ⟨w.heap.size, 0, none⟩ = some (.int .i64 a.1) := x0'.cell 0
      have q01 : w3.cell? ⟨w.heap.size, 1, none⟩ = some (.slice A a.2.length c) := x0'.cell 1
      have c10 : w3.cell? ⟨w.heap.size + 1, 0, none⟩ = some (.int .i64 0) := x1'.cell 0
      have c11 : w3.cell? ⟨w.heap.size + 1, 1, none⟩ = some (.slice none 0 0) := x1'.cell 1
      have f10 := x1'.frozen 0
      have f11 := x1'.frozen 1
      have HO := Lib.hid ho
      have hyr : ys.length ≤ 1048576 := by rw [HYL.out]; exact hr
      clear ho ho' x0' x1'
      by_cases hcst : ys.all constOk = true
      · have HN := Lib.hid (show ok = true ∧ F = (a.1, ys) by
          obtain ⟨e1, e2, e3⟩ := HY.out
          have hyes : headOk a bs = true := headOk_yes e2 e3 (by rw [← e1]; exact hcst)
          exact ⟨by rw [HK.out, hyes], by rw [HF.out, headOf_yes hyes, e1]⟩)
        have L4 := Lib.hid (areConstants_is hcst (.slice A' ys.length c') w3.heap.size w3 HO.out.rd hyr)
        clear hcst
        go_wp2_with (go_at_call 44; refine L4.out.mono ?_; rintro e w' ⟨rfl, rfl⟩)
        refine bodyPost_ret (v := .tuple #[.agg #[.int .i64 a.1, .slice A' ys.length c'], .bool true]) (by simp [results, Try.results19, go_sem, c10, c11]) rfl ?_
        rw [HN.out.1, HN.out.2]
        refine ⟨A', c', rfl, ?_, (B3.setCell (by simp) _).setCell (by simp) _⟩
        exact ((HO.out.set (p := ⟨w.heap.size + 1, 0, none⟩) (.inl (by show w.heap.size + 1 < w2.heap.size; omega)) _).set (p := ⟨w.heap.size + 1, 1, none⟩) (.inl (by show w.heap.size + 1 < w2.heap.size; omega)) _).mono (by omega) (by simp)
      · have hcst' : ys.all constOk = false := by simpa using hcst
        have HN := Lib.hid (show ok = false ∧ F = (0, []) by
          obtain ⟨e1, e2, e3⟩ := HY.out
          have hno : headOk a bs = false := headOk_vals (by rw [← e1]; exact hcst')
          exact ⟨by rw [HK.out, hno], by rw [HF.out, headOf_no hno]⟩)
        have L4 := Lib.hid (areConstants_is hcst' (.slice A' ys.length c') w3.heap.size w3 HO.out.rd hyr)
        clear hcst hcst'
        go_wp2_with (go_at_call 44; refine L4.out.mono ?_; rintro e w' ⟨rfl, rfl⟩)
        refine bodyPost_ret (v := .tuple #[.agg #[.int .i64 0, .slice none 0 0], .bool false]) (by simp [results, Try.results19, go_sem, c10, c11]) rfl ?_
        rw [HN.out.1, HN.out.2]
        exact ⟨none, 0, rfl, zeroI _ _ _, (B3.setCell (by simp) _).setCell (by simp) _⟩
    · have ht' : a.2.all termOk = false := by simpa using ht
      have L2 := Lib.hid (areTerms_is ht' (.slice A a.2.length c) w2.heap.size w2 (H.out.on B2) hr)
      have HN := Lib.hid (show ok = false ∧ F = (0, []) from ⟨by rw [HK.out, headOk_terms ht'], by rw [HF.out, headOf_no (headOk_terms ht')]⟩)
      clear hb ht ht'
      generalize encB bs = m at L1
      go_enter Try.func19, Try.ntmps19
      go_wp2_with (fail)
      rw [← HW.out]
      refine L1.out.mono ?_
      rintro e w' ⟨rfl, rfl⟩
      go_wp2_with (fail)
      refine L2.out.mono ?_
      rintro e w' ⟨rfl, rfl⟩
      go_wp2_with (fail)
      refine bodyPost_ret (v := .tuple #[.agg #[.int .i64 0, .slice none 0 0], .bool false]) (by simp [results, Try.results19, go_sem, c10, c11]) rfl ?_
      rw [HN.out.1, HN.out.2]
      exact ⟨none, 0, rfl, zeroI _ _ _, (B2.setCell (by simp) _).setCell (by simp) _⟩
  · have hb' : bindOk bs = false := by simpa using hb
    have L1 := Lib.hid (bindingOf_no hb' (.slice A2 bs.length c2) w2.heap.size w2 (H2.out.on B2) hr2)
    have HN := Lib.hid (show ok = false ∧ F = (0, []) from ⟨by rw [HK.out, headOk_bind hb'], by rw [HF.out, headOf_no (headOk_bind hb')]⟩)
    clear hb hb'
    go_enter Try.func19, Try.ntmps19
    go_wp2_with (fail)
    rw [← HW.out]
    refine L1.out.mono ?_
    rintro e w' ⟨rfl, rfl⟩
    go_wp2_with (fail)
    refine bodyPost_ret (v := .tuple #[.agg #[.int .i64 0, .slice none 0 0], .bool false]) (by simp [results, Try.results19, go_sem, c10, c11]) rfl ?_
    rw [HN.out.1, HN.out.2]
    exact ⟨none, 0, rfl, zeroI _ _ _, (B2.setCell (by simp) _).setCell (by simp) _⟩

end Go.Proofs.Ytlehcghdhfeahaa
/-
  Matching an atom with a fact, plain mathematics.
-/
namespace Go.Proofs.Ytlehcghdhfeahaa
open Go.RowKit

/-- One term against one constant. -/
def stepM (bs : List Int) (t c : Int) : Option (List Int) :=
  if termVal bs t = c then some bs else if termVal bs t = -1 then some (bs.set (-1 - t).toNat c) else none
def matchTo (bs xs ys : List Int) : Nat → Option (List Int)
  | 0 => some bs
  | k + 1 => (matchTo bs xs ys k).bind fun b => stepM b (xs.getD k 0) (ys.getD k 0)
def matchL (a f : LFact) (bs : List Int) : Option (List Int) :=
  if a.1 = f.1 ∧ a.2.length = f.2.length then matchTo bs a.2 f.2 a.2.length else none

theorem stepM_ok {bs b : List Int} (h : bindOk bs = true) {t c : Int} (hc : -1 ≤ c ∧ c ≤ 5) (e : stepM bs t c = some b) : bindOk b = true := by
  unfold stepM at e
  split at e
  · injection e with e
    rwa [← e]
  · split at e
    · injection e with e
      rw [← e]
      exact bindOk_set h hc _
    · cases e
theorem matchTo_step {bs xs ys b : List Int} {k : Nat} (h : matchTo bs xs ys k = some b) (h1 : k < xs.length) (h2 : k < ys.length) : matchTo bs xs ys (k + 1) = stepM b xs[k] ys[k] := by
  show (matchTo bs xs ys k).bind _ = _
  rw [h]
  simp [h1, h2]
theorem matchTo_none {bs xs ys : List Int} {k : Nat} (h : matchTo bs xs ys k = none) : ∀ n, k ≤ n → matchTo bs xs ys n = none
  | 0, hn => by
    have : k = 0 := by omega
    subst this
    exact h
  | n + 1, hn => by
    by_cases e : k = n + 1
    · rw [← e]; exact h
    · show (matchTo bs xs ys n).bind _ = none
      rw [matchTo_none h n (by omega)]
      rfl
theorem matchL_eq {a f : LFact} {bs : List Int} (h1 : a.1 = f.1) (h2 : a.2.length = f.2.length) : matchL a f bs = matchTo bs a.2 f.2 a.2.length := if_pos ⟨h1, h2⟩
theorem matchL_pred {a f : LFact} {bs : List Int} (h : a.1 ≠ f.1) : matchL a f bs = none := if_neg fun e => h e.1
theorem matchL_len {a f : LFact} {bs : List Int} (h : a.2.length ≠ f.2.length) : matchL a f bs = none := if_neg fun e => h e.2
theorem matchL_stop {a f : LFact} {bs : List Int} {k : Nat} (h1 : a.1 = f.1) (h2 : a.2.length = f.2.length) (hk : k < a.2.length) (e : matchTo bs a.2 f.2 (k + 1) = none) : matchL a f bs = none := by
  rw [matchL_eq h1 h2]
  exact matchTo_none e _ hk
theorem stepM_same {bs : List Int} {t c : Int} (h : termVal bs t = c) : stepM bs t c = some bs := if_pos h
theorem stepM_new {bs : List Int} {t c : Int} (h : termVal bs t = -1) (hc : c ≠ -1) : stepM bs t c = some (bs.set (-1 - t).toNat c) := by
  unfold stepM
  rw [if_neg (by omega), if_pos h]
theorem stepM_no {bs : List Int} {t c : Int} (h : termVal bs t ≠ c) (h2 : termVal bs t ≠ -1) : stepM bs t c = none := by
  unfold stepM
  rw [if_neg h, if_neg h2]
theorem termVal_free {bs : List Int} {t : Int} (ht : termOk t = true) (h : termVal bs t = -1) : -4 ≤ t ∧ t ≤ -1 ∧ bs.getD (-1 - t).toNat (-1) = -1 := by
  have htb := termOk_at ht
  have h0 : t < 0 := by
    rcases Int.lt_or_le t 0 with h1 | h1
    · exact h1
    · rw [termVal_const h1] at h
      omega
  rw [termVal_var h0] at h
  exact ⟨htb.1, by omega, h⟩

end Go.Proofs.Ytlehcghdhfeahaa
/-
  The specification's l3Copy, l3Match.
-/
namespace Go.Proofs.Ytlehcghdhfeahaa
open Go.RowKit

/-- A row of one's own that is not empty: its block, its cells. -/
theorem OwnInts.at_ {w : World} {lo hi c n : Nat} {A : Option Addr} {xs : List Int} (h : OwnInts w lo hi (.slice A n c) xs) (hn : 0 < xs.length) :
    ∃ g, A = some ⟨g, 0, none⟩ ∧ lo ≤ g ∧ g < hi ∧ g < w.heap.size ∧ (∀ k (hk : k < xs.length), w.cell? ⟨g, k, none⟩ = some (.int .i64 xs[k])) ∧ ∀ k, w.frozen? ⟨g, k, none⟩ = false := by
  obtain ⟨g, cap, e, _, _⟩ := h.1.form hn
  injection e with e1 e2 e3
  subst e1
  subst e2
  obtain ⟨l1, l2, l3⟩ := h.lt (g := g) rfl
  obtain ⟨A', c', e, _, hx⟩ := h.rd
  injection e with e1 _ _
  obtain ⟨b, o, e2, _, hx⟩ := hx hn
  rw [← e1] at e2
  injection e2 with e2
  injection e2 with e2 e3 _
  subst e2
  subst e3
  exact ⟨g, rfl, l1, l2, l3, fun k hk => by simpa using hx k hk, fun k => World.ownsRow.frozenAt h.1 k⟩

theorem OwnInts.atG {w : World} {lo hi c n g : Nat} {xs : List Int} (h : OwnInts w lo hi (.slice (some ⟨g, 0, none⟩) n c) xs) (hn : 0 < xs.length) :
    lo ≤ g ∧ g < hi ∧ g < w.heap.size ∧ (∀ k (hk : k < xs.length), w.cell? ⟨g, k, none⟩ = some (.int .i64 xs[k])) ∧ ∀ k, w.frozen? ⟨g, k, none⟩ = false := by
  obtain ⟨g', e, h'⟩ := h.at_ hn
  injection e with e
  injection e with e _ _
  subst e
  exact h'

set_option maxHeartbeats 1000000 in
set_option maxRecDepth 100000 in
theorem l3Copy_any (v : Value) (xs : List Int) (w : World) (h : RdInts w w.heap.size v xs) (hr : xs.length ≤ 1048576) :
    Calls Try.prog 64 #[v] w fun e w' => ∃ A' c', e = .returned (.slice A' xs.length c') ∧ OwnInts w' w.heap.size w'.heap.size (.slice A' xs.length c') xs ∧ Below w.heap.size w w' := by
  obtain ⟨i0, hi0, hz0, hz1, hz2⟩ := info_parts Try.infoInt
  have H := Lib.hid h
  obtain ⟨A, c, rfl, hc, _⟩ := h
  have C0 := Lib.hid (ColI.empty (Below.refl w.heap.size w))
  go_enter Try.func64, Try.ntmps64
  go_wp2_with (fail)
  go_loopw [3, 4] (fun o i wr => ∃ (k : Nat) (A' : Option Addr) (c' : Nat), k ≤ xs.length ∧ i = .int .i64 k ∧ o = .slice A' (xs.take k).length c' ∧ ColI w wr (xs.take k) A' c') (fun _ i _ => xs.length - (intOf i).toNat)
  case atStart => exact ⟨0, _, 0, Nat.zero_le _, rfl, rfl, C0.out⟩
  case round =>
    obtain ⟨k, A', c', hk, rfl, rfl, hr'⟩ := hrel
    have hln : (xs.take k).length ≤ k := by simp; omega
    by_cases hlt : k < xs.length
    · have hre := H.out.below hr'.below (Nat.le_refl _)
      obtain ⟨A3, c3, e3, _, hx⟩ := hre
      injection e3 with e3 _ e4
      subst e3 e4
      obtain ⟨b, o, rfl, hbB, hx⟩ := hx (by omega)
      have hck : wr.cell? ⟨b, o + k, none⟩ = some (.int .i64 xs[k]) := hx k hlt
      have HS := Lib.hid (take_snoc xs k hlt)
      have HP := Lib.hid hr'
      clear hx hr'
      obtain ⟨x, hx⟩ : ∃ x, x = xs[k] := ⟨_, rfl⟩
      rw [← hx] at hck HS
      clear hx
      obtain ⟨zs, hzs⟩ : ∃ zs, zs = xs.take k := ⟨_, rfl⟩
      have HZ := Lib.hid hzs
      rw [← hzs] at HP hln ⊢
      clear hzs
      go_wp2_with (at_builtin; refine wpList_append_lies _ rfl (.tmp 12) (.tmp 17) 23 rfl w.heap.size 3 i0 (.int .i64 0) 1 8 Try.underlying23 hi0 hz0 hz1 hz2 rfl (by decide) (.slice A' zs.length c') zs.length (zs.map (Value.int .i64)) rfl ?c1 ⟨_, 0, none⟩ 1 1 [.int .i64 x] rfl rfl (news1s _ _ _ _ (by simp)) ?c2 (by omega) (by unfold maxLen; omega) (by omega) ?c3 _ rfl ?_)
      case c1 => exact HP.out.own.1.alloc _
      case c2 => first | rfl | (intro u hu; simp at hu; subst hu; rfl)
      case c3 => have := HP.out.below.size; simp; omega
      intro g cap w4 hown hg _ _
      have hcol := HP.out.push (Below.refl _ _) hg hown
      rw [HZ.out, ← HS.out] at hcol
      have hlen : zs.length + 1 = (xs.take (k + 1)).length := by rw [HS.out, HZ.out]; simp
      rw [hlen]
      have HC := Lib.hid hcol
      clear hcol hlen hown hg
      go_wp2_with (fail)
      go_roundw
      case rel => exact ⟨k + 1, _, _, by omega, by go_num, rfl, HC.out⟩
      case measure => simp [intOf]; omega
    · have hkn : k = xs.length := by omega
      have HZ := Lib.hid (show xs.take k = xs by rw [hkn, List.take_length])
      have HO := Lib.hid hr'
      rw [HZ.out] at HO ⊢
      clear hkn hr'
      go_wp2_with (fail)
      go_ret
      exact ⟨_, _, rfl, HO.out.own, HO.out.below⟩

set_option maxHeartbeats 4000000 in
set_option maxRecDepth 100000 in
theorem l3Match_n (v v2 v3 : Value) (a f : LFact) (bs R : List Int) (ok : Bool) (hR : R = (matchL a f bs).getD []) (hok : ok = (matchL a f bs).isSome) (w : World) (hb : bindOk bs = true) (h : RdFact w w.heap.size v a) (h2 : RdFact w w.heap.size v2 f) (h3 : RdInts w w.heap.size v3 bs)
    (ht : a.2.all termOk = true) (hf : f.2.all constOk = true) (hr : a.2.length ≤ 1048576) (hr2 : f.2.length ≤ 1048576) :
    Calls Try.prog 49 #[v, v2, v3] w fun e w' => ∃ A' c', e = .returned (.tuple #[.slice A' R.length c', .bool ok]) ∧ OwnInts w' w.heap.size w'.heap.size (.slice A' R.length c') R ∧ Below w.heap.size w w' := by
  obtain ⟨pa, xs⟩ := a
  obtain ⟨pf, ys⟩ := f
  simp only at ht hf hr hr2
  have HO := Lib.hid (And.intro hR hok)
  clear hR hok
  have H3 := Lib.hid h3
  obtain ⟨A3, c3, rfl, hc3, _⟩ := h3
  obtain ⟨u, rfl, A, c, rfl, hc, hA⟩ := h
  obtain ⟨u, rfl, A2, c2, rfl, hc2, hA2⟩ := h2
  by_cases hp : pa = pf
  · have hpb : (pa != pf) = false := by simp [hp]
    by_cases hl : xs.length = ys.length
    · have hl1 : ((xs.length : Int) != (ys.length : Int)) = false := by simp [hl]
      have HL := Lib.hid hl
      have HP := Lib.hid hp
      have HB := Lib.hid hb
      have HB4 := Lib.hid (bindOk_len hb)
      clear hl hp hb
      have x0 := (Blk.new w 25 #[.int .i64 pa, .slice A xs.length c]).alloc (Obj.cells #[.int .i64 pf, .slice A2 ys.length c2] 35)
      have x1 : Blk ((w.alloc (Obj.cells #[.int .i64 pa, .slice A xs.length c] 25)).alloc (Obj.cells #[.int .i64 pf, .slice A2 ys.length c2] 35)) (w.heap.size + 1) 35 #[.int .i64 pf, .slice A2 ys.length c2] := by simpa using Blk.new (w.alloc (Obj.cells #[.int .i64 pa, .slice A xs.length c] 25)) 35 #[.int .i64 pf, .slice A2 ys.length c2]
      go_enter Try.func49, Try.ntmps49
      go_wp2_with (fail)
      obtain ⟨w2, hw2⟩ : ∃ w2, w2 = ((w.alloc (Obj.cells #[Value.int IntKind.i64 pa, Value.slice A xs.length c] 25)).alloc (Obj.cells #[Value.int IntKind.i64 pf, Value.slice A2 ys.length c2] 35)) := ⟨_, rfl⟩
      have B2 : Below w.heap.size w w2 := by rw [hw2]; exact below2 _ _ _
      rw [← hw2] at x0 x1 ⊢
      clear hw2
      have l1 := x1.lt
      refine (l3Copy_any _ bs _ (H3.out.on B2) (by have := HB4.out; omega)).mono ?_
      rintro e w3 ⟨A', c', rfl, ho, hb3⟩
      obtain ⟨g, rfl, hg1, hg2, hg3, _, _⟩ := ho.at_ (by have := HB4.out; omega)
      have R0 : OwnInts w3 w2.heap.size w3.heap.size (.slice (some ⟨g, 0, none⟩) bs.length c') bs ∧ Below w.heap.size w w3 ∧ Blk w3 w.heap.size 25 #[.int .i64 pa, .slice A xs.length c] ∧ Blk w3 (w.heap.size + 1) 35 #[.int .i64 pf, .slice A2 ys.length c2] := ⟨ho, bthen B2 hb3, x0.below hb3 x0.lt, x1.below hb3 x1.lt⟩
      rw [HB4.out] at R0 ⊢
      clear ho hb3 x0 x1 hg3 hg2
      go_wp2_with (fail)
      go_loopw [9, 10] (fun i _ wr => ∃ (k : Nat) (cur : List Int), k ≤ xs.length ∧ i = .int .i64 k ∧ bindOk cur = true ∧ matchTo bs xs ys k = some cur ∧ OwnInts wr w2.heap.size wr.heap.size (.slice (some ⟨g, 0, none⟩) 4 c') cur ∧ Below w.heap.size w wr ∧ Blk wr w.heap.size 25 #[.int .i64 pa, .slice A xs.length c] ∧ Blk wr (w.heap.size + 1) 35 #[.int .i64 pf, .slice A2 ys.length c2]) (fun i _ _ => xs.length - (intOf i).toNat)
      case atStart => exact ⟨0, bs, Nat.zero_le _, rfl, HB.out, rfl, R0.1, R0.2.1, R0.2.2.1, R0.2.2.2⟩
      case round =>
        obtain ⟨k, cur, hk, rfl, hcb, hmt, ho, hbe, y0, y1⟩ := hrel
        have q01 : wr.cell? ⟨w.heap.size, 1, none⟩ = some (.slice A xs.length c) := y0.cell 1
        have q11 : wr.cell? ⟨w.heap.size + 1, 1, none⟩ = some (.slice A2 ys.length c2) := y1.cell 1
        have hcl := bindOk_len hcb
        have HP2 := Lib.hid (And.intro ho (And.intro hbe (And.intro y0 y1)))
        by_cases hlt : k < xs.length
        · have hlt2 : k < ys.length := by have := HL.out; omega
          obtain ⟨b, o, rfl, hbB, hx⟩ := hA (by omega)
          obtain ⟨b2, o2, rfl, hbB2, hx2⟩ := hA2 (by omega)
          have hck : wr.cell? ⟨b, o + k, none⟩ = some (.int .i64 xs[k]) := (hbe.cell (p := ⟨b, o + k, none⟩) hbB).trans (hx k hlt)
          have hck2 : wr.cell? ⟨b2, o2 + k, none⟩ = some (.int .i64 ys[k]) := (hbe.cell (p := ⟨b2, o2 + k, none⟩) hbB2).trans (hx2 k hlt2)
          have htk : termOk xs[k] = true := List.all_eq_true.1 ht _ (List.getElem_mem hlt)
          have hfk : 0 ≤ ys[k] ∧ ys[k] ≤ 5 := by simpa [constOk] using List.all_eq_true.1 hf _ (List.getElem_mem hlt2)
          have hst := matchTo_step hmt hlt hlt2
          have htb := termOk_at htk
          obtain ⟨hg1', _, hg3, hcc, hcf⟩ := ho.atG (by omega)
          clear hx hx2 hA hA2
          obtain ⟨t, htv⟩ : ∃ t, t = xs[k] := ⟨_, rfl⟩
          obtain ⟨y, hyv⟩ : ∃ y, y = ys[k] := ⟨_, rfl⟩
          rw [← htv] at htk hck hst htb
          rw [← hyv] at hfk hck2 hst
          clear htv hyv
          by_cases e2 : termVal cur t = -1
          · -- the variable gets it
            obtain ⟨q1, q2, q3⟩ := termVal_free htk e2
            obtain ⟨j, hj4, rfl⟩ : ∃ j : Nat, j < 4 ∧ t = -1 - (j : Int) := ⟨(-1 - t).toNat, by omega, by omega⟩
            have hjt : (-1 - (-1 - (j : Int))).toNat = j := by omega
            have hje : -1 - (-1 - (j : Int)) = (j : Int) := by omega
            rw [hjt] at q3
            have hjl : j < cur.length := by omega
            have hjI : (j : Int) < 4 := by omega
            have hcj : wr.cell? ⟨g, j, none⟩ = some (.int .i64 (-1)) := by
              have hh := hcc j hjl
              rwa [show cur[j] = -1 by simpa [hjl] using q3] at hh
            have hfj := hcf j
            have hoo := OwnInts.store (A := some ⟨g, 0, none⟩) (c := c') (g := g) (xs := cur) (by rw [hcl]; exact ho) rfl hjl y
            obtain ⟨ws, hws⟩ : ∃ ws, ws = wr.setCell ⟨g, j, none⟩ (.int .i64 y) := ⟨_, rfl⟩
            have z0 := y0.far (p := ⟨g, j, none⟩) (by show w.heap.size ≠ g; omega) (.int .i64 y)
            have z1 := y1.far (p := ⟨g, j, none⟩) (by show w.heap.size + 1 ≠ g; omega) (.int .i64 y)
            have zb : Below w.heap.size w ws := by rw [hws]; exact hbe.setCell (by show w.heap.size ≤ g; omega) _
            have hsz : ws.heap.size = wr.heap.size := by rw [hws]; simp
            rw [← hws] at hoo z0 z1
            rw [hcl] at hoo
            have HCS := Lib.hid (show bindOk (cur.set j y) = true from bindOk_set hcb (by omega) _)
            have hsl : (cur.set j y).length = 4 := by rw [List.length_set]; exact hcl
            have HMS := Lib.hid (show matchTo bs xs ys (k + 1) = some (cur.set j y) by rw [hst, stepM_new e2 (by omega), hjt])
            have HTV := Lib.hid (show termVal (cur.set j y) (-1 - (j : Int)) = y by
              rw [termVal_var (by omega), hjt]
              simp [hjl])
            have hck2s : ws.cell? ⟨b2, o2 + k, none⟩ = some (.int .i64 y) := by
              rw [hws, World.cell?_setCell_other _ _ _ _ (by intro e; injection e with e1 _ _; omega)]
              exact hck2
            have q11s : ws.cell? ⟨w.heap.size + 1, 1, none⟩ = some (.slice (some ⟨b2, o2, none⟩) ys.length c2) := z1.cell 1
            have HT := Lib.hid (fun n => quiet_left (l3Term_any (.slice (some ⟨g, 0, none⟩) 4 c') (cur.set j y) (-1 - (j : Int)) ws.heap.size (ws.drewN n) (by
              have := (hoo.rd.more (B' := ws.heap.size) (by omega)).below (bdrewN (Below.refl ws.heap.size ws) n) (Nat.le_refl _)
              exact this) hsl htk))
            have HQ := Lib.hid (And.intro (show OwnInts ws w2.heap.size ws.heap.size (.slice (some ⟨g, 0, none⟩) 4 c') (cur.set j y) by rw [hsz]; exact hoo) (And.intro zb (And.intro z0 z1)))
            have HW := Lib.hid hws
            have HE2 := Lib.hid (And.intro e2 (And.intro q3 (And.intro hst hmt)))
            clear hoo z0 z1 zb hws hst hmt e2 q3 hcc hcf ho y0 y1
            rw [HTV.out] at HT
            go_wp2_with (fail)
            rw [← HW.out]
            go_quiet ((go_at_call 51; exact HT.out _))
            go_wp2_with (fail)
            go_roundw
            case rel =>
              obtain ⟨a1, a2, a3, a4⟩ := HQ.out
              exact ⟨k + 1, _, by omega, by go_num, HCS.out, HMS.out, a1.below (bdrewN (Below.refl _ _) _) (Nat.le_refl _), bdrewN a2 _, a3.drewN _, a4.drewN _⟩
            case measure => simp [intOf]; omega
          · have HT := Lib.hid (fun n => quiet_left (l3Term_any (.slice (some ⟨g, 0, none⟩) 4 c') cur t wr.heap.size (wr.drewN n) (by
              have h' : OwnInts wr w2.heap.size wr.heap.size (.slice (some ⟨g, 0, none⟩) cur.length c') cur := by rw [hcl]; exact ho
              have := h'.rd.below (bdrewN (Below.refl wr.heap.size wr) n) (Nat.le_refl _)
              rw [hcl] at this
              exact this) hcl htk))
            -- no store: a constant, or a variable that has one
            have hns : 0 ≤ t ∨ ∃ j : Nat, ∃ hj : j < cur.length, t = -1 - (j : Int) ∧ 0 ≤ cur[j] := by
              rcases Int.lt_or_le t 0 with h0 | h0
              · right
                have hj : (-1 - t).toNat < cur.length := by omega
                refine ⟨(-1 - t).toNat, hj, by omega, ?_⟩
                rw [termVal_var h0] at e2
                have e3 : cur[(-1 - t).toNat] ≠ -1 := by simpa [hj] using e2
                have := bindOk_at hcb hj
                omega
              · exact .inl h0
            have HV := Lib.hid (And.intro e2 (And.intro hst hmt))
            clear e2 hst hmt y0 y1
            by_cases e1 : termVal cur t = y
            · have hd1 : (y != y) = false := by simp
              have HMS := Lib.hid (show matchTo bs xs ys (k + 1) = some cur by rw [HV.out.2.1, stepM_same e1])
              rw [e1] at HT
              clear e1
              rcases hns with h0 | ⟨j, hj, rfl, hj0⟩
              · have hd0 : decide (t < 0) = false := by simp; omega
                clear ho hcc hcf
                go_wp2_with (fail)
                go_quiet ((go_at_call 51; exact HT.out _))
                go_wp2_with (fail)
                go_roundw
                case rel =>
                  obtain ⟨a1, a2, a3, a4⟩ := HP2.out
                  exact ⟨k + 1, _, by omega, by go_num, hcb, HMS.out, a1.below (bdrewN (Below.refl _ _) _) (Nat.le_refl _), bdrewN a2 _, a3.drewN _, a4.drewN _⟩
                case measure => simp [intOf]; omega
              · have hje : -1 - (-1 - (j : Int)) = (j : Int) := by omega
                have hjI : (j : Int) < 4 := by omega
                have hcj : wr.cell? ⟨g, j, none⟩ = some (.int .i64 cur[j]) := hcc j hj
                have hdj : decide (cur[j] < 0) = false := by simp; omega
                clear ho hcc hcf
                go_wp2_with (fail)
                go_quiet ((go_at_call 51; exact HT.out _))
                go_wp2_with (fail)
                go_roundw
                case rel =>
                  obtain ⟨a1, a2, a3, a4⟩ := HP2.out
                  exact ⟨k + 1, _, by omega, by go_num, hcb, HMS.out, a1.below (bdrewN (Below.refl _ _) _) (Nat.le_refl _), bdrewN a2 _, a3.drewN _, a4.drewN _⟩
                case measure => simp [intOf]; omega
            · have hd1 : (termVal cur t != y) = true := by simpa using e1
              have HN := Lib.hid (show matchL (pa, xs) (pf, ys) bs = none from matchL_stop HP.out HL.out hlt (by rw [HV.out.2.1, stepM_no e1 HV.out.1]))
              have HZ := Lib.hid (show R = [] ∧ ok = false from ⟨by rw [HO.out.1, HN.out]; rfl, by rw [HO.out.2, HN.out]; rfl⟩)
              clear e1
              rcases hns with h0 | ⟨j, hj, rfl, hj0⟩
              · have hd0 : decide (t < 0) = false := by simp; omega
                clear ho hcc hcf
                go_wp2_with (fail)
                go_quiet ((go_at_call 51; exact HT.out _))
                go_wp2_with (fail)
                go_ret2
                rw [HZ.out.1, HZ.out.2]
                exact ⟨none, 0, rfl, zeroI _ _ _, bdrewN hbe _⟩
              · have hje : -1 - (-1 - (j : Int)) = (j : Int) := by omega
                have hjI : (j : Int) < 4 := by omega
                have hcj : wr.cell? ⟨g, j, none⟩ = some (.int .i64 cur[j]) := hcc j hj
                have hdj : decide (cur[j] < 0) = false := by simp; omega
                clear ho hcc hcf
                go_wp2_with (fail)
                go_quiet ((go_at_call 51; exact HT.out _))
                go_wp2_with (fail)
                go_ret2
                rw [HZ.out.1, HZ.out.2]
                exact ⟨none, 0, rfl, zeroI _ _ _, bdrewN hbe _⟩
        · have hkn : k = xs.length := by omega
          have HN := Lib.hid (show matchL (pa, xs) (pf, ys) bs = some cur by rw [matchL_eq HP.out HL.out, ← hmt, hkn])
          have HZ := Lib.hid (show R = cur ∧ ok = true from ⟨by rw [HO.out.1, HN.out]; rfl, by rw [HO.out.2, HN.out]; rfl⟩)
          have HCL := Lib.hid hcl
          clear hkn hmt hA hA2 ho y0 y1 hcl
          go_wp2_with (fail)
          go_ret2
          rw [HZ.out.1, HZ.out.2, HCL.out]
          exact ⟨_, _, rfl, HP2.out.1.mono (by omega) (Nat.le_refl _), hbe⟩
    · have hl1 : ((xs.length : Int) != (ys.length : Int)) = true := by simp; omega
      have HN := Lib.hid (show matchL (pa, xs) (pf, ys) bs = none from matchL_len hl)
      have HZ := Lib.hid (show R = [] ∧ ok = false from ⟨by rw [HO.out.1, HN.out]; rfl, by rw [HO.out.2, HN.out]; rfl⟩)
      clear hA hA2 hl
      go_enter Try.func49, Try.ntmps49
      go_wp2_with (fail)
      go_ret2
      rw [HZ.out.1, HZ.out.2]
      exact ⟨none, 0, rfl, zeroI _ _ _, below2 _ _ _⟩
  · have hpb : (pa != pf) = true := by simp [hp]
    have HN := Lib.hid (show matchL (pa, xs) (pf, ys) bs = none from matchL_pred hp)
    have HZ := Lib.hid (show R = [] ∧ ok = false from ⟨by rw [HO.out.1, HN.out]; rfl, by rw [HO.out.2, HN.out]; rfl⟩)
    clear hA hA2 hp
    go_enter Try.func49, Try.ntmps49
    go_wp2_with (fail)
    go_ret2
    rw [HZ.out.1, HZ.out.2]
    exact ⟨none, 0, rfl, zeroI _ _ _, below2 _ _ _⟩

end Go.Proofs.Ytlehcghdhfeahaa
/-
  Both Holds.
-/
namespace Go.Proofs.Ytlehcghdhfeahaa
open Go.RowKit

/-- LitSame, LitLess: both have constants, and are the same, or the first is less. -/
def cmpB (k a b : Int) : Bool := (decide (0 ≤ a) && decide (0 ≤ b)) && (if k = 2 then decide (a = b) else decide (a < b))
def litHolds (fs : List LFact) (l : LLit) (bs : List Int) : Bool :=
  if l.1 = 2 ∨ l.1 = 3 then decide (l.2.2.length = 2) && cmpB l.1 (termVal bs (l.2.2.getD 0 0)) (termVal bs (l.2.2.getD 1 0))
  else (headOk l.2 bs && decide (0 ≤ l.1 ∧ l.1 ≤ 1)) && (factsHas fs (headOf l.2 bs) == decide (l.1 = 0))
def holdsB (fs : List LFact) (l : LLit) (bs : List Int) : Bool := (bindOk bs && l.2.2.all termOk) && litHolds fs l bs

theorem cmpB_neg {k a b : Int} (h : a < 0) : cmpB k a b = false := by unfold cmpB; rw [decide_eq_false (show ¬ 0 ≤ a by omega)]; rfl
theorem cmpB_neg2 {k a b : Int} (h : b < 0) : cmpB k a b = false := by unfold cmpB; rw [decide_eq_false (show ¬ 0 ≤ b by omega), Bool.and_false]; rfl
theorem cmpB_same {a b : Int} (h : 0 ≤ a) (h2 : 0 ≤ b) : cmpB 2 a b = decide (a = b) := by unfold cmpB; rw [decide_eq_true h, decide_eq_true h2]; simp
theorem cmpB_less {a b : Int} (h : 0 ≤ a) (h2 : 0 ≤ b) : cmpB 3 a b = decide (a < b) := by unfold cmpB; rw [decide_eq_true h, decide_eq_true h2]; simp

theorem comparison_any (k a b : Int) (hk : k = 2 ∨ k = 3) (w : World) :
    Calls Try.prog 56 #[.int .i64 k, .int .i64 a, .int .i64 b] w fun e w' => e = .returned (.bool (cmpB k a b)) ∧ w = w' := by
  by_cases h1 : a < 0
  · have HE := Lib.hid (cmpB_neg (k := k) (b := b) h1)
    go_enter Try.func56, Try.ntmps56
    go_wp2_with (fail)
    go_ret
    exact ⟨ret_bool HE.out.symm, rfl⟩
  · have hd1 : decide (a < 0) = false := by simpa using h1
    by_cases h2 : b < 0
    · have HE := Lib.hid (cmpB_neg2 (k := k) (a := a) h2)
      go_enter Try.func56, Try.ntmps56
      go_wp2_with (fail)
      go_ret
      exact ⟨ret_bool HE.out.symm, rfl⟩
    · have hd2 : decide (b < 0) = false := by simpa using h2
      rcases hk with rfl | rfl
      · by_cases h3 : a = b
        · have HE := Lib.hid (show cmpB 2 a b = true by rw [cmpB_same (by omega) (by omega)]; exact decide_eq_true h3)
          have hd3 : (a == b) = true := by simpa using h3
          clear h3
          go_enter Try.func56, Try.ntmps56
          go_wp2_with (fail)
          go_ret
          exact ⟨ret_bool HE.out.symm, rfl⟩
        · have HE := Lib.hid (show cmpB 2 a b = false by rw [cmpB_same (by omega) (by omega)]; exact decide_eq_false h3)
          have hd3 : (a == b) = false := by simpa using h3
          clear h3
          go_enter Try.func56, Try.ntmps56
          go_wp2_with (fail)
          go_ret
          exact ⟨ret_bool HE.out.symm, rfl⟩
      · by_cases h3 : a < b
        · have HE := Lib.hid (show cmpB 3 a b = true by rw [cmpB_less (by omega) (by omega)]; exact decide_eq_true h3)
          go_enter Try.func56, Try.ntmps56
          go_wp2_with (fail)
          go_ret
          exact ⟨ret_bool HE.out.symm, rfl⟩
        · have HE := Lib.hid (show cmpB 3 a b = false by rw [cmpB_less (by omega) (by omega)]; exact decide_eq_false h3)
          have hd3 : decide (a < b) = false := by simpa using h3
          go_enter Try.func56, Try.ntmps56
          go_wp2_with (fail)
          go_ret
          exact ⟨ret_bool HE.out.symm, rfl⟩

/-- Two values, and what a comparison of them answers. -/
theorem cmpB_cases (k a b : Int) (hk : k = 2 ∨ k = 3) : (a < 0 ∧ cmpB k a b = false) ∨ (0 ≤ a ∧ b < 0 ∧ cmpB k a b = false) ∨ (0 ≤ a ∧ 0 ≤ b ∧ cmpB k a b = (if k = 2 then a == b else decide (a < b))) := by
  rcases Int.lt_or_le a 0 with h | h
  · exact .inl ⟨h, cmpB_neg h⟩
  · rcases Int.lt_or_le b 0 with h2 | h2
    · exact .inr (.inl ⟨h, h2, cmpB_neg2 h2⟩)
    · refine .inr (.inr ⟨h, h2, ?_⟩)
      rcases hk with rfl | rfl
      · rw [cmpB_same h h2]
        rfl
      · rw [cmpB_less h h2]
        rfl

set_option maxHeartbeats 2000000 in
set_option maxRecDepth 100000 in
theorem l3HoldsCmp_any (v v3 : Value) (l : LLit) (bs : List Int) (v0 : Value) (w : World) (hkd : l.1 = 2 ∨ l.1 = 3) (h2 : RdLit w w.heap.size v l) (h3 : RdInts w w.heap.size v3 bs) (hb : bs.length = 4) (ht : l.2.2.all termOk = true) :
    Calls Try.prog 57 #[v0, v, v3] w fun e w' => e = .returned (.bool (decide (l.2.2.length = 2) && cmpB l.1 (termVal bs (l.2.2.getD 0 0)) (termVal bs (l.2.2.getD 1 0)))) ∧ Below w.heap.size w w' := by
  obtain ⟨kd, p, xs⟩ := l
  obtain ⟨u, rfl, A, c, rfl, hc, hx⟩ := h2
  simp only at hkd hx hc ht
  have H3 := Lib.hid h3
  obtain ⟨A3, c3, rfl, hc3, _⟩ := h3
  have HB := Lib.hid hb
  clear hb
  have y0 := Blk.new w 27 #[.int .i64 kd, .int .i64 p, .slice A xs.length c]
  by_cases hl : xs.length = 2
  · obtain ⟨s, t, rfl⟩ : ∃ s t, xs = [s, t] := by
      match xs, hl with
      | [s, t], _ => exact ⟨s, t, rfl⟩
    obtain ⟨b, o, rfl, hbB, hx⟩ := hx (by simp)
    have hs := List.all_eq_true.1 ht s (by simp)
    have htt := List.all_eq_true.1 ht t (by simp)
    have c0 : ∀ O, (w.alloc O).cell? ⟨b, o, none⟩ = some (.int .i64 s) := fun O => (World.cell?_alloc_lt w O ⟨b, o, none⟩ hbB).trans (hx 0 (by simp))
    have c1 : ∀ O, (w.alloc O).cell? ⟨b, o + 1, none⟩ = some (.int .i64 t) := fun O => (World.cell?_alloc_lt w O ⟨b, o + 1, none⟩ hbB).trans (hx 1 (by simp))
    have T1 := Lib.hid (fun O => l3Term_any (.slice A3 bs.length c3) bs s _ (w.alloc O) (H3.out.on (below1 w O)) HB.out hs)
    have T2 := Lib.hid (fun O => l3Term_any (.slice A3 bs.length c3) bs t _ (w.alloc O) (H3.out.on (below1 w O)) HB.out htt)
    obtain ⟨R, hR⟩ : ∃ R, R = cmpB kd (termVal bs s) (termVal bs t) := ⟨_, rfl⟩
    have HR := Lib.hid hR
    have HX := Lib.hid (cmpB_cases kd (termVal bs s) (termVal bs t) hkd)
    rw [← hR] at HX
    obtain ⟨av, hav⟩ : ∃ av, av = termVal bs s := ⟨_, rfl⟩
    obtain ⟨bv, hbv⟩ : ∃ bv, bv = termVal bs t := ⟨_, rfl⟩
    rw [← hav] at T1 HX
    rw [← hbv] at T2 HX
    have HG := Lib.hid (show (decide ([s, t].length = 2) && cmpB kd (termVal bs ([s, t].getD 0 0)) (termVal bs ([s, t].getD 1 0))) = R by rw [hR]; rfl)
    show Calls _ _ _ _ fun e w' => e = .returned (.bool (decide ([s, t].length = 2) && cmpB kd (termVal bs ([s, t].getD 0 0)) (termVal bs ([s, t].getD 1 0)))) ∧ _
    rw [HG.out]
    clear hR hav hbv hs htt ht hx hl HR
    have q0 := y0.cell 0
    have q1 := y0.cell 1
    have q2 := y0.cell 2
    simp only [List.length_cons, List.length_nil] at q2
    rcases hkd with rfl | rfl
    · rcases HX.out with ⟨h1, e⟩ | ⟨h1, h2, e⟩ | ⟨h1, h2, e⟩
      · have hd1 : decide (0 ≤ av) = false := by simp; omega
        have HE := Lib.hid e
        clear e
        go_enter Try.func57, Try.ntmps57
        go_wp2_with (fail)
        refine (T1.out _).mono ?_
        rintro e w' ⟨rfl, rfl⟩
        go_wp2_with (fail)
        refine (T2.out _).mono ?_
        rintro e w' ⟨rfl, rfl⟩
        go_wp2_with (fail)
        go_ret
        exact ⟨ret_bool HE.out.symm, below1 _ _⟩
      · have hd2 : decide (0 ≤ bv) = false := by simp; omega
        have HE := Lib.hid e
        clear e
        go_enter Try.func57, Try.ntmps57
        go_wp2_with (fail)
        refine (T1.out _).mono ?_
        rintro e w' ⟨rfl, rfl⟩
        go_wp2_with (fail)
        refine (T2.out _).mono ?_
        rintro e w' ⟨rfl, rfl⟩
        go_wp2_with (fail)
        go_ret
        exact ⟨ret_bool HE.out.symm, below1 _ _⟩
      · have e' : R = (av == bv) := e
        clear e
        by_cases h3 : av = bv
        · have hd3 : (av == bv) = true := by simpa using h3
          have HE := Lib.hid (show R = true by rw [e', hd3])
          clear e' h3
          go_enter Try.func57, Try.ntmps57
          go_wp2_with (fail)
          refine (T1.out _).mono ?_
          rintro e w' ⟨rfl, rfl⟩
          go_wp2_with (fail)
          refine (T2.out _).mono ?_
          rintro e w' ⟨rfl, rfl⟩
          go_wp2_with (fail)
          go_ret
          exact ⟨ret_bool HE.out.symm, below1 _ _⟩
        · have hd3 : (av == bv) = false := by simpa using h3
          have HE := Lib.hid (show R = false by rw [e', hd3])
          clear e' h3
          go_enter Try.func57, Try.ntmps57
          go_wp2_with (fail)
          refine (T1.out _).mono ?_
          rintro e w' ⟨rfl, rfl⟩
          go_wp2_with (fail)
          refine (T2.out _).mono ?_
          rintro e w' ⟨rfl, rfl⟩
          go_wp2_with (fail)
          go_ret
          exact ⟨ret_bool HE.out.symm, below1 _ _⟩
    · rcases HX.out with ⟨h1, e⟩ | ⟨h1, h2, e⟩ | ⟨h1, h2, e⟩
      · have hd1 : decide (0 ≤ av) = false := by simp; omega
        have HE := Lib.hid e
        clear e
        go_enter Try.func57, Try.ntmps57
        go_wp2_with (fail)
        refine (T1.out _).mono ?_
        rintro e w' ⟨rfl, rfl⟩
        go_wp2_with (fail)
        refine (T2.out _).mono ?_
        rintro e w' ⟨rfl, rfl⟩
        go_wp2_with (fail)
        go_ret
        exact ⟨ret_bool HE.out.symm, below1 _ _⟩
      · have hd2 : decide (0 ≤ bv) = false := by simp; omega
        have HE := Lib.hid e
        clear e
        go_enter Try.func57, Try.ntmps57
        go_wp2_with (fail)
        refine (T1.out _).mono ?_
        rintro e w' ⟨rfl, rfl⟩
        go_wp2_with (fail)
        refine (T2.out _).mono ?_
        rintro e w' ⟨rfl, rfl⟩
        go_wp2_with (fail)
        go_ret
        exact ⟨ret_bool HE.out.symm, below1 _ _⟩
      · have e' : R = decide (av < bv) := e
        clear e
        by_cases h3 : av < bv
        · have HE := Lib.hid (show R = true by rw [e']; exact decide_eq_true h3)
          clear e'
          go_enter Try.func57, Try.ntmps57
          go_wp2_with (fail)
          refine (T1.out _).mono ?_
          rintro e w' ⟨rfl, rfl⟩
          go_wp2_with (fail)
          refine (T2.out _).mono ?_
          rintro e w' ⟨rfl, rfl⟩
          go_wp2_with (fail)
          go_ret
          exact ⟨ret_bool HE.out.symm, below1 _ _⟩
        · have hd3 : decide (av < bv) = false := by simpa using h3
          have HE := Lib.hid (show R = false by rw [e', hd3])
          clear e'
          go_enter Try.func57, Try.ntmps57
          go_wp2_with (fail)
          refine (T1.out _).mono ?_
          rintro e w' ⟨rfl, rfl⟩
          go_wp2_with (fail)
          refine (T2.out _).mono ?_
          rintro e w' ⟨rfl, rfl⟩
          go_wp2_with (fail)
          go_ret
          exact ⟨ret_bool HE.out.symm, below1 _ _⟩
  · have hl1 : ((xs.length : Int) != 2) = true := by simp; omega
    have HG := Lib.hid (show (decide (xs.length = 2) && cmpB kd (termVal bs (xs.getD 0 0)) (termVal bs (xs.getD 1 0))) = false by rw [decide_eq_false hl]; rfl)
    show Calls _ _ _ _ fun e w' => e = .returned (.bool (decide (xs.length = 2) && cmpB kd (termVal bs (xs.getD 0 0)) (termVal bs (xs.getD 1 0)))) ∧ _
    rw [HG.out]
    clear hx hl
    have q0 := y0.cell 0
    have q2 := y0.cell 2
    rcases hkd with rfl | rfl
    all_goals
      go_enter Try.func57, Try.ntmps57
      go_wp2_with (fail)
      go_ret
      exact ⟨rfl, below1 _ _⟩

end Go.Proofs.Ytlehcghdhfeahaa
