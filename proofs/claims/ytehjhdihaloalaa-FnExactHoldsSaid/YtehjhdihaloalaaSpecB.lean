/-
  The specification's l3Bind, l3Term, Bound, l3Copy.
-/
import Derived.Test.YtehjhdihaloalaaBinds
import Derived.Test.YtehjhdihaloalaaTerms
import Derived.Test.YtehjhdihaloalaaColW
namespace Go.Proofs.Ytehjhdihaloalaa
open Go.RowKit

set_option maxHeartbeats 400000 in
theorem l3Bind_any (v : Value) (bs : List Int) (B : Nat) (w : World) (h : RdInts w B v bs) (hr : bs.length ≤ 1048576) :
    Calls Try.prog 74 #[v] w fun e w' => e = .returned (.bool (bindOk bs)) ∧ w = w' := by
  obtain ⟨A, c, rfl, hc, ha⟩ := h
  go_enter Try.func74, Try.ntmps74
  go_wp2_with (fail)
  go_loop [3] (fun i => ∃ k : Nat, k ≤ bs.length ∧ i = .int .i64 k ∧ AllTo hasB bs k) (fun i => bs.length - (intOf i).toNat)
  case atStart => exact ⟨0, Nat.zero_le _, rfl, AllTo.start⟩
  case round =>
    obtain ⟨k, hk, rfl, hs⟩ := hrel
    by_cases hlt : k < bs.length
    · obtain ⟨b, o, rfl, hbB, hx⟩ := ha (by omega)
      have hck : w.cell? ⟨b, o + k, none⟩ = some (.int .i64 bs[k]) := hx k hlt
      clear hx ha
      by_cases he : -1 ≤ bs[k] ∧ bs[k] ≤ 5
      · have HS := Lib.hid (hs.step hlt (by simpa [hasB] using he))
        have HK := Lib.hid (l1In_yes he)
        clear hs he
        go_wp2_with (go_at_call 63; refine (HK.out _).mono ?_; rintro e w' ⟨rfl, rfl⟩)
        go_round
        case rel => exact ⟨k + 1, by omega, by go_num, HS.out⟩
        case measure => simp [intOf]; omega
      · have HE := Lib.hid (show bindOk bs = false by simp [bindOk, all_not hlt (show hasB bs[k] = false by simpa [hasB] using he)])
        have HK := Lib.hid (l1In_no he)
        clear hs he
        go_wp2_with (go_at_call 63; refine (HK.out _).mono ?_; rintro e w' ⟨rfl, rfl⟩)
        go_ret
        exact ⟨ret_bool HE.out.symm, rfl⟩
    · have HE := Lib.hid (hs.done (by omega))
      clear hs ha
      by_cases hl : bs.length = 4
      · have hl1 : ((bs.length : Int) == 4) = true := by simp; omega
        have HB := Lib.hid (bindOk_iff hl HE.out)
        clear hl
        go_wp2_with (fail)
        go_ret
        exact ⟨ret_bool HB.out.symm, rfl⟩
      · have hl1 : ((bs.length : Int) == 4) = false := by simp; omega
        have HB := Lib.hid (show bindOk bs = false by simp [bindOk, hl])
        clear hl
        go_wp2_with (fail)
        go_ret
        exact ⟨ret_bool HB.out.symm, rfl⟩

theorem l3Bind_is {bs : List Int} {ok : Bool} (hok : bindOk bs = ok) (v : Value) (B : Nat) (w : World) (h : RdInts w B v bs) (hr : bs.length ≤ 1048576) :
    Calls Try.prog 74 #[v] w fun e w' => e = .returned (.bool ok) ∧ w = w' := hok ▸ l3Bind_any v bs B w h hr

set_option maxHeartbeats 400000 in
theorem l3Term_any (v : Value) (bs : List Int) (t : Int) (B : Nat) (w : World) (h : RdInts w B v bs) (hb : bs.length = 4) (ht : termOk t = true) :
    Calls Try.prog 76 #[.int .i64 t, v] w fun e w' => e = .returned (.int .i64 (termVal bs t)) ∧ w = w' := by
  obtain ⟨A, c, rfl, hc, ha⟩ := h
  have htb := termOk_at ht
  by_cases h0 : 0 ≤ t
  · have hd : decide (0 ≤ t) = true := by simpa using h0
    have HE := Lib.hid (termVal_const (bs := bs) h0).symm
    go_enter Try.func76, Try.ntmps76
    go_wp2_with (fail)
    go_ret
    exact ⟨ret_int HE.out, rfl⟩
  · have hd : decide (0 ≤ t) = false := by simpa using h0
    obtain ⟨j, hj4, rfl⟩ : ∃ j : Nat, j < bs.length ∧ t = -1 - (j : Int) := ⟨(-1 - t).toNat, by omega, by omega⟩
    obtain ⟨b, o, rfl, hbB, hx⟩ := ha (by omega)
    have hck : w.cell? ⟨b, o + j, none⟩ = some (.int .i64 bs[j]) := hx j hj4
    have hjI : (j : Int) < (bs.length : Int) := by omega
    have HE := Lib.hid (show bs[j] = termVal bs (-1 - (j : Int)) by
      rw [termVal_var (by omega), show (-1 - (-1 - (j : Int))).toNat = j by omega]
      simp [hj4])
    have hee : -1 - (-1 - (j : Int)) = (j : Int) := by omega
    clear hx ha hb
    go_enter Try.func76, Try.ntmps76
    go_wp2_with (fail)
    go_ret
    exact ⟨ret_int HE.out, rfl⟩

set_option maxHeartbeats 1000000 in
set_option maxRecDepth 100000 in
theorem specBound_any (v v2 : Value) (xs bs : List Int) (w : World) (h : RdInts w w.heap.size v xs) (h2 : RdInts w w.heap.size v2 bs) (hr : xs.length ≤ 1048576) (hr2 : bs.length ≤ 1048576) :
    Calls Try.prog 34 #[v, v2] w fun e w' => ∃ A' c', e = .returned (.slice A' (boundL xs bs).length c') ∧ OwnInts w' w.heap.size w'.heap.size (.slice A' (boundL xs bs).length c') (boundL xs bs) ∧ Below w.heap.size w w' := by
  obtain ⟨i0, hi0, hz0, hz1, hz2⟩ := info_parts Try.infoInt
  have H := Lib.hid h
  have H2 := Lib.hid h2
  obtain ⟨A, c, rfl, hc, _⟩ := h
  obtain ⟨A2, c2, rfl, hc2, _⟩ := h2
  have hbad : (bindOk bs && xs.all termOk) = false → boundL xs bs = [] := fun e => by unfold boundL; rw [e]; rfl
  have HBad := Lib.hid hbad
  clear hbad
  have C0 := Lib.hid (ColI.empty (Below.refl w.heap.size w))
  by_cases hb : bindOk bs = true
  · by_cases ht : xs.all termOk = true
    · obtain ⟨ys, hys⟩ : ∃ ys, ys = xs.map (termVal bs) := ⟨_, rfl⟩
      have HY := Lib.hid (show boundL xs bs = ys by unfold boundL; rw [hb, ht, hys]; rfl)
      have HYL := Lib.hid (show ys.length = xs.length by rw [hys]; simp)
      have HYK := Lib.hid (show ∀ k (hk : k < xs.length), ys.take (k + 1) = ys.take k ++ [termVal bs xs[k]] from fun k hk => by
        rw [take_snoc ys k (by rw [hys]; simpa using hk)]
        simp [hys])
      have HB4 := Lib.hid (bindOk_len hb)
      have HTK := Lib.hid (show ∀ k (hk : k < xs.length), termOk xs[k] = true from fun k hk => List.all_eq_true.1 ht _ (List.getElem_mem hk))
      have L1 := Lib.hid (fun W (hW : Below w.heap.size w W) => l3Bind_is hb (.slice A2 bs.length c2) w.heap.size W (H2.out.below hW (Nat.le_refl _)) hr2)
      have L2 := Lib.hid (fun W (hW : Below w.heap.size w W) => ht ▸ l2Terms_any (.slice A xs.length c) xs w.heap.size W (H.out.below hW (Nat.le_refl _)) hr)
      clear hys hb ht
      go_enter Try.func34, Try.ntmps34
      go_wp2_with (first | (go_at_call 74; refine (L1.out _ (below1 _ _)).mono ?_; rintro e w' ⟨rfl, rfl⟩) | (go_at_call 75; refine (L2.out _ (below1 _ _)).mono ?_; rintro e w' ⟨rfl, rfl⟩))
      go_loopw [5, 6] (fun o i wr => ∃ (k : Nat) (A' : Option Addr) (c' : Nat), k ≤ xs.length ∧ i = .int .i64 k ∧ o = .slice A' (ys.take k).length c' ∧ ColI w wr (ys.take k) A' c') (fun _ i _ => xs.length - (intOf i).toNat)
      case atStart => exact ⟨0, _, 0, Nat.zero_le _, rfl, rfl, C0.out⟩
      case round =>
        obtain ⟨k, A', c', hk, rfl, rfl, hr'⟩ := hrel
        have hln : (ys.take k).length ≤ k := by simp; omega
        by_cases hlt : k < xs.length
        · have hre := H.out.below hr'.below (Nat.le_refl _)
          obtain ⟨A3, c3, e3, _, hx⟩ := hre
          injection e3 with e3 _ e4
          subst e3 e4
          obtain ⟨b, o, rfl, hbB, hx⟩ := hx (by omega)
          have hck : wr.cell? ⟨b, o + k, none⟩ = some (.int .i64 xs[k]) := hx k hlt
          have T1 := Lib.hid (l3Term_any (.slice A2 bs.length c2) bs xs[k] w.heap.size wr (H2.out.below hr'.below (Nat.le_refl _)) HB4.out (HTK.out k hlt))
          have HS := Lib.hid (HYK.out k hlt)
          have HP := Lib.hid hr'
          clear hx hr'
          obtain ⟨zs, hzs⟩ : ∃ zs, zs = ys.take k := ⟨_, rfl⟩
          have HZ := Lib.hid hzs
          rw [← hzs] at HP hln ⊢
          clear hzs
          go_wp2_with (first | (go_at_call 76; refine T1.out.mono ?_; rintro e w' ⟨rfl, rfl⟩) | (at_builtin; refine wpList_append_lies _ rfl (.tmp 23) (.tmp 30) 22 rfl w.heap.size 3 i0 (.int .i64 0) 1 8 Try.underlying22 hi0 hz0 hz1 hz2 rfl (by decide) (.slice A' zs.length c') zs.length (zs.map (Value.int .i64)) rfl ?c1 ⟨_, 0, none⟩ 1 1 [.int .i64 (termVal bs xs[k])] rfl rfl (news1s _ _ _ _ (by simp)) ?c2 (by omega) (by unfold maxLen; omega) (by omega) ?c3 _ rfl ?_))
          case c1 => exact HP.out.own.1.alloc _
          case c2 => intro u hu; simp at hu; subst hu; rfl
          case c3 => have := HP.out.below.size; simp; omega
          intro g cap w4 hown hg _ _
          have hcol := HP.out.push (Below.refl _ _) hg hown
          rw [HZ.out, ← HS.out] at hcol
          have hlen : zs.length + 1 = (ys.take (k + 1)).length := by rw [HS.out, HZ.out]; simp
          rw [hlen]
          have HC := Lib.hid hcol
          clear hcol hlen hown hg
          go_wp2_with (fail)
          go_roundw
          case rel => exact ⟨k + 1, _, _, by omega, by go_num, rfl, HC.out⟩
          case measure => simp [intOf]; omega
        · have hkn : k = xs.length := by omega
          have HZ := Lib.hid (show ys.take k = boundL xs bs by rw [HY.out, hkn, ← HYL.out, List.take_length])
          have HO := Lib.hid hr'
          rw [HZ.out] at HO ⊢
          clear hkn hr'
          go_wp2_with (fail)
          go_ret
          exact ⟨_, _, rfl, HO.out.own, HO.out.below⟩
    · have ht' : xs.all termOk = false := by simpa using ht
      have HE := Lib.hid (HBad.out (by rw [ht', Bool.and_false]))
      have L1 := Lib.hid (fun W (hW : Below w.heap.size w W) => l3Bind_is hb (.slice A2 bs.length c2) w.heap.size W (H2.out.below hW (Nat.le_refl _)) hr2)
      have L2 := Lib.hid (fun W (hW : Below w.heap.size w W) => ht' ▸ l2Terms_any (.slice A xs.length c) xs w.heap.size W (H.out.below hW (Nat.le_refl _)) hr)
      clear hb ht ht'
      go_enter Try.func34, Try.ntmps34
      go_wp2_with (first | (go_at_call 74; refine (L1.out _ (below1 _ _)).mono ?_; rintro e w' ⟨rfl, rfl⟩) | (go_at_call 75; refine (L2.out _ (below1 _ _)).mono ?_; rintro e w' ⟨rfl, rfl⟩))
      go_ret
      rw [HE.out]
      exact ⟨_, _, rfl, C0.out.own, C0.out.below⟩
  · have hb' : bindOk bs = false := by simpa using hb
    have HE := Lib.hid (HBad.out (by rw [hb', Bool.false_and]))
    have L1 := Lib.hid (fun W (hW : Below w.heap.size w W) => l3Bind_is hb' (.slice A2 bs.length c2) w.heap.size W (H2.out.below hW (Nat.le_refl _)) hr2)
    clear hb hb'
    go_enter Try.func34, Try.ntmps34
    go_wp2_with (first | (go_at_call 74; refine (L1.out _ (below1 _ _)).mono ?_; rintro e w' ⟨rfl, rfl⟩))
    go_ret
    rw [HE.out]
    exact ⟨_, _, rfl, C0.out.own, C0.out.below⟩

end Go.Proofs.Ytehjhdihaloalaa
