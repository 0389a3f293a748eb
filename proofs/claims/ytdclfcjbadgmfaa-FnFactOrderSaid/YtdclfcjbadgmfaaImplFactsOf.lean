/-
  The walk of the program's FactsOf.
-/
import Derived.Test.YtdclfcjbadgmfaaFactsOf
namespace Go.Proofs.Ytdclfcjbadgmfaa
open Go.RowKit

set_option maxHeartbeats 1000000 in
set_option maxRecDepth 100000 in
theorem implFactsOf_any (v : Value) (fs : List LFact) (p : Int) (w : World) (h : RdFacts w w.heap.size v fs) (hn : fs.length ≤ 1048576) (ht : tot fs ≤ 1048576) :
    Calls Try.prog 39 #[v, .int .i64 p] w fun e w' => ∃ A' c', e = .returned (.slice A' (factsOf fs p).length c') ∧ OwnFacts w' w.heap.size w'.heap.size (.slice A' (factsOf fs p).length c') (factsOf fs p) ∧ Below w.heap.size w w' := by
  obtain ⟨i0, hi0, hz0, hz1, hz2⟩ := info_parts Try.infoFact
  have H := Lib.hid h
  obtain ⟨A, c, rfl, hc, _⟩ := h
  go_enter Try.func39, Try.ntmps39
  go_wp2_with (fail)
  go_loopw [5, 7, 10] (fun o _ i wr => ∃ (k : Nat) (A' : Option Addr) (c' : Nat) (av : List Value), k ≤ fs.length ∧ i = .int .i64 k ∧ o = .slice A' (factsOf (fs.take k) p).length c' ∧ ColRel w wr (factsOf (fs.take k) p) A' c' av) (fun _ _ i _ => fs.length - (intOf i).toNat)
  case atStart => exact ⟨0, _, 0, [], Nat.zero_le _, rfl, by simp [factsOf], ColRel.nil w⟩
  case round =>
    obtain ⟨k, A', c', av, hk, rfl, rfl, hr⟩ := hrel
    by_cases hlt : k < fs.length
    · obtain ⟨b, o, A3, c3, rfl, hbB, k1, k2, k3⟩ := (H.out.on hr.below).get hlt
      have hln := len_le_tot fs k hlt
      have hgl := factsOf_length fs p k
      have K3 := Lib.hid (show RdFact wr wr.heap.size (.agg #[.int .i64 fs[k].1, .slice A3 fs[k].2.length c3]) fs[k] from ⟨_, rfl, k3⟩)
      clear k3
      have HP := Lib.hid (hr.on (below1 wr (Obj.cells #[Value.int IntKind.i64 fs[k].1, Value.slice A3 fs[k].2.length c3] 25)))
      clear hr
      by_cases he : fs[k].1 = p
      · have heb : (fs[k].1 == p) = true := by simp [he]
        have HS := Lib.hid (factsOf_yes hlt he)
        clear he
        go_wp2_with (fail)
        refine (copyFact_any _ fs[k] _ (K3.out.on (below1 _ _)) (by omega)).mono ?_
        rintro e w2 ⟨A4, c4, rfl, ho4, hb4⟩
        have hz5 := hb4.size
        go_wp2_with (at_builtin; refine wpList_append_lies _ rfl (.tmp 18) (.tmp 21) 31 rfl w.heap.size 25 i0 (.agg #[.int .i64 0, .slice none 0 0]) 2 32 Try.underlying31 hi0 hz0 hz1 hz2 rfl (by decide) (.slice A' (factsOf (fs.take k) p).length c') (factsOf (fs.take k) p).length (flat (factsOf (fs.take k) p) av) rfl ?c1 ⟨w2.heap.size, 0, none⟩ 1 1 [.int .i64 fs[k].1, .slice A4 fs[k].2.length c4] rfl rfl (news2 _ _ _ _) ?c2 (by omega) (by unfold maxLen; omega) (by omega) ?c3 _ rfl ?_)
        case c1 => exact (ownsRow_below HP.out.own.row HP.out.own.lt hb4 (Nat.le_refl _)).alloc _
        case c2 => intro u hu; simp at hu; rcases hu with rfl | rfl <;> rfl
        case c3 => have := HP.out.below.size; simp; omega
        intro g cap w4 hown hg _ _
        obtain ⟨av', hcol, hlen⟩ := HP.out.push HS.out hb4 ho4 hg hown
        rw [hlen]
        have HC := Lib.hid hcol
        clear hcol hlen hown hg
        go_wp2_with (fail)
        go_roundw
        case rel => exact ⟨k + 1, _, _, _, by omega, by go_num, rfl, HC.out⟩
        case measure => simp [intOf]; omega
      · have heb : (fs[k].1 == p) = false := by simp [he]
        have HS := Lib.hid (factsOf_no hlt he)
        clear he
        go_wp2_with (fail)
        go_roundw
        case rel => exact ⟨k + 1, _, _, _, by omega, by go_num, by rw [HS.out], by rw [HS.out]; exact HP.out⟩
        case measure => simp [intOf]; omega
    · have hkn : k = fs.length := by omega
      have HO := Lib.hid (show OwnFacts wr w.heap.size wr.heap.size (.slice A' (factsOf fs p).length c') (factsOf fs p) ∧ factsOf (fs.take k) p = factsOf fs p by
        have e : fs.take k = fs := by rw [hkn, List.take_length]
        have := hr.own.own
        rw [e] at this ⊢
        exact ⟨this, rfl⟩)
      have hbe := hr.below
      rw [HO.out.2]
      clear hkn hr
      go_wp2_with (fail)
      go_ret
      exact ⟨_, _, rfl, HO.out.1, hbe⟩

end Go.Proofs.Ytdclfcjbadgmfaa
