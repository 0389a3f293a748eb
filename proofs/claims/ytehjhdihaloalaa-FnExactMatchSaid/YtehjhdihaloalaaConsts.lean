/-
  l3Consts.
-/
import Derived.Test.YtehjhdihaloalaaFactOk
import Derived.Test.YtehjhdihaloalaaHas
namespace Go.Proofs.Ytehjhdihaloalaa
open Go.RowKit

def constsL (fs : List LFact) : Bool := fs.all fun f => f.2.all constOk
/-- 'the first k facts have constants alone'. -/
def ConstsFs (fs : List LFact) (k : Nat) : Prop := ∀ j (h : j < fs.length), j < k → fs[j].2.all constOk = true
theorem ConstsFs.all {fs : List LFact} (h : ConstsFs fs fs.length) : constsL fs = true := by
  unfold constsL
  rw [List.all_eq_true]
  intro f hf
  obtain ⟨j, hj, rfl⟩ := List.getElem_of_mem hf
  exact h j hj hj
theorem ConstsFs.step {fs : List LFact} {k : Nat} (h : ConstsFs fs k) (hk : k < fs.length) (e : fs[k].2.all constOk = true) : ConstsFs fs (k + 1) := fun j hj hlt => by
  by_cases h2 : j = k
  · subst h2; exact e
  · exact h j hj (by omega)
theorem constsL_not {fs : List LFact} {k j : Nat} (hk : k < fs.length) (hj : j < fs[k].2.length) (e : constOk fs[k].2[j] = false) : constsL fs = false := by
  unfold constsL
  rw [List.all_eq_false]
  exact ⟨fs[k], List.getElem_mem hk, by rw [consts_not hj e]; simp⟩

set_option maxHeartbeats 1000000 in
set_option maxRecDepth 100000 in
theorem l3Consts_any (v : Value) (fs : List LFact) (B : Nat) (w : World) (h : RdFacts w B v fs) (hn : fs.length ≤ 1048576) (ht : tot fs ≤ 1048576) :
    Calls Try.prog 80 #[v] w fun e w' => e = .returned (.bool (constsL fs)) ∧ w = w' := by
  have H := Lib.hid h
  obtain ⟨A, c, rfl, hc, _⟩ := h
  go_enter Try.func80, Try.ntmps80
  go_wp2_with (fail)
  go_loop [3, 4] (fun i _ => ∃ k : Nat, k ≤ fs.length ∧ i = .int .i64 k ∧ ConstsFs fs k) (fun i _ => fs.length - (intOf i).toNat)
  case atStart => exact ⟨0, Nat.zero_le _, rfl, fun j _ hj => absurd hj (by omega)⟩
  case round =>
    obtain ⟨k, hk, rfl, hs⟩ := hrel
    by_cases hlt : k < fs.length
    · obtain ⟨b, o, A3, c3, rfl, hbB, k1, k2, k3⟩ := H.out.get hlt
      have hln := len_le_tot fs k hlt
      obtain ⟨_, _, e3, _, hx⟩ := k3
      injection e3 with e3 _ e4
      subst e3 e4
      have HS := Lib.hid hs
      clear hs
      go_wp2_with (fail)
      go_loop [4] (fun i => ∃ j : Nat, j ≤ fs[k].2.length ∧ i = .int .i64 j ∧ ConstsTo fs[k].2 j) (fun i => fs[k].2.length - (intOf i).toNat)
      case atStart => exact ⟨0, Nat.zero_le _, rfl, fun j hj => absurd hj (by omega)⟩
      case round =>
        obtain ⟨j, hj, rfl, hs⟩ := hrel
        by_cases hltj : j < fs[k].2.length
        · obtain ⟨b4, o4, rfl, _, hx⟩ := hx (by omega)
          have hck : w.cell? ⟨b4, o4 + j, none⟩ = some (.int .i64 fs[k].2[j]) := hx j hltj
          clear hx
          by_cases he : 0 ≤ fs[k].2[j] ∧ fs[k].2[j] ≤ 5
          · have HT := Lib.hid (hs.step (by simpa [hltj, constOk] using he))
            have HK := Lib.hid (l1In_yes he)
            clear hs he
            go_wp2_with (go_at_call 63; refine (HK.out _).mono ?_; rintro e w' ⟨rfl, rfl⟩)
            go_round
            case rel => exact ⟨j + 1, by omega, by go_num, HT.out⟩
            case measure => simp [intOf]; omega
          · have HE := Lib.hid (constsL_not hlt hltj (by simpa [constOk] using he))
            have HK := Lib.hid (l1In_no he)
            clear hs he
            go_wp2_with (go_at_call 63; refine (HK.out _).mono ?_; rintro e w' ⟨rfl, rfl⟩)
            go_ret
            exact ⟨ret_bool HE.out.symm, rfl⟩
        · have hjn : j = fs[k].2.length := by omega
          have HE := Lib.hid (HS.out.step hlt (ConstsTo.all (by rw [← hjn]; exact hs)))
          clear hs hjn hx
          go_wp2_with (fail)
          go_round
          case rel => exact ⟨k + 1, by omega, by go_num, HE.out⟩
          case measure => simp [intOf]; omega
    · have hkn : k = fs.length := by omega
      have HE := Lib.hid (show constsL fs = true from ConstsFs.all (by rw [← hkn]; exact hs))
      clear hkn hs
      go_wp2_with (fail)
      go_ret
      exact ⟨ret_bool HE.out.symm, rfl⟩

theorem l3Consts_is {fs : List LFact} {b : Bool} (e : constsL fs = b) (v : Value) (B : Nat) (w : World) (h : RdFacts w B v fs) (hn : fs.length ≤ 1048576) (ht : tot fs ≤ 1048576) :
    Calls Try.prog 80 #[v] w fun e w' => e = .returned (.bool b) ∧ w = w' := e ▸ l3Consts_any v fs B w h hn ht

end Go.Proofs.Ytehjhdihaloalaa
