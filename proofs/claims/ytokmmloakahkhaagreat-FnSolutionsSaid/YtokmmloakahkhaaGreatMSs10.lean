/-
  Texts that the claim's last one imports, laid together: part 10 of 12. No condition of its own.
-/
import Derived.Test.YtokmmloakahkhaaGreatMSs1
import Derived.Test.YtokmmloakahkhaaGreatMSs2
import Derived.Test.YtokmmloakahkhaaGreatMSs3
import Derived.Test.YtokmmloakahkhaaGreatMSs5
import Derived.Test.YtokmmloakahkhaaGreatMSs7
import Derived.Test.YtokmmloakahkhaaGreatMSs9
/-
  nextAsked: the question that is asked next.
-/
namespace Go.Proofs.YtokmmloakahkhaaGreat
open Go.RowKit

theorem RdQs.more {w : World} {B B' : Nat} {us : List QV} {qs : List LQ} (h : RdQs w B us qs) (hB : B ≤ B') : RdQs w B' us qs := ⟨h.1, fun k h1 h2 => by
  obtain ⟨a, b, d, e⟩ := h.2 k h1 h2
  exact ⟨a, b, d.more hB, e.more hB⟩⟩
theorem RdQs.only {w w' : World} {B lo hi : Nat} {us : List QV} {qs : List LQ} (h : RdQs w B us qs) (ho : Only lo hi w w') (hB : B ≤ lo) (hs : B ≤ w.heap.size) : RdQs w' B us qs := h.below (ho.below hB hs) (Nat.le_refl _)
/-- The cells of question k. -/
theorem AtQ.quest {w : World} {g c B k : Nat} {us : List QV} {qs : List LQ} (h : AtQ w g c us) (hr : RdQs w B us qs) (hk : k < qs.length) : ∃ A2 c2 A3 c3,
    w.cell? ⟨g, k * 4, none⟩ = some (.int .i64 qs[k].1.1) ∧ w.cell? ⟨g, k * 4 + 1, none⟩ = some (.int .i64 qs[k].1.2.1) ∧ w.cell? ⟨g, k * 4 + 2, none⟩ = some (.slice A2 qs[k].1.2.2.length c2) ∧ w.cell? ⟨g, k * 4 + 3, none⟩ = some (.slice A3 qs[k].2.length c3) ∧
    RdQC w B (.int .i64 qs[k].1.1) (.int .i64 qs[k].1.2.1) (.slice A2 qs[k].1.2.2.length c2) (.slice A3 qs[k].2.length c3) qs[k] := by
  have hku : k < us.length := by rw [hr.1]; exact hk
  obtain ⟨e0, e1, e2, e3⟩ := h.cells hku
  obtain ⟨a0, a1, a2, a3⟩ := hr.2 k hku hk
  have b2 := a2
  have b3 := a3
  obtain ⟨A2, c2, f2, _⟩ := a2
  obtain ⟨A3, c3, f3, _⟩ := a3
  rw [f2] at e2 b2
  rw [f3] at e3 b3
  rw [a0] at e0
  rw [a1] at e1
  exact ⟨A2, c2, A3, c3, e0, e1, e2, e3, rfl, rfl, b2, b3⟩

/-- May be asked: it is to hold, or all its variables are known. -/
def FreeQ (K : Nat) (q : LQ) : Prop := q.1.1 = 0 ∨ ∀ v, v < 4 → (maskOf q.1.2.2).testBit v = true → K.testBit v = true
theorem safeTo_iff {a b : Nat} : safeTo a b 4 = true ↔ ∀ v, v < 4 → a.testBit v = true → b.testBit v = true := by
  unfold safeTo
  rw [List.all_eq_true]
  constructor
  · intro h v hv ha
    have := h v (List.mem_range.2 hv)
    rw [ha] at this
    simpa using this
  · intro h v hv
    have := h v (List.mem_range.1 hv)
    cases ha : a.testBit v
    · rfl
    · rw [this ha]; rfl

set_option maxHeartbeats 1000000 in
set_option maxRecDepth 100000 in
theorem isYes_any (B : Nat) (q : LQ) (u0 u1 u2 u3 : Value) (w : World) (hq : RdQC w B u0 u1 u2 u3 q) :
    Calls Tryz.prog 206 #[.agg #[u0, u1, u2, u3]] w fun e w' => e = .returned (.bool (q.1.1 == 0)) ∧ Below w.heap.size w w' := by
  obtain ⟨rfl, rfl, hu2, hu3⟩ := hq
  obtain ⟨A2, c2, rfl, hc2, _⟩ := hu2
  obtain ⟨A3, c3, rfl, hc3, _⟩ := hu3
  go_enter Tryz.func206, Tryz.ntmps206
  go_wp2_with fail
  go_ret
  exact ⟨rfl, below1 _ _⟩

set_option maxHeartbeats 2000000 in
set_option maxRecDepth 100000 in
theorem indexYes_any (g c B : Nat) (us : List QV) (qs : List LQ) (w : World) (h : AtQ w g c us) (hr : RdQs w B us qs) (hB : B ≤ w.heap.size) (hn : qs.length ≤ 1048576) (hex : ∃ i, ∃ h : i < qs.length, qs[i].1.1 = 0) :
    Calls Tryz.prog 205 #[.slice (some ⟨g, 0, none⟩) qs.length c, .func (.func 206) #[] #[]] w fun e w' =>
      ∃ i : Nat, e = .returned (.int .i64 i) ∧ (∃ h : i < qs.length, qs[i].1.1 = 0) ∧ Below w.heap.size w w' := by
  have H := Lib.hid h
  have HR := Lib.hid hr
  have HX := Lib.hid hex
  clear hex
  go_enter Tryz.func205, Tryz.ntmps205
  go_wp2_with fail
  go_loopw [8] (fun i wr => ∃ k : Nat, k ≤ qs.length ∧ i = .int .i64 k ∧ (∀ j (h : j < qs.length), j < k → qs[j].1.1 ≠ 0) ∧ Below w.heap.size w wr) (fun i _ => qs.length - (intOf i).toNat)
  case atStart => exact ⟨0, Nat.zero_le _, rfl, fun j _ h => absurd h (by omega), Below.refl _ _⟩
  case round =>
    obtain ⟨k, hk, rfl, hs, hbe⟩ := hrel
    by_cases hlt : k < qs.length
    · obtain ⟨A2, c2, A3, c3, q0, q1, q2, q3, hq⟩ := (H.out.below hbe H.out.lt).quest (HR.out.below hbe hB) hlt
      have CI := Lib.hid (isYes_any B qs[k] _ _ _ _ wr hq)
      have HS := Lib.hid hs
      have HBE := Lib.hid hbe
      clear hq hs hbe
      by_cases h0 : qs[k].1.1 = 0
      · have CI2 : Hid _ := CI
        have hd : (qs[k].1.1 == 0) = true := by simpa using h0
        rw [hd] at CI
        have H0 := Lib.hid h0
        clear h0 CI2
        go_wp2_with (go_at_call 206; refine CI.out.mono ?_; rintro e w2 ⟨rfl, hb2⟩; have HB2 := Lib.hid (bthen HBE.out hb2); clear hb2)
        go_ret
        exact ⟨k, rfl, ⟨hlt, H0.out⟩, HB2.out⟩
      · have hd : (qs[k].1.1 == 0) = false := by simpa using h0
        rw [hd] at CI
        have H0 := Lib.hid h0
        clear h0
        go_wp2_with (go_at_call 206; refine CI.out.mono ?_; rintro e w2 ⟨rfl, hb2⟩; have HB2 := Lib.hid (bthen HBE.out hb2); clear hb2)
        go_roundw
        case rel => exact ⟨k + 1, by omega, by go_num, fun j h hj => by
          by_cases e : j = k
          · subst e; exact H0.out
          · exact HS.out j h (by omega), HB2.out⟩
        case measure => simp [intOf]; omega
    · obtain ⟨i, hi, h0⟩ := HX.out
      exact absurd h0 (hs i hi (by omega))

set_option maxHeartbeats 2000000 in
set_option maxRecDepth 100000 in
theorem nextAsked_any (g c B K : Nat) (us : List QV) (qs : List LQ) (w : World) (h : AtQ w g c us) (hr : RdQs w B us qs) (hB : B ≤ w.heap.size) (hK : K < 16) (hn : qs.length ≤ 1048576) (ha : ∀ q ∈ qs, q.1.2.2.length ≤ 1048576)
    (hex : ∃ i, ∃ h : i < qs.length, FreeQ K qs[i]) :
    Calls Tryz.prog 170 #[.slice (some ⟨g, 0, none⟩) qs.length c, .int .u64 (K : Nat)] w fun e w' =>
      ∃ i : Nat, e = .returned (.int .i64 i) ∧ (∃ h : i < qs.length, FreeQ K qs[i]) ∧ Below w.heap.size w w' := by
  have H := Lib.hid h
  have HR := Lib.hid hr
  have HX := Lib.hid hex
  have HA := Lib.hid ha
  clear hex ha
  go_enter Tryz.func170, Tryz.ntmps170
  go_wp2_with fail
  go_loopw [9] (fun i wr => ∃ k : Nat, k ≤ qs.length ∧ i = .int .i64 k ∧ (∀ j (h : j < qs.length), j < k → safeTo (maskOf qs[j].1.2.2) K 4 = false) ∧ Below w.heap.size w wr) (fun i _ => qs.length - (intOf i).toNat)
  case atStart => exact ⟨0, Nat.zero_le _, rfl, fun j _ h => absurd h (by omega), Below.refl _ _⟩
  case round =>
    obtain ⟨k, hk, rfl, hs, hbe⟩ := hrel
    by_cases hlt : k < qs.length
    · obtain ⟨A2, c2, A3, c3, q0, q1, q2, q3, hq⟩ := (H.out.below hbe H.out.lt).quest (HR.out.below hbe hB) hlt
      have hln := HA.out _ (List.getElem_mem hlt)
      have hsz := hbe.size
      have CA := Lib.hid (fun W (hW : Below wr.heap.size wr W) => argVars_any (.slice A2 qs[k].1.2.2.length c2) qs[k].1.2.2 wr.heap.size W ((hq.2.2.1.more (by omega)).below hW (Nat.le_refl _)) hln)
      have hsb := safe_bits ⟨maskOf qs[k].1.2.2, maskOf_lt _⟩ ⟨K, hK⟩
      simp only at hsb
      have HS := Lib.hid hs
      have HBE := Lib.hid hbe
      clear hq hs hbe
      cases hsf : safeTo (maskOf qs[k].1.2.2) K 4
      · rw [hsf] at hsb
        have H0 := Lib.hid hsf
        clear hsf
        go_wp2_with (go_at_call 91; refine (CA.out _ (below1 _ _)).mono ?_; rintro e w2 ⟨rfl, rfl⟩)
        go_roundw
        case rel => exact ⟨k + 1, by omega, by go_num, fun j h hj => by
          by_cases e : j = k
          · subst e; exact H0.out
          · exact HS.out j h (by omega), bthen HBE.out (below1 _ _)⟩
        case measure => simp [intOf]; omega
      · rw [hsf] at hsb
        have H0 := Lib.hid (safeTo_iff.1 hsf)
        clear hsf
        go_wp2_with (go_at_call 91; refine (CA.out _ (below1 _ _)).mono ?_; rintro e w2 ⟨rfl, rfl⟩)
        go_ret
        exact ⟨k, rfl, ⟨hlt, .inr H0.out⟩, bthen HBE.out (below1 _ _)⟩
    · have hsz := hbe.size
      have CI := Lib.hid (indexYes_any g c B us qs wr (H.out.below hbe H.out.lt) (HR.out.below hbe hB) (by omega) hn (by
        obtain ⟨i, hi, h0⟩ := HX.out
        rcases h0 with h0 | h0
        · exact ⟨i, hi, h0⟩
        · have := hs i hi (by omega)
          rw [safeTo_iff.2 h0] at this
          cases this))
      have HBE := Lib.hid hbe
      clear hs hbe
      go_wp2_with (go_at_call 205; refine CI.out.mono ?_; rintro e w2 ⟨i, rfl, hi, hb2⟩; have HB2 := Lib.hid (And.intro hi hb2); clear hi hb2)
      go_ret
      exact ⟨i, rfl, ⟨HB2.out.1.1, .inl HB2.out.1.2⟩, bthen HBE.out HB2.out.2⟩

end Go.Proofs.YtokmmloakahkhaaGreat
/-
  l3Consts.
-/
namespace Go.Proofs.YtokmmloakahkhaaGreat
open Go.RowKit

def constsL (fs : List LFact) : Bool := fs.all fun f => f.2.all constOk
/-- 'the first k facts have constants alone'. -/
def ConstsFs (fs : List LFact) (k : Nat) : Prop := ∀ j (h : j < fs.length), j < k → fs[j].2.all constOk = true
theorem ConstsFs.all {fs : List LFact} (h : ConstsFs fs fs.length) : constsL fs = true := by
  unfold constsL
  rw [List.all_eq_true]
  intro f hf
  obtain ⟨j, hj, rfl⟩ := List.getElem_of_mem hf
  exact h j hj hj
theorem ConstsFs.step {fs : List LFact} {k : Nat} (h : ConstsFs fs k) (hk : k < fs.length) (e : fs[k].2.all constOk = true) : ConstsFs fs (k + 1) := fun j hj hlt => by
  by_cases h2 : j = k
  · subst h2; exact e
  · exact h j hj (by omega)
theorem constsL_not {fs : List LFact} {k j : Nat} (hk : k < fs.length) (hj : j < fs[k].2.length) (e : constOk fs[k].2[j] = false) : constsL fs = false := by
  unfold constsL
  rw [List.all_eq_false]
  exact ⟨fs[k], List.getElem_mem hk, by rw [consts_not hj e]; simp⟩

set_option maxHeartbeats 1000000 in
set_option maxRecDepth 100000 in
theorem l3Consts_any (v : Value) (fs : List LFact) (B : Nat) (w : World) (h : RdFacts w B v fs) (hn : fs.length ≤ 1048576) (ht : tot fs ≤ 1048576) :
    Calls Tryz.prog 44 #[v] w fun e w' => e = .returned (.bool (constsL fs)) ∧ w = w' := by
  have H := Lib.hid h
  obtain ⟨A, c, rfl, hc, _⟩ := h
  go_enter Tryz.func44, Tryz.ntmps44
  go_wp2_with (fail)
  go_loop [3, 4] (fun i _ => ∃ k : Nat, k ≤ fs.length ∧ i = .int .i64 k ∧ ConstsFs fs k) (fun i _ => fs.length - (intOf i).toNat)
  case atStart => exact ⟨0, Nat.zero_le _, rfl, fun j _ hj => absurd hj (by omega)⟩
  case round =>
    obtain ⟨k, hk, rfl, hs⟩ := hrel
    by_cases hlt : k < fs.length
    · obtain ⟨b, o, A3, c3, rfl, hbB, k1, k2, k3⟩ := H.out.get hlt
      have hln := len_le_tot fs k hlt
      obtain ⟨_, _, e3, _, hx⟩ := k3
      injection e3 with e3 _ e4
      subst e3 e4
      have HS := Lib.hid hs
      clear hs
      go_wp2_with (fail)
      go_loop [4] (fun i => ∃ j : Nat, j ≤ fs[k].2.length ∧ i = .int .i64 j ∧ ConstsTo fs[k].2 j) (fun i => fs[k].2.length - (intOf i).toNat)
      case atStart => exact ⟨0, Nat.zero_le _, rfl, fun j hj => absurd hj (by omega)⟩
      case round =>
        obtain ⟨j, hj, rfl, hs⟩ := hrel
        by_cases hltj : j < fs[k].2.length
        · obtain ⟨b4, o4, rfl, _, hx⟩ := hx (by omega)
          have hck : w.cell? ⟨b4, o4 + j, none⟩ = some (.int .i64 fs[k].2[j]) := hx j hltj
          clear hx
          by_cases he : 0 ≤ fs[k].2[j] ∧ fs[k].2[j] ≤ 5
          · have HT := Lib.hid (hs.step (by simpa [hltj, constOk] using he))
            have HK := Lib.hid (l1In_yes he)
            clear hs he
            go_wp2_with (go_at_call 50; refine (HK.out _).mono ?_; rintro e w' ⟨rfl, rfl⟩)
            go_round
            case rel => exact ⟨j + 1, by omega, by go_num, HT.out⟩
            case measure => simp [intOf]; omega
          · have HE := Lib.hid (constsL_not hlt hltj (by simpa [constOk] using he))
            have HK := Lib.hid (l1In_no he)
            clear hs he
            go_wp2_with (go_at_call 50; refine (HK.out _).mono ?_; rintro e w' ⟨rfl, rfl⟩)
            go_ret
            exact ⟨ret_bool HE.out.symm, rfl⟩
        · have hjn : j = fs[k].2.length := by omega
          have HE := Lib.hid (HS.out.step hlt (ConstsTo.all (by rw [← hjn]; exact hs)))
          clear hs hjn hx
          go_wp2_with (fail)
          go_round
          case rel => exact ⟨k + 1, by omega, by go_num, HE.out⟩
          case measure => simp [intOf]; omega
    · have hkn : k = fs.length := by omega
      have HE := Lib.hid (show constsL fs = true from ConstsFs.all (by rw [← hkn]; exact hs))
      clear hkn hs
      go_wp2_with (fail)
      go_ret
      exact ⟨ret_bool HE.out.symm, rfl⟩

theorem l3Consts_is {fs : List LFact} {b : Bool} (e : constsL fs = b) (v : Value) (B : Nat) (w : World) (h : RdFacts w B v fs) (hn : fs.length ≤ 1048576) (ht : tot fs ≤ 1048576) :
    Calls Tryz.prog 44 #[v] w fun e w' => e = .returned (.bool b) ∧ w = w' := e ▸ l3Consts_any v fs B w h hn ht

end Go.Proofs.YtokmmloakahkhaaGreat
/-
  questionsOf: a row of questions is made and filled; haveConstants.
-/
namespace Go.Proofs.YtokmmloakahkhaaGreat
open Go.RowKit

theorem AtQ.made (w : World) (cs : Array Value) (n : Nat) (hs : cs.size = n * 4) (hm : n ≤ maxLen) : AtQ (w.alloc (.cells cs 171)) w.heap.size n [] :=
  ⟨cs, Blk.new _ _ _, Nat.zero_le _, hm, hs, by simp [flatQ]⟩
theorem AtQ.push {w : World} {g c : Nat} {us : List QV} (h : AtQ w g c us) (hl : us.length < c) (u : QV) :
    AtQ (w.setCells g (us.length * 4) [u.1, u.2.1, u.2.2.1, u.2.2.2]) g c (us ++ [u]) ∧ Only g (g + 1) w (w.setCells g (us.length * 4) [u.1, u.2.1, u.2.2.1, u.2.2.2]) := by
  obtain ⟨cur, hg, h1, h2, h3, h4⟩ := h
  have hfl := flatQ_length us
  obtain ⟨cur', g1, g2, g3, g4⟩ := setCells_all g [u.1, u.2.1, u.2.2.1, u.2.2.2] (us.length * 4) w cur _ hg (by simp; omega)
  refine ⟨⟨cur', g1, by simp; omega, h2, by omega, ?_⟩, g4⟩
  rw [flatQ_append]
  apply List.ext_getElem?
  intro j
  rw [List.length_append, List.length_singleton]
  by_cases hj : j < (us.length + 1) * 4
  · rw [List.getElem?_take_of_lt hj, Array.getElem?_toList, g3 j]
    by_cases hj2 : j < us.length * 4
    · rw [if_neg (by simp; omega), List.getElem?_append_left (by omega), ← h4, List.getElem?_take_of_lt hj2, Array.getElem?_toList]
    · rw [if_pos (by simp; omega), List.getElem?_append_right (by omega), hfl]
      rfl
  · rw [List.getElem?_eq_none (by simp; omega), List.getElem?_eq_none (by simp [flatQ, hfl]; omega)]
theorem AtQ.free {w : World} {g c : Nat} {us : List QV} (h : AtQ w g c us) {j : Nat} (hj : j < c * 4) : ∃ x, w.cell? ⟨g, j, none⟩ = some x := by
  obtain ⟨cur, hg, h1, h2, h3, h4⟩ := h
  exact ⟨cur[j]'(by omega), by rw [Blk.cell hg, Array.getElem?_eq_getElem]⟩

/-- The questions of a body, all asked of the same facts. -/
def questL (fs : List LFact) (ls : List LLit) : List LQ := ls.map fun l => (l, fs)

set_option maxHeartbeats 2000000 in
set_option maxRecDepth 100000 in
theorem questionsOf_any (v v2 : Value) (fs : List LFact) (ls : List LLit) (w : World) (h : RdFacts w w.heap.size v fs) (h2 : RdLits w w.heap.size v2 ls) (hn : ls.length ≤ 1048576) :
    Calls Tryz.prog 85 #[v, v2] w fun e w' =>
      ∃ g us, e = .returned (.slice (some ⟨g, 0, none⟩) ls.length ls.length) ∧ w.heap.size ≤ g ∧ AtQ w' g ls.length us ∧ RdQs w' w.heap.size us (questL fs ls) ∧ Below w.heap.size w w' := by
  obtain ⟨i0, hi0, hz0, hz1, hz2⟩ := info_parts Tryz.infoQuestion
  have hmk := fun W => run_make_rowN (P := Tryz.prog) 126 171 i0 (.agg #[.int .i64 0, .int .i64 0, .slice none 0 0, .slice none 0 0]) Tryz.underlying126 hi0 hz0 .i64 .i64 ls.length ls.length (Nat.le_refl _) (by rw [hz2]; omega) (by omega) W
  rw [hz1] at hmk
  simp only [Value.cells] at hmk
  have H := Lib.hid h
  have H2 := Lib.hid h2
  obtain ⟨A, c, rfl, hc, _⟩ := h
  obtain ⟨A2, c2, rfl, hc2, _⟩ := h2
  obtain ⟨cs, hcs⟩ : ∃ cs, cs = madeCells #[Value.int IntKind.i64 0, Value.int IntKind.i64 0, Value.slice none 0 0, Value.slice none 0 0] (ls.length * 4) := ⟨_, rfl⟩
  have HM := Lib.hid (AtQ.made w cs ls.length (by rw [hcs]; simp [madeCells]) (by unfold maxLen; omega))
  rw [← hcs] at hmk
  clear hcs
  go_enter Tryz.func85, Tryz.ntmps85
  go_wp2_with fail
  obtain ⟨w1, hw1⟩ : ∃ w1, w1 = w.alloc (Obj.cells cs 171) := ⟨_, rfl⟩
  have B1 : Below w.heap.size w w1 := by rw [hw1]; exact below1 _ _
  rw [← hw1] at HM ⊢
  have HB1 := Lib.hid B1
  have hs1 : w.heap.size < w1.heap.size := by rw [hw1]; simp
  clear hw1 hmk B1
  go_loopw [13] (fun i wr => ∃ (k : Nat) (us : List QV), k ≤ ls.length ∧ i = .int .i64 k ∧ us.length = k ∧ AtQ wr w.heap.size ls.length us ∧ RdQs wr w.heap.size us (questL fs (ls.take k)) ∧ Only w.heap.size (w.heap.size + 1) w1 wr) (fun i _ => ls.length - (intOf i).toNat)
  case atStart => exact ⟨0, [], Nat.zero_le _, rfl, rfl, HM.out, ⟨by simp [questL], fun k h1 => absurd h1 (by simp)⟩, Only.refl _ _ _⟩
  case round =>
    obtain ⟨k, us, hk, rfl, hul, hat, hrd, hon⟩ := hrel
    by_cases hlt : k < ls.length
    · have hbe : Below w.heap.size w wr := Only.then_ HB1.out hon (Nat.le_refl _)
      obtain ⟨b, o, u0, u1, u2, rfl, hbB, k0, k1, k2, rfl, rfl, p3⟩ := (H2.out.below hbe (Nat.le_refl _)).get hlt
      have HP3 := Lib.hid p3
      obtain ⟨A4, c4, rfl, hc4, _⟩ := p3
      have hsz := hon.size
      go_upto_region 5 with fail
      obtain ⟨w2, hw2⟩ : ∃ w2, w2 = wr.alloc (Obj.cells #[Value.int IntKind.i64 ls[k].1, Value.int IntKind.i64 ls[k].2.1, Value.slice A4 ls[k].2.2.length c4] 35) := ⟨_, rfl⟩
      have b2 : Below wr.heap.size wr w2 := by rw [hw2]; exact below1 _ _
      have y2 : Blk w2 wr.heap.size 35 #[.int .i64 ls[k].1, .int .i64 ls[k].2.1, .slice A4 ls[k].2.2.length c4] := by rw [hw2]; exact Blk.new _ _ _
      rw [← hw2]
      clear hw2 k0 k1 k2
      have q0 : w2.cell? ⟨wr.heap.size, 0, none⟩ = some (.int .i64 ls[k].1) := y2.cell 0
      have q1 : w2.cell? ⟨wr.heap.size, 1, none⟩ = some (.int .i64 ls[k].2.1) := y2.cell 1
      have q2 : w2.cell? ⟨wr.heap.size, 2, none⟩ = some (.slice A4 ls[k].2.2.length c4) := y2.cell 2
      have at2 : AtQ w2 w.heap.size ls.length us := hat.below b2 hat.lt
      obtain ⟨x0, r0⟩ := at2.free (j := k * 4) (by omega)
      obtain ⟨x1, r1⟩ := at2.free (j := k * 4 + 1) (by omega)
      obtain ⟨x2, r2⟩ := at2.free (j := k * 4 + 2) (by omega)
      obtain ⟨x3, r3⟩ := at2.free (j := k * 4 + 3) (by omega)
      have f0 := at2.frozen (k * 4)
      have f1 := at2.frozen (k * 4 + 1)
      have f2 := at2.frozen (k * 4 + 2)
      have f3 := at2.frozen (k * 4 + 3)
      have hp := at2.push (by omega) (.int .i64 ls[k].1, .int .i64 ls[k].2.1, .slice A4 ls[k].2.2.length c4, .slice A fs.length c)
      rw [hul] at hp
      have HN := Lib.hid (show AtQ _ w.heap.size ls.length _ ∧ Only w.heap.size (w.heap.size + 1) w1 _ from ⟨hp.1, (hon.trans (Only.of_below b2)).trans hp.2⟩)
      have HRN := Lib.hid (show RdQs _ w.heap.size _ (questL fs (ls.take (k + 1))) from by
        have hb3 : Below w.heap.size wr _ := ((b2.mono (show w.heap.size ≤ wr.heap.size by omega)).trans (hp.2.below (Nat.le_refl _) (by have := at2.lt; omega)))
        have h4 := hrd.below hb3 (Nat.le_refl _)
        have hb4 := hbe.trans hb3
        refine (⟨?_, fun j h1 h3 => ?_⟩ : RdQs _ w.heap.size (us ++ [(.int .i64 ls[k].1, .int .i64 ls[k].2.1, .slice A4 ls[k].2.2.length c4, .slice A fs.length c)]) (questL fs (ls.take (k + 1))))
        · simp [questL, hul]; omega
        · by_cases e : j < us.length
          · have h5 := h4.2 j e (by simp [questL]; omega)
            have e1 : (questL fs (ls.take (k + 1)))[j] = (questL fs (ls.take k))[j]'(by simp [questL]; omega) := by simp [questL]
            rw [List.getElem_append_left e, e1]
            exact h5
          · have e2 : j = k := by simp at h1; omega
            subst e2
            have e1 : (questL fs (ls.take (j + 1)))[j] = (ls[j], fs) := by simp [questL]
            rw [e1]
            have hget : ∀ (x : QV) (h : j < (us ++ [x]).length), (us ++ [x])[j] = x := fun x h => by
              rw [List.getElem_append_right (by omega)]
              simp only [hul, Nat.sub_self, List.getElem_cons_zero]
            rw [hget]
            exact ⟨rfl, rfl, HP3.out.below hb3 (Nat.le_refl _), H.out.below hb4 (Nat.le_refl _)⟩)
      clear hat hrd hon hp at2 y2 hbe b2
      go_wp2_with fail
      go_roundw
      case rel => exact ⟨k + 1, _, by omega, by go_num, by simp [hul], HN.out.1, HRN.out, HN.out.2⟩
      case measure => simp [intOf]; omega
    · have hkn : k = ls.length := by omega
      have HF := Lib.hid (show AtQ wr w.heap.size ls.length us ∧ RdQs wr w.heap.size us (questL fs ls) ∧ Below w.heap.size w wr from ⟨hat, by rw [hkn, List.take_length] at hrd; exact hrd, Only.then_ HB1.out hon (Nat.le_refl _)⟩)
      clear hkn hat hrd hon hul
      go_wp2_with fail
      go_ret
      exact ⟨_, us, rfl, Nat.le_refl _, HF.out.1, HF.out.2.1, HF.out.2.2⟩

set_option maxHeartbeats 1000000 in
set_option maxRecDepth 100000 in
theorem haveConstants_any (v : Value) (fs : List LFact) (R : Bool) (hR : constsL fs = R) (w : World) (h : RdFacts w w.heap.size v fs) (hn : fs.length ≤ 1048576) (ht : tot fs ≤ 1048576) :
    Calls Tryz.prog 41 #[v] w fun e w' => e = .returned (.bool R) ∧ Below w.heap.size w w' := by
  have H := Lib.hid h
  have HR := Lib.hid hR
  obtain ⟨A, c, rfl, hc, _⟩ := h
  clear hR
  go_enter Tryz.func41, Tryz.ntmps41
  go_wp2_with fail
  go_loopw [7] (fun i wr => ∃ k : Nat, k ≤ fs.length ∧ i = .int .i64 k ∧ ConstsFs fs k ∧ Below w.heap.size w wr) (fun i _ => fs.length - (intOf i).toNat)
  case atStart => exact ⟨0, Nat.zero_le _, rfl, fun j _ hj => absurd hj (by omega), Below.refl _ _⟩
  case round =>
    obtain ⟨k, hk, rfl, hs, hbe⟩ := hrel
    by_cases hlt : k < fs.length
    · obtain ⟨b, o, A3, c3, rfl, hbB, k1, k2, k3⟩ := (H.out.on hbe).get hlt
      have hln := len_le_tot fs k hlt
      have CA := Lib.hid (fun W (hW : Below wr.heap.size wr W) => areConstants_any (.slice A3 fs[k].2.length c3) fs[k].2 wr.heap.size W (k3.below hW (Nat.le_refl _)) (by omega))
      have HS := Lib.hid hs
      have HBE := Lib.hid hbe
      clear hs hbe k3
      cases hco : fs[k].2.all constOk
      · rw [hco] at CA
        have HE := Lib.hid (show R = false by
          rw [← HR.out]
          unfold constsL
          rw [List.all_eq_false]
          exact ⟨fs[k], List.getElem_mem hlt, by rw [hco]; simp⟩)
        clear hco
        go_wp2_with (go_at_call 82; refine (CA.out _ (below1 _ _)).mono ?_; rintro e w2 ⟨rfl, rfl⟩)
        go_ret
        exact ⟨ret_bool HE.out.symm, bthen HBE.out (below1 _ _)⟩
      · rw [hco] at CA
        have HE := Lib.hid (HS.out.step hlt hco)
        clear hco
        go_wp2_with (go_at_call 82; refine (CA.out _ (below1 _ _)).mono ?_; rintro e w2 ⟨rfl, rfl⟩)
        go_roundw
        case rel => exact ⟨k + 1, by omega, by go_num, HE.out, bthen HBE.out (below1 _ _)⟩
        case measure => simp [intOf]; omega
    · have HE := Lib.hid (show R = true by rw [← HR.out]; exact ConstsFs.all (by have := hs; rw [show k = fs.length by omega] at this; exact this))
      have HBE := Lib.hid hbe
      clear hs hbe
      go_wp2_with fail
      go_ret
      exact ⟨ret_bool HE.out.symm, HBE.out⟩

end Go.Proofs.YtokmmloakahkhaaGreat
/-
  solve: all that makes the questions hold, each once.
-/
namespace Go.Proofs.YtokmmloakahkhaaGreat
open Go.RowKit

/-- All that makes questions hold, each once. -/
def IsSols (qs : List LQ) (S : List (List Int)) : Prop :=
  S.Nodup ∧ ∀ b, b ∈ S ↔ bindOk b = true ∧ (∀ v, v < 4 → (b.getD v (-1) ≠ -1 ↔ ∃ q ∈ qs, (maskOf q.1.2.2).testBit v = true)) ∧ ∀ q ∈ qs, holdsQ q b = true
/-- Each variable stands in an atom that is to hold. -/
def SafeQ (qs : List LQ) : Prop := ∀ q ∈ qs, ∀ v, v < 4 → (maskOf q.1.2.2).testBit v = true → ∃ q' ∈ qs, q'.1.1 = 0 ∧ (maskOf q'.1.2.2).testBit v = true

theorem perm_erase {α : Type} : ∀ (l : List α) (i : Nat) (h : i < l.length), (l[i] :: l.eraseIdx i).Perm l
  | x :: l, 0, _ => List.Perm.refl _
  | x :: l, i + 1, h => by
    have hi : i < l.length := by simpa using h
    have ih := perm_erase l i hi
    exact (List.Perm.swap x l[i] (l.eraseIdx i)).trans (ih.cons x)
theorem RdQs.erase {w : World} {B : Nat} {us : List QV} {qs : List LQ} (h : RdQs w B us qs) (i : Nat) (hi : i < qs.length) : RdQs w B (us.eraseIdx i) (qs.eraseIdx i) := by
  have hl := h.1
  refine ⟨by rw [List.length_eraseIdx_of_lt hi, List.length_eraseIdx_of_lt (by omega)]; omega, fun k h1 h2 => ?_⟩
  rw [List.getElem_eraseIdx, List.getElem_eraseIdx]
  split
  · exact h.2 k _ _
  · exact h.2 (k + 1) _ _
theorem oneQ {w : World} {B : Nat} : ∀ {us : List QV} {qs : List LQ}, RdQs w B us qs → ∀ u ∈ flatQ us, u.oneCell' = true := fun {us qs} h => by
  have key : ∀ (us : List QV), (∀ k (h : k < us.length), us[k].1.oneCell' = true ∧ us[k].2.1.oneCell' = true ∧ us[k].2.2.1.oneCell' = true ∧ us[k].2.2.2.oneCell' = true) → ∀ u ∈ flatQ us, u.oneCell' = true := by
    intro us
    induction us with
    | nil => intro _ u hu; simp [flatQ] at hu
    | cons x us ih =>
      intro hk u hu
      have h0 := hk 0 (by simp)
      have ih' := ih fun k hk' => hk (k + 1) (by simpa using hk')
      simp only [flatQ, List.mem_cons] at hu
      rcases hu with rfl | rfl | rfl | rfl | hu
      · exact h0.1
      · exact h0.2.1
      · exact h0.2.2.1
      · exact h0.2.2.2
      · exact ih' u hu
  refine key us fun k hk => ?_
  obtain ⟨a, b, d, e⟩ := h.2 k hk (by rw [← h.1]; exact hk)
  obtain ⟨A2, c2, e2, _⟩ := d
  obtain ⟨A3, c3, e3, _⟩ := e
  rw [a, b, e2, e3]
  exact ⟨rfl, rfl, rfl, rfl⟩

/-- While questions are left one of them may be asked. -/
theorem free_there {K : Nat} {Q qs qs0 : List LQ} {S : List (List Int)} (h : Sols K Q S) (hp : (Q ++ qs).Perm qs0) (hs : SafeQ qs0) (hne : 0 < qs.length) : ∃ i, ∃ h : i < qs.length, FreeQ K qs[i] := by
  by_cases he : ∃ q ∈ qs, q.1.1 = 0
  · obtain ⟨q, hq, h0⟩ := he
    obtain ⟨i, hi, rfl⟩ := List.getElem_of_mem hq
    exact ⟨i, hi, .inl h0⟩
  · refine ⟨0, hne, .inr fun v hv hm => ?_⟩
    obtain ⟨q', hq', h0, hm'⟩ := hs qs[0] (hp.mem_iff.1 (List.mem_append_right _ (List.getElem_mem hne))) v hv hm
    rcases List.mem_append.1 (hp.mem_iff.2 hq') with hq | hq
    · exact h.vars q' hq v hv hm'
    · exact absurd ⟨q', hq, h0⟩ he
theorem sols_done {K : Nat} {Q qs0 : List LQ} {S : List (List Int)} (h : Sols K Q S) (hp : Q.Perm qs0) (hk : ∀ v, v < 4 → K.testBit v = true → ∃ q ∈ Q, (maskOf q.1.2.2).testBit v = true) : IsSols qs0 S := by
  refine ⟨h.nodup, fun b => ?_⟩
  rw [h.mem b]
  refine and_congr_right fun _ => and_congr ?_ ?_
  · have hK : ∀ v, v < 4 → (K.testBit v = true ↔ ∃ q ∈ qs0, (maskOf q.1.2.2).testBit v = true) := fun v hv => by
      constructor
      · intro hb
        obtain ⟨q, hq, hm⟩ := hk v hv hb
        exact ⟨q, hp.mem_iff.1 hq, hm⟩
      · rintro ⟨q, hq, hm⟩
        exact h.vars q (hp.mem_iff.2 hq) v hv hm
    exact ⟨fun hd v hv => (hd v hv).trans (hK v hv), fun hd v hv => (hd v hv).trans (hK v hv).symm⟩
  · exact ⟨fun hq q hm => hq q (hp.mem_iff.2 hm), fun hq q hm => hq q (hp.mem_iff.1 hm)⟩
theorem sols_none {K : Nat} {Q qs qs0 : List LQ} (h : Sols K Q []) (hp : (Q ++ qs).Perm qs0) (hk : ∀ v, v < 4 → K.testBit v = true → ∃ q ∈ Q, (maskOf q.1.2.2).testBit v = true) : IsSols qs0 [] := by
  refine ⟨List.nodup_nil, fun b => Iff.intro (fun hb => by cases hb) fun hh => ?_⟩
  obtain ⟨h1, h2, h3⟩ := hh
  suffices hx : restr K b ∈ ([] : List (List Int)) by cases hx
  refine (h.mem (restr K b)).2 ⟨restr_ok h1 K, fun v hv => ?_, fun q hq => ?_⟩
  · rw [restr_at hv]
    by_cases e : K.testBit v = true
    · rw [if_pos e]
      obtain ⟨q, hq, hm⟩ := hk v hv e
      exact ⟨fun _ => e, fun _ => (h2 v hv).2 ⟨q, hp.mem_iff.1 (List.mem_append_left _ hq), hm⟩⟩
    · rw [if_neg e]
      exact ⟨fun hx => absurd rfl hx, fun hx => absurd hx e⟩
  · rw [holdsQ_same (restr_ok h1 K) h1 (h.terms q hq) fun v hv hm => by rw [restr_at hv, if_pos (h.vars q hq v hv hm)]]
    exact h3 q (hp.mem_iff.1 (List.mem_append_left _ hq))

theorem OwnW.one (w : World) : OwnW (w.alloc (.cells #[.int .u32 0] 94)) w.heap.size (w.heap.size + 1) (.slice (some ⟨w.heap.size, 0, none⟩) 1 1) [noneB] :=
  ⟨⟨rfl, .inr ⟨w.heap.size, 1, _, rfl, Nat.le_refl _, heap_alloc_new w _, Nat.le_refl _, by decide, rfl, by simp [wd, encB_none]⟩⟩, fun g hg => by simp [Value.ownBlock] at hg; omega⟩

/-- What solve has behind some questions. -/
structure SolveAt (g c B : Nat) (w0 wr : World) (qs0 : List LQ) (us : List QV) (Q qs : List LQ) (K : Nat) (S : List (List Int)) (v : Value) : Prop where
  row : AtQ wr g c us
  rd : RdQs wr B us qs
  own : OwnW wr w0.heap.size wr.heap.size v S
  sols : Sols K Q S
  perm : (Q ++ qs).Perm qs0
  few : K < 16
  vars : ∀ v, v < 4 → K.testBit v = true → ∃ q ∈ Q, (maskOf q.1.2.2).testBit v = true
  only : Only g (g + 1) w0 wr

set_option maxHeartbeats 4000000 in
set_option maxRecDepth 100000 in
theorem solveFrom_any (g c B : Nat) (us0 : List QV) (qs0 : List LQ) (w : World) (h : AtQ w g c us0) (hr : RdQs w B us0 qs0) (hB : B ≤ g) (hn : qs0.length ≤ 1048576) (hok : ∀ q ∈ qs0, QOk q) (hsf : SafeQ qs0) :
    Calls Tryz.prog 128 #[.int .u32 0, .int .u64 0, .slice (some ⟨g, 0, none⟩) qs0.length c] w fun e w' =>
      ∃ A c' S, e = .returned (.slice A S.length c') ∧ OwnW w' w.heap.size w'.heap.size (.slice A S.length c') S ∧ Only g (g + 1) w w' ∧ IsSols qs0 S := by
  have hgw := h.lt
  have HOK := Lib.hid hok
  have HSF := Lib.hid hsf
  have H0 := Lib.hid (show SolveAt g c B w (w.alloc (.cells #[.int .u32 0] 94)) qs0 us0 [] qs0 0 [noneB] (.slice (some ⟨w.heap.size, 0, none⟩) [noneB].length 1) from
    ⟨h.below (below1 w _) hgw, hr.below (below1 w _) (by omega), (OwnW.one w).mono (Nat.le_refl _) (by simp), sols_start, List.Perm.refl _, by omega, fun v _ h => by simp at h, Only.of_below (below1 w _)⟩)
  clear h hr hok hsf
  go_enter Tryz.func128, Tryz.ntmps128
  go_wp2_with fail
  go_loopw [1, 2, 7] (fun v4 v0 v3 wr => ∃ (us : List QV) (Q qs : List LQ) (K : Nat) (S : List (List Int)) (A : Option Addr) (c' : Nat), qs.length ≤ qs0.length ∧ v0 = .slice (some ⟨g, 0, none⟩) qs.length c ∧ v3 = .slice A S.length c' ∧ v4 = .int .u64 (K : Nat) ∧ SolveAt g c B w wr qs0 us Q qs K S (.slice A S.length c')) (fun _ v0 _ _ => match v0 with | .slice _ n _ => n | _ => 0)
  case atStart => exact ⟨us0, [], qs0, 0, [noneB], _, _, Nat.le_refl _, rfl, rfl, rfl, H0.out⟩
  case round =>
    obtain ⟨us, Q, qs, K, S, A3, c3, hql, rfl, rfl, rfl, hat⟩ := hrel
    have HAT := Lib.hid hat
    clear hat H0
    by_cases hq0 : 0 < qs.length
    · have hd0 : decide ((qs.length : Int) > 0) = true := by simp; omega
      by_cases hS0 : 0 < S.length
      · have hd1 : decide ((S.length : Int) > 0) = true := by simp; omega
        have CN := Lib.hid (nextAsked_any g c B K us qs wr HAT.out.row HAT.out.rd (by have := HAT.out.row.lt; omega) HAT.out.few (by omega) (fun q hq => (HOK.out q (HAT.out.perm.mem_iff.1 (List.mem_append_right _ hq))).args) (free_there HAT.out.sols HAT.out.perm HSF.out hq0))
        go_upto_region 4 with (go_at_call 170; refine CN.out.mono ?_; rintro e w2 ⟨i, rfl, hi, hb2⟩; have HI := Lib.hid (And.intro hi hb2); clear hi hb2)
        obtain ⟨⟨hi, hfree⟩, hb2⟩ := HI.out
        have hlo : w.heap.size ≤ wr.heap.size := HAT.out.only.size
        have hgl : g < wr.heap.size := HAT.out.row.lt
        have hs2 := hb2.size
        obtain ⟨A4, c4, A5, c5, q0, q1, q2, q3, hq⟩ := (HAT.out.row.below hb2 hgl).quest (HAT.out.rd.below hb2 (by omega)) hi
        obtain ⟨q, hqe⟩ : ∃ q, q = qs[i] := ⟨_, rfl⟩
        have hqm : q ∈ qs0 := by rw [hqe]; exact HAT.out.perm.mem_iff.1 (List.mem_append_right _ (List.getElem_mem hi))
        rw [← hqe] at q0 q1 q2 q3 hq hfree
        have hqk := HOK.out q hqm
        have HQE := Lib.hid hqe
        clear hqe hqm
        go_upto_region 5 with fail
        obtain ⟨w3, hw3⟩ : ∃ w3, w3 = w2.alloc (Obj.cells #[Value.int IntKind.i64 q.1.1, Value.int IntKind.i64 q.1.2.1, Value.slice A4 q.1.2.2.length c4, Value.slice A5 q.2.length c5] 171) := ⟨_, rfl⟩
        have b3 : Below w2.heap.size w2 w3 := by rw [hw3]; exact below1 _ _
        have y3 : Blk w3 w2.heap.size 171 #[.int .i64 q.1.1, .int .i64 q.1.2.1, .slice A4 q.1.2.2.length c4, .slice A5 q.2.length c5] := by rw [hw3]; exact Blk.new _ _ _
        have hs3 : w2.heap.size < w3.heap.size := by rw [hw3]; simp
        rw [← hw3]
        clear hw3 q0 q1 q2 q3
        have x0 : w3.cell? ⟨w2.heap.size, 0, none⟩ = some (.int .i64 q.1.1) := y3.cell 0
        have x1 : w3.cell? ⟨w2.heap.size, 1, none⟩ = some (.int .i64 q.1.2.1) := y3.cell 1
        have x2 : w3.cell? ⟨w2.heap.size, 2, none⟩ = some (.slice A4 q.1.2.2.length c4) := y3.cell 2
        have x3 : w3.cell? ⟨w2.heap.size, 3, none⟩ = some (.slice A5 q.2.length c5) := y3.cell 3
        have B23 := bthen hb2 b3
        have hq3 : RdQC w3 w.heap.size (.int .i64 q.1.1) (.int .i64 q.1.2.1) (.slice A4 q.1.2.2.length c4) (.slice A5 q.2.length c5) q :=
          ⟨rfl, rfl, (hq.2.2.1.below b3 (by omega)).more (by omega), (hq.2.2.2.below b3 (by omega)).more (by omega)⟩
        have CA := Lib.hid (ask_any w.heap.size wr.heap.size K _ _ _ _ (.slice A3 S.length c3) q Q S w3 hq3 hqk (HAT.out.own.below B23 (Nat.le_refl _)) B23.size hlo HAT.out.sols (fun e => by rw [e] at hS0; simp at hS0) HAT.out.few (fun h0 => by
          rcases hfree with h | h
          · exact absurd h h0
          · exact h))
        have HW3 := Lib.hid (And.intro B23 (And.intro y3 hq3))
        have hal := hqk.args
        have hor : bits .or .u64 ((K : Nat) : Int) ((maskOf q.1.2.2 : Nat) : Int) = ((K ||| maskOf q.1.2.2 : Nat) : Int) := or_word HAT.out.few (maskOf_lt _)
        clear hq hq3 y3 b3 hb2 hfree hqk B23 HI CN
        go_upto_region 6 with (go_at_call 171; refine CA.out.mono ?_; rintro e w4 ⟨A6, c6, S', rfl, ho4, on4, hs4⟩; have H4 := Lib.hid (And.intro ho4 (And.intro on4 hs4)); clear ho4 on4 hs4)
        obtain ⟨ho4, on4, hs4⟩ := H4.out
        obtain ⟨B23, y3, hq3⟩ := HW3.out
        have hz4 := on4.size
        have y4 := y3.only on4 (.inr (by omega))
        clear x0 x1 x2 x3
        have x2 : w4.cell? ⟨w2.heap.size, 2, none⟩ = some (.slice A4 q.1.2.2.length c4) := y4.cell 2
        have CV := Lib.hid (argVars_any (.slice A4 q.1.2.2.length c4) q.1.2.2 w.heap.size w4 (hq3.2.2.1.below (on4.below (Nat.le_refl _) (by omega)) (Nat.le_refl _)) hal)
        have o04 : Only g (g + 1) w w4 := ⟨on4.os.trans (B23.os.trans HAT.out.only.os), on4.tape.trans (B23.tape.trans HAT.out.only.tape), on4.output.trans (B23.output.trans HAT.out.only.output), by omega, fun k hk ho => (on4.block k (by omega) (.inl hk)).trans ((B23.block k (by omega)).trans (HAT.out.only.block k hk ho))⟩
        have r4 : AtQ w4 g c us := ((HAT.out.row.below B23 hgl).only on4 (.inl (by omega)))
        have d4 : RdQs w4 B us qs := (HAT.out.rd.below B23 (by omega)).only on4 (by omega) (by omega)
        obtain ⟨m, hm⟩ : ∃ m, qs.length = m + 1 := ⟨qs.length - 1, by omega⟩
        have hel : m = (qs.eraseIdx i).length := by rw [List.length_eraseIdx_of_lt hi]; omega
        have hul : us.length = m + 1 := by rw [← hm]; exact HAT.out.rd.1
        have CD := deleteQ_any g c i m us w4 r4 hul (by omega) (by omega) (oneQ d4)
        rw [← hm, hel] at CD
        have HCD := Lib.hid CD
        have HEL := Lib.hid (show (qs.eraseIdx i).length < qs.length by omega)
        have HN := Lib.hid (And.intro ho4 (And.intro hs4 (And.intro o04 (And.intro d4 hz4))))
        clear CD ho4 hs4 o04 d4 on4 y3 y4 hq3 B23 hm hel hul r4 H4 HW3
        go_wp2_with (first
          | (go_at_call 91; refine CV.out.mono ?_; rintro e w' ⟨rfl, rfl⟩)
          | (go_at_call 172; refine HCD.out.mono ?_; rintro e w5 ⟨rfl, r5, on5⟩; have H5 := Lib.hid (And.intro r5 on5); clear r5 on5))
        obtain ⟨r5, on5⟩ := H5.out
        obtain ⟨ho4, hs4, o04, d4, hz4⟩ := HN.out
        have hz5 := on5.size
        have hlen := HEL.out
        have hpm : ((q :: Q) ++ qs.eraseIdx i).Perm qs0 := by
          have h1 := perm_erase qs i hi
          rw [← HQE.out] at h1
          exact (List.perm_middle.symm.trans ((List.Perm.refl Q).append h1)).trans HAT.out.perm
        have HFIN := Lib.hid (show SolveAt g c B w w5 qs0 (us.eraseIdx i) (q :: Q) (qs.eraseIdx i) (K ||| maskOf q.1.2.2) S' (.slice A6 S'.length c6) from
          ⟨r5, (d4.only on5 (by omega) (by omega)).erase i hi, (ho4.only on5 (.inr (by omega))).mono (Nat.le_refl _) hz5, hs4, hpm, Nat.or_lt_two_pow (n := 4) HAT.out.few (maskOf_lt _), fun v hv hb => by
            rw [Nat.testBit_or, Bool.or_eq_true] at hb
            rcases hb with hb | hb
            · obtain ⟨q', hq', h⟩ := HAT.out.vars v hv hb
              exact ⟨q', List.mem_cons_of_mem _ hq', h⟩
            · exact ⟨q, List.mem_cons_self, hb⟩, o04.trans on5⟩)
        clear r5 on5 ho4 hs4 o04 d4 hpm
        go_roundw
        case rel => exact ⟨us.eraseIdx i, q :: Q, qs.eraseIdx i, K ||| maskOf q.1.2.2, S', A6, c6, by omega, rfl, rfl, rfl, HFIN.out⟩
        case measure => simp; omega
      · have hd1 : decide ((S.length : Int) > 0) = false := decide_eq_false (by omega)
        have HE := Lib.hid (show IsSols qs0 S by
          have : S = [] := List.eq_nil_of_length_eq_zero (by omega)
          subst this
          exact sols_none HAT.out.sols HAT.out.perm HAT.out.vars)
        go_wp2_with fail
        go_ret
        exact ⟨_, _, S, rfl, HAT.out.own, HAT.out.only, HE.out⟩
    · have hd0 : decide ((qs.length : Int) > 0) = false := decide_eq_false (by omega)
      have HE := Lib.hid (show IsSols qs0 S by
        have : qs = [] := List.eq_nil_of_length_eq_zero (by omega)
        subst this
        exact sols_done HAT.out.sols (by simpa using HAT.out.perm) HAT.out.vars)
      go_wp2_with fail
      go_ret
      exact ⟨_, _, S, rfl, HAT.out.own, HAT.out.only, HE.out⟩

set_option maxHeartbeats 1000000 in
theorem solve_any (g c B : Nat) (us0 : List QV) (qs0 : List LQ) (w : World) (h : AtQ w g c us0) (hr : RdQs w B us0 qs0) (hB : B ≤ g) (hn : qs0.length ≤ 1048576) (hok : ∀ q ∈ qs0, QOk q) (hsf : SafeQ qs0) :
    Calls Tryz.prog 84 #[.slice (some ⟨g, 0, none⟩) qs0.length c] w fun e w' =>
      ∃ A c' S, e = .returned (.slice A S.length c') ∧ OwnW w' w.heap.size w'.heap.size (.slice A S.length c') S ∧ Only g (g + 1) w w' ∧ IsSols qs0 S := by
  have CF := Lib.hid (solveFrom_any g c B us0 qs0 w h hr hB hn hok hsf)
  clear h hr hok hsf
  go_enter Tryz.func84, Tryz.ntmps84
  go_wp2_with (go_at_call 128; refine CF.out.mono ?_; rintro e w2 ⟨A, c', S, rfl, o2, on2, s2⟩; have H2 := Lib.hid (And.intro o2 (And.intro on2 s2)); clear o2 on2 s2)
  go_ret
  exact ⟨A, c', S, rfl, H2.out.1, H2.out.2.1, H2.out.2.2⟩

end Go.Proofs.YtokmmloakahkhaaGreat
/-
  The specification's solving, plain mathematics: what the atoms that are to hold bring, one after another.
-/
namespace Go.Proofs.YtokmmloakahkhaaGreat
open Go.RowKit

theorem or_orV (K m : Nat) (t : Int) : K ||| orV m t = orV (K ||| m) t := by
  unfold orV
  split
  · rw [Nat.or_assoc]
  · rfl
theorem maskOf_nil : maskOf [] = 0 := by simp [maskOf, maskFrom]

/-- Matching from what some variables have. -/
theorem matchTo_from {xs ys b : List Int} {K : Nat} (hb : bindOk b = true) (hdb : DomB b K) (hl : xs.length = ys.length) (hx : xs.all termOk = true) (hy : ys.all constOk = true) : ∀ (k : Nat) (_hk : k ≤ xs.length) (c : List Int), matchTo b xs ys k = some c ↔
    (bindOk c = true ∧ DomB c (K ||| maskOf (xs.take k)) ∧ restr K c = b ∧ ∀ i (h : i < xs.length) (h2 : i < ys.length), i < k → termVal c xs[i] = ys[i])
  | 0, hk, c => by
    rw [List.take_zero, maskOf_nil, Nat.or_zero]
    constructor
    · intro h
      injection h with h
      subst h
      exact ⟨hb, hdb, restr_all hb hdb, fun i _ _ h => absurd h (by omega)⟩
    · rintro ⟨hc, hd, hr, _⟩
      show some b = some c
      rw [← hr, restr_all hc hd]
  | k + 1, hk, c => by
    have hkx : k < xs.length := by omega
    have hky : k < ys.length := by omega
    have ih := matchTo_from hb hdb hl hx hy k (by omega)
    have hM : K ||| maskOf (xs.take (k + 1)) = orV (K ||| maskOf (xs.take k)) xs[k] := by rw [maskOf_take hkx, or_orV]
    have hxk : termOk xs[k] = true := List.all_eq_true.1 hx _ (List.getElem_mem hkx)
    have hyk : 0 ≤ ys[k] ∧ ys[k] ≤ 5 := by simpa [constOk] using List.all_eq_true.1 hy _ (List.getElem_mem hky)
    obtain ⟨M, hMM⟩ : ∃ M, M = K ||| maskOf (xs.take k) := ⟨_, rfl⟩
    rw [← hMM] at hM ih
    rw [hM]
    have hKM : ∀ v, K.testBit v = true → M.testBit v = true := fun v h => by rw [hMM, Nat.testBit_or, h, Bool.true_or]
    have hin : ∀ (i : Nat) (h : i < xs.length) (v : Nat), i < k → v < 4 → xs[i] = -1 - (v : Int) → M.testBit v = true := fun i h v hik hv e => by
      rw [hMM, Nat.testBit_or, Bool.or_eq_true]
      right
      rw [maskOf_bit hv, ← e]
      exact List.mem_take_iff_getElem.2 ⟨i, by omega, rfl⟩
    constructor
    · intro h
      cases h0 : matchTo b xs ys k with
      | none => rw [matchTo_none h0 (k + 1) (by omega)] at h; cases h
      | some b0 =>
        rw [matchTo_step h0 hkx hky] at h
        obtain ⟨hb0, hd0, hr0, hv0⟩ := (ih b0).1 h0
        unfold stepM at h
        split at h
        · rename_i e
          injection h with h
          subst h
          refine ⟨hb0, ?_, hr0, fun i h1 h2 hik => ?_⟩
          · rcases term_cases hxk with h0 | ⟨v, hv, hxv⟩
            · rw [orV_const h0.1]
              exact hd0
            · rw [hxv, orV_var hv]
              intro u hu
              rw [or_bit, hd0 u hu]
              constructor
              · exact fun h => .inl h
              · rintro (h | rfl)
                · exact h
                · refine (hd0 v hv).1 ?_
                  rw [hxv, termVal_v] at e
                  omega
          · by_cases ei : i = k
            · subst ei
              exact e
            · exact hv0 i h1 h2 (by omega)
        · split at h
          · rename_i e1 e2
            injection h with h
            rcases term_cases hxk with h0 | ⟨v, hv, hxv⟩
            · rw [termVal_const h0.1] at e2
              omega
            · rw [hxv, termVal_v] at e2
              have hj : (-1 - xs[k]).toNat = v := by omega
              rw [hj] at h
              have hl4 := bindOk_len hb0
              have hset : ∀ u, u < 4 → c.getD u (-1) = if u = v then ys[k] else b0.getD u (-1) := fun u hu => by
                rw [← h]
                simp only [List.getD_eq_getElem?_getD, List.getElem?_set]
                by_cases euv : v = u
                · subst euv
                  simp [hl4, hv]
                · rw [if_neg euv, if_neg (fun e => euv e.symm)]
              have hcok : bindOk c = true := by rw [← h]; exact bindOk_set hb0 (by omega) _
              refine ⟨hcok, fun u hu => ?_, ?_, fun i h1 h2 hik => ?_⟩
              · rw [hxv, orV_var hv, or_bit, hset u hu]
                by_cases euv : u = v
                · subst euv
                  simp
                  omega
                · rw [if_neg euv, hd0 u hu]
                  constructor
                  · exact fun h => .inl h
                  · rintro (h | h)
                    · exact h
                    · exact absurd h.symm euv
              · rw [← hr0]
                refine bind_ext (restr_ok hcok K) (restr_ok hb0 K) fun u hu => ?_
                rw [restr_at hu, restr_at hu]
                by_cases hKu : K.testBit u = true
                · rw [if_pos hKu, if_pos hKu, hset u hu, if_neg]
                  rintro rfl
                  exact (hd0 u hu).2 (hKM u hKu) e2
                · rw [if_neg hKu, if_neg hKu]
              · by_cases ei : i = k
                · subst ei
                  rw [hxv, termVal_v, hset v hv, if_pos rfl]
                · have hik' : i < k := by omega
                  rw [← hv0 i h1 h2 hik']
                  refine termVal_same (List.all_eq_true.1 hx _ (List.getElem_mem h1)) fun u hu eu => ?_
                  rw [hset u hu, if_neg]
                  rintro rfl
                  have := (hd0 u hu).2 (hin i h1 u hik' hu eu)
                  exact this e2
          · cases h
    · rintro ⟨hc, hd, hrc, hv⟩
      have hMK : ∀ v, v < 4 → M.testBit v = true → (orV M xs[k]).testBit v = true := fun v hv h => by
        rcases term_cases hxk with h0 | ⟨u, hu, hxu⟩
        · rw [orV_const h0.1]; exact h
        · rw [hxu, orV_var hu, or_bit]; exact .inl h
      have h0 : matchTo b xs ys k = some (restr M c) := by
        refine (ih _).2 ⟨restr_ok hc M, restr_dom hd hMK, ?_, fun i h1 h2 hik => ?_⟩
        · rw [← hrc]
          refine bind_ext (restr_ok (restr_ok hc M) K) (restr_ok hc K) fun u hu => ?_
          rw [restr_at hu, restr_at hu, restr_at hu]
          by_cases hKu : K.testBit u = true
          · rw [if_pos hKu, if_pos hKu, if_pos (hKM u hKu)]
          · rw [if_neg hKu, if_neg hKu]
        · rw [← hv i h1 h2 (by omega)]
          refine termVal_same (List.all_eq_true.1 hx _ (List.getElem_mem h1)) fun u hu eu => ?_
          rw [restr_at hu, if_pos (hin i h1 u hik hu eu)]
      rw [matchTo_step h0 hkx hky]
      have hvk := hv k hkx hky (by omega)
      rcases term_cases hxk with h0c | ⟨v, hv4, hxv⟩
      · rw [orV_const h0c.1] at hd
        rw [restr_all hc hd]
        exact stepM_same hvk
      · rw [hxv, orV_var hv4] at hd
        rw [hxv, termVal_v] at hvk
        rw [hxv]
        by_cases hMv : M.testBit v = true
        · have hd2 : DomB c M := fun u hu => by
            rw [hd u hu, or_bit]
            constructor
            · rintro (h | rfl)
              · exact h
              · exact hMv
            · exact fun h => .inl h
          rw [restr_all hc hd2]
          exact stepM_same (by rw [termVal_v]; exact hvk)
        · have hr : termVal (restr M c) (-1 - (v : Int)) = -1 := by rw [termVal_v, restr_at hv4, if_neg hMv]
          rw [stepM_new hr (by omega), show (-1 - (-1 - (v : Int))).toNat = v by omega]
          congr 1
          refine bind_ext (bindOk_set (restr_ok hc M) (by omega) _) hc fun u hu => ?_
          have hl4 := bindOk_len (restr_ok hc M)
          simp only [List.getD_eq_getElem?_getD, List.getElem?_set]
          by_cases euv : v = u
          · subst euv
            simp only [List.getD_eq_getElem?_getD] at hvk
            simp [hl4, hv4, hvk]
          · rw [if_neg euv, ← List.getD_eq_getElem?_getD, ← List.getD_eq_getElem?_getD, restr_at hu]
            by_cases hMu : M.testBit u = true
            · rw [if_pos hMu]
            · rw [if_neg hMu]
              rcases Decidable.em (c.getD u (-1) = -1) with h2 | h2
              · exact h2.symm
              · have := (hd u hu).1 h2
                rw [or_bit] at this
                rcases this with h | h
                · exact absurd h hMu
                · exact absurd h euv

theorem matchL_from {a f : LFact} {b : List Int} {K : Nat} (hb : bindOk b = true) (hdb : DomB b K) (ha : a.2.all termOk = true) (hf : f.2.all constOk = true) (c : List Int) :
    matchL a f b = some c ↔ bindOk c = true ∧ DomB c (K ||| maskOf a.2) ∧ restr K c = b ∧ f = (a.1, a.2.map (termVal c)) := by
  by_cases h1 : a.1 = f.1
  · by_cases h2 : a.2.length = f.2.length
    · rw [matchL_eq h1 h2, matchTo_from hb hdb h2 ha hf a.2.length (Nat.le_refl _) c, List.take_length]
      refine and_congr_right fun _ => and_congr_right fun _ => and_congr_right fun _ => ?_
      constructor
      · intro h
        refine Prod.ext h1.symm (List.ext_getElem (by simp [h2]) fun i i1 i2 => ?_)
        simp at i2
        simpa using (h i i2 i1 i2).symm
      · intro h i i1 i2 _
        have e : f.2 = a.2.map (termVal c) := by rw [h]
        have := List.getElem_of_eq e i2
        simpa using this.symm
    · rw [matchL_len h2]
      constructor
      · intro h; cases h
      · rintro ⟨_, _, _, e⟩
        exact absurd (by rw [e]; simp) h2
  · rw [matchL_pred h1]
    constructor
    · intro h; cases h
    · rintro ⟨_, _, _, e⟩
      exact absurd (by rw [e]) h1

/-- What lists become with an atom. -/
def nextL (a : LFact) (fs : List LFact) (B : List (List Int)) : List (List Int) := B.flatMap fun b => fs.filterMap fun f => matchL a f b

theorem Sols.next {K : Nat} {Q : List LQ} {B : List (List Int)} {q : LQ} (h : Sols K Q B) (hk : q.1.1 = 0) (ht : q.1.2.2.all termOk = true) (hf : ∀ f ∈ q.2, f.2.all constOk = true) (hn : q.2.Nodup) :
    Sols (K ||| maskOf q.1.2.2) (q :: Q) (nextL q.1.2 q.2 B) := by
  have hsu : ∀ v, v < 4 → (maskOf q.1.2.2).testBit v = true → (K ||| maskOf q.1.2.2).testBit v = true := fun v hv h => by rw [Nat.testBit_or, h, Bool.or_true]
  have hQu : ∀ q' ∈ Q, ∀ v, v < 4 → (maskOf q'.1.2.2).testBit v = true → (K ||| maskOf q.1.2.2).testBit v = true := fun q' hq v hv e => by rw [Nat.testBit_or, h.vars q' hq v hv e, Bool.true_or]
  have hm : ∀ b ∈ B, ∀ f ∈ q.2, ∀ c, matchL q.1.2 f b = some c ↔ bindOk c = true ∧ DomB c (K ||| maskOf q.1.2.2) ∧ restr K c = b ∧ f = (q.1.2.1, q.1.2.2.map (termVal c)) := fun b hb f hfq c =>
    matchL_from ((h.mem b).1 hb).1 ((h.mem b).1 hb).2.1 ht (hf f hfq) c
  refine ⟨?_, fun c => ?_, fun q' hq v hv e => ?_, fun q' hq => ?_⟩
  · unfold nextL List.Nodup
    rw [List.pairwise_flatMap]
    constructor
    · intro b hb
      rw [List.pairwise_filterMap]
      refine List.Pairwise.imp_of_mem (fun {f1 f2} h1 h2 hne c1 e1 c2 e2 e => hne ?_) hn
      subst e
      rw [((hm b hb f1 h1 c1).1 e1).2.2.2, ((hm b hb f2 h2 c1).1 e2).2.2.2]
    · refine List.Pairwise.imp_of_mem (fun {s1 s2} h1 h2 hne x hx y hy e => hne ?_) h.nodup
      obtain ⟨f1, hf1, e1⟩ := List.mem_filterMap.1 hx
      obtain ⟨f2, hf2, e2⟩ := List.mem_filterMap.1 hy
      subst e
      rw [← ((hm s1 h1 f1 hf1 x).1 e1).2.2.1, ← ((hm s2 h2 f2 hf2 x).1 e2).2.2.1]
  · unfold nextL
    rw [List.mem_flatMap]
    constructor
    · rintro ⟨b, hb, hc⟩
      obtain ⟨f, hfq, e⟩ := List.mem_filterMap.1 hc
      obtain ⟨c1, c2, c3, c4⟩ := (hm b hb f hfq c).1 e
      refine ⟨c1, c2, fun q' hq => ?_⟩
      rcases List.mem_cons.1 hq with rfl | hq
      · rw [holds_yes hk (headOk_dom c1 ht c2 hsu), ← c4]
        exact hfq
      · obtain ⟨b1, b2, b3⟩ := (h.mem b).1 hb
        rw [holdsQ_same c1 b1 (h.terms q' hq) fun v hv hmv => ?_]
        · exact b3 q' hq
        · rw [← c3, restr_at hv, if_pos (h.vars q' hq v hv hmv)]
    · rintro ⟨c1, c2, c3⟩
      have hb : restr K c ∈ B := (h.mem _).2 ⟨restr_ok c1 K, restr_dom c2 fun v _ e => by rw [Nat.testBit_or, e, Bool.true_or], fun q' hq => by
        rw [holdsQ_same (restr_ok c1 K) c1 (h.terms q' hq) fun v hv hmv => by rw [restr_at hv, if_pos (h.vars q' hq v hv hmv)]]
        exact c3 q' (List.mem_cons_of_mem _ hq)⟩
      have hin := (holds_yes hk (headOk_dom c1 ht c2 hsu)).1 (c3 q List.mem_cons_self)
      exact ⟨restr K c, hb, List.mem_filterMap.2 ⟨_, hin, (hm _ hb _ hin c).2 ⟨c1, c2, rfl, rfl⟩⟩⟩
  · rcases List.mem_cons.1 hq with rfl | hq
    · exact hsu v hv e
    · exact hQu q' hq v hv e
  · rcases List.mem_cons.1 hq with rfl | hq
    · exact ht
    · exact h.terms q' hq

/-- What the atoms that are to hold, of the first k literals, bring. -/
def bindsTo (fs : List LFact) (ls : List LLit) : Nat → List (List Int)
  | 0 => [noneB]
  | k + 1 => if (ls.getD k (0, 0, [])).1 = 0 then nextL (ls.getD k (0, 0, [])).2 fs (bindsTo fs ls k) else bindsTo fs ls k
theorem bindsTo_yes {fs : List LFact} {ls : List LLit} {k : Nat} (h : k < ls.length) (e : ls[k].1 = 0) : bindsTo fs ls (k + 1) = nextL ls[k].2 fs (bindsTo fs ls k) := by
  have hd : ls.getD k (0, 0, []) = ls[k] := by simp [h]
  show (if _ then _ else _) = _
  rw [hd, if_pos e]
theorem bindsTo_no {fs : List LFact} {ls : List LLit} {k : Nat} (h : k < ls.length) (e : ls[k].1 ≠ 0) : bindsTo fs ls (k + 1) = bindsTo fs ls k := by
  have hd : ls.getD k (0, 0, []) = ls[k] := by simp [h]
  show (if _ then _ else _) = _
  rw [hd, if_neg e]
/-- The literals, of the first k, that are tried. -/
def restTo (ls : List LLit) (k : Nat) : List LLit := (ls.take k).filter fun l => l.1 != 0
theorem restTo_yes {ls : List LLit} {k : Nat} (h : k < ls.length) (e : ls[k].1 = 0) : restTo ls (k + 1) = restTo ls k := by
  unfold restTo
  rw [take_snoc ls k h, List.filter_append]
  simp [e]
theorem restTo_no {ls : List LLit} {k : Nat} (h : k < ls.length) (e : ls[k].1 ≠ 0) : restTo ls (k + 1) = restTo ls k ++ [ls[k]] := by
  unfold restTo
  rw [take_snoc ls k h, List.filter_append]
  simp [e]
theorem restTo_length (ls : List LLit) (k : Nat) : (restTo ls k).length ≤ k := by
  unfold restTo
  exact Nat.le_trans (List.length_filter_le _ _) (by simp; omega)

/-- The solutions of the atoms that are to hold. -/
theorem bindsTo_sols {fs : List LFact} {ls : List LLit} (hf : ∀ f ∈ fs, f.2.all constOk = true) (hn : fs.Nodup) (ht : ∀ l ∈ ls, l.2.2.all termOk = true) : ∀ k, k ≤ ls.length →
    ∃ (K : Nat) (Q : List LQ), K < 16 ∧ Sols K Q (bindsTo fs ls k) ∧ (∀ q, q ∈ Q ↔ q.2 = fs ∧ q.1.1 = 0 ∧ q.1 ∈ ls.take k) ∧ ∀ v, v < 4 → (K.testBit v = true ↔ ∃ l ∈ ls.take k, l.1 = 0 ∧ (maskOf l.2.2).testBit v = true)
  | 0, _ => ⟨0, [], by omega, sols_start, fun q => by simp, fun v _ => by simp⟩
  | k + 1, hk => by
    have hlt : k < ls.length := by omega
    obtain ⟨K, Q, hK, hS, hQ, hv⟩ := bindsTo_sols hf hn ht k (by omega)
    have htk : ls.take (k + 1) = ls.take k ++ [ls[k]] := take_snoc ls k hlt
    by_cases e : ls[k].1 = 0
    · refine ⟨K ||| maskOf ls[k].2.2, (ls[k], fs) :: Q, Nat.or_lt_two_pow (n := 4) hK (maskOf_lt _), ?_, fun q => ?_, fun v hv4 => ?_⟩
      · rw [bindsTo_yes hlt e]
        exact hS.next (q := (ls[k], fs)) e (ht _ (List.getElem_mem hlt)) hf hn
      · rw [List.mem_cons, hQ, htk, List.mem_append, List.mem_singleton]
        constructor
        · rintro (rfl | ⟨h1, h2, h3⟩)
          · exact ⟨rfl, e, .inr rfl⟩
          · exact ⟨h1, h2, .inl h3⟩
        · rintro ⟨h1, h2, h3 | h3⟩
          · exact .inr ⟨h1, h2, h3⟩
          · exact .inl (Prod.ext h3 h1)
      · rw [Nat.testBit_or, Bool.or_eq_true, hv v hv4, htk]
        constructor
        · rintro (⟨l, hl, h1, h2⟩ | h)
          · exact ⟨l, List.mem_append_left _ hl, h1, h2⟩
          · exact ⟨ls[k], List.mem_append_right _ (List.mem_singleton.2 rfl), e, h⟩
        · rintro ⟨l, hl, h1, h2⟩
          rcases List.mem_append.1 hl with hl | hl
          · exact .inl ⟨l, hl, h1, h2⟩
          · rw [List.mem_singleton] at hl
            subst hl
            exact .inr h2
    · refine ⟨K, Q, hK, by rw [bindsTo_no hlt e]; exact hS, fun q => ?_, fun v hv4 => ?_⟩
      · rw [hQ, htk, List.mem_append, List.mem_singleton]
        constructor
        · rintro ⟨h1, h2, h3⟩
          exact ⟨h1, h2, .inl h3⟩
        · rintro ⟨h1, h2, h3 | h3⟩
          · exact ⟨h1, h2, h3⟩
          · exact absurd (h3 ▸ h2) e
      · rw [hv v hv4, htk]
        constructor
        · rintro ⟨l, hl, h⟩
          exact ⟨l, List.mem_append_left _ hl, h⟩
        · rintro ⟨l, hl, h1, h2⟩
          rcases List.mem_append.1 hl with hl | hl
          · exact ⟨l, hl, h1, h2⟩
          · rw [List.mem_singleton] at hl
            exact absurd (hl ▸ h1) e
theorem bindsTo_ok {fs : List LFact} {ls : List LLit} (hf : ∀ f ∈ fs, f.2.all constOk = true) (hn : fs.Nodup) (ht : ∀ l ∈ ls, l.2.2.all termOk = true) {k : Nat} (hk : k ≤ ls.length) : (∀ b ∈ bindsTo fs ls k, bindOk b = true) ∧ (bindsTo fs ls k).length ≤ 65536 := by
  obtain ⟨K, Q, _, hS, _, _⟩ := bindsTo_sols hf hn ht k hk
  have h1 : ∀ b ∈ bindsTo fs ls k, bindOk b = true := fun b hb => ((hS.mem b).1 hb).1
  exact ⟨h1, binds_len hS.nodup h1⟩

/-- A row into rows, once. -/
def atB : List (List Int) → List Int → Nat
  | [], _ => 0
  | s :: S, b => if cmpL b s < 0 then 0 else atB S b + 1
theorem atB_spec : ∀ (S : List (List Int)) (b : List Int), atB S b ≤ S.length ∧ (∀ j (h : j < S.length), j < atB S b → ¬ cmpL b S[j] < 0) ∧ (atB S b = S.length ∨ ∃ h : atB S b < S.length, cmpL b S[atB S b] < 0)
  | [], _ => ⟨Nat.le_refl _, fun j h => absurd h (by simp), .inl rfl⟩
  | s :: S, b => by
    obtain ⟨h1, h2, h3⟩ := atB_spec S b
    by_cases e : cmpL b s < 0
    · have ea : atB (s :: S) b = 0 := if_pos e
      rw [ea]
      exact ⟨Nat.zero_le _, fun j _ h => absurd h (by omega), .inr ⟨by simp, by simpa using e⟩⟩
    · have ea : atB (s :: S) b = atB S b + 1 := if_neg e
      simp only [ea]
      refine ⟨by simpa using h1, fun j hj hlt => ?_, ?_⟩
      · rcases j with _ | j
        · exact e
        · exact h2 j (by simpa using hj) (by omega)
      · rcases h3 with h3 | ⟨h, h3⟩
        · exact .inl (by simpa using h3)
        · exact .inr ⟨by simpa using h, by simpa using h3⟩
def putB (S : List (List Int)) (b : List Int) : List (List Int) := if b ∈ S then S else S.take (atB S b) ++ b :: S.drop (atB S b)
def UpB (S : List (List Int)) : Prop := S.Pairwise fun x y => cmpL x y < 0
theorem UpB.put {S : List (List Int)} (h : UpB S) (b : List Int) : UpB (putB S b) ∧ ∀ x, x ∈ putB S b ↔ x = b ∨ x ∈ S := by
  unfold putB
  split
  · rename_i hm
    refine ⟨h, fun x => ⟨fun h => .inr h, fun h' => ?_⟩⟩
    rcases h' with rfl | h'
    · exact hm
    · exact h'
  · rename_i hm
    obtain ⟨a1, a2, a3⟩ := atB_spec S b
    constructor
    · have h1 : ∀ s ∈ S.take (atB S b), cmpL s b < 0 := fun s hs => by
        obtain ⟨j, hj, rfl⟩ := List.mem_take_iff_getElem.1 hs
        have h3 := a2 j (by omega) (by omega)
        have h4 : cmpL b (S[j]'(by omega)) ≠ 0 := fun e => hm (by rw [cmpL_eq e]; exact List.getElem_mem _)
        exact cmpL_flip.2 (by omega)
      have h2 : ∀ s ∈ S.drop (atB S b), cmpL b s < 0 := fun s hs => by
        obtain ⟨i, hi, rfl⟩ := List.getElem_of_mem hs
        rw [List.length_drop] at hi
        rw [List.getElem_drop]
        rcases a3 with a3 | ⟨a4, a3⟩
        · omega
        · rcases i with _ | i
          · exact a3
          · exact cmpL_less a3 (List.pairwise_iff_getElem.1 h _ _ a4 (by omega) (by omega))
      show List.Pairwise _ _
      rw [List.pairwise_append]
      refine ⟨List.Pairwise.sublist (List.take_sublist _ _) h, List.pairwise_cons.2 ⟨h2, List.Pairwise.sublist (List.drop_sublist _ _) h⟩, fun x hx y hy => ?_⟩
      rcases List.mem_cons.1 hy with rfl | hy
      · exact h1 x hx
      · exact cmpL_less (h1 x hx) (h2 y hy)
    · intro x
      rw [List.mem_append, List.mem_cons]
      have e : x ∈ S ↔ x ∈ S.take (atB S b) ∨ x ∈ S.drop (atB S b) := by rw [← List.mem_append, List.take_append_drop]
      rw [e]
      constructor
      · rintro (h | h | h)
        · exact .inr (.inl h)
        · exact .inl h
        · exact .inr (.inr h)
      · rintro (h | h | h)
        · exact .inr (.inl h)
        · exact .inl h
        · exact .inr (.inr h)
theorem UpB.unique : ∀ {l m : List (List Int)}, UpB l → UpB m → (∀ f, f ∈ l ↔ f ∈ m) → l = m
  | [], [], _, _, _ => rfl
  | [], y :: m, _, _, h => absurd ((h y).2 List.mem_cons_self) (by simp)
  | x :: l, [], _, _, h => absurd ((h x).1 List.mem_cons_self) (by simp)
  | x :: l, y :: m, hl, hm, h => by
    obtain ⟨h1, h2⟩ := List.pairwise_cons.1 hl
    obtain ⟨h3, h4⟩ := List.pairwise_cons.1 hm
    have irr : ∀ z : List Int, ¬ cmpL z z < 0 := fun z => by rw [cmpL_refl]; omega
    have hxy : x = y := by
      rcases List.mem_cons.1 ((h x).1 List.mem_cons_self) with e | e
      · exact e
      · rcases List.mem_cons.1 ((h y).2 List.mem_cons_self) with e2 | e2
        · exact e2.symm
        · exact absurd (cmpL_less (h1 y e2) (h3 x e)) (irr x)
    subst hxy
    rw [UpB.unique h2 h4 fun f => ?_]
    constructor
    · intro hf
      rcases List.mem_cons.1 ((h f).1 (List.mem_cons_of_mem _ hf)) with e | e
      · subst e
        exact absurd (h1 f hf) (irr f)
      · exact e
    · intro hf
      rcases List.mem_cons.1 ((h f).2 (List.mem_cons_of_mem _ hf)) with e | e
      · subst e
        exact absurd (h3 f hf) (irr f)
      · exact e

/-- Of the first k lists those that are tried well, each once, in order. -/
def triedTo (fs : List LFact) (rest : List LLit) (B : List (List Int)) : Nat → List (List Int)
  | 0 => []
  | k + 1 => if rest.all (fun l => litHolds fs l (B.getD k [])) then putB (triedTo fs rest B k) (B.getD k []) else triedTo fs rest B k
theorem triedTo_yes {fs : List LFact} {rest : List LLit} {B : List (List Int)} {k : Nat} (h : k < B.length) (e : (rest.all fun l => litHolds fs l B[k]) = true) : triedTo fs rest B (k + 1) = putB (triedTo fs rest B k) B[k] := by
  have hd : B.getD k [] = B[k] := by simp [h]
  show (if _ then _ else _) = _
  rw [hd, if_pos e]
theorem triedTo_no {fs : List LFact} {rest : List LLit} {B : List (List Int)} {k : Nat} (h : k < B.length) (e : (rest.all fun l => litHolds fs l B[k]) = false) : triedTo fs rest B (k + 1) = triedTo fs rest B k := by
  have hd : B.getD k [] = B[k] := by simp [h]
  show (if _ then _ else _) = _
  rw [hd, if_neg (by rw [e]; simp)]
theorem triedTo_is (fs : List LFact) (rest : List LLit) (B : List (List Int)) : ∀ k, k ≤ B.length → UpB (triedTo fs rest B k) ∧ ∀ x, x ∈ triedTo fs rest B k ↔ x ∈ B.take k ∧ (rest.all fun l => litHolds fs l x) = true
  | 0, _ => ⟨List.Pairwise.nil, fun x => by simp [triedTo]⟩
  | k + 1, hk => by
    obtain ⟨h1, h2⟩ := triedTo_is fs rest B k (by omega)
    have hlt : k < B.length := by omega
    have htk : ∀ x, x ∈ B.take (k + 1) ↔ x ∈ B.take k ∨ x = B[k] := fun x => by rw [take_snoc B k hlt, List.mem_append, List.mem_singleton]
    cases e : rest.all fun l => litHolds fs l B[k]
    · rw [triedTo_no hlt e]
      refine ⟨h1, fun x => ?_⟩
      rw [h2, htk]
      constructor
      · rintro ⟨a, b⟩
        exact ⟨.inl a, b⟩
      · rintro ⟨a | a, b⟩
        · exact ⟨a, b⟩
        · rw [a, e] at b
          cases b
    · rw [triedTo_yes hlt e]
      obtain ⟨h3, h4⟩ := h1.put B[k]
      refine ⟨h3, fun x => ?_⟩
      rw [h4, h2, htk]
      constructor
      · rintro (rfl | ⟨a, b⟩)
        · exact ⟨.inr rfl, e⟩
        · exact ⟨.inl a, b⟩
      · rintro ⟨a | a, b⟩
        · exact .inr ⟨a, b⟩
        · exact .inl a
theorem triedTo_sub {fs : List LFact} {rest : List LLit} {B : List (List Int)} {k : Nat} (hk : k ≤ B.length) : ∀ x ∈ triedTo fs rest B k, x ∈ B := fun x hx => List.mem_of_mem_take (((triedTo_is fs rest B k hk).2 x).1 hx).1
theorem UpB.nodup {S : List (List Int)} (h : UpB S) : S.Nodup := h.imp fun h e => by
  subst e
  rw [cmpL_refl] at h
  omega

/-- The solutions of a body. -/
def solsOf (fs : List LFact) (ls : List LLit) : List (List Int) := triedTo fs (restTo ls ls.length) (bindsTo fs ls ls.length) (bindsTo fs ls ls.length).length

end Go.Proofs.YtokmmloakahkhaaGreat
/-
  Both ways of solving come to the same, plain mathematics.
-/
namespace Go.Proofs.YtokmmloakahkhaaGreat
open Go.RowKit

theorem bodyMask_bit {v : Nat} : ∀ (ls : List LLit) (m : Nat), (ls.foldl (fun m l => m ||| maskOf l.2.2) m).testBit v = true ↔ m.testBit v = true ∨ ∃ l ∈ ls, (maskOf l.2.2).testBit v = true
  | [], m => by simp
  | l :: ls, m => by
    rw [List.foldl_cons, bodyMask_bit ls, Nat.testBit_or, Bool.or_eq_true]
    constructor
    · rintro ((h | h) | ⟨l', hl, h⟩)
      · exact .inl h
      · exact .inr ⟨l, List.mem_cons_self, h⟩
      · exact .inr ⟨l', List.mem_cons_of_mem _ hl, h⟩
    · rintro (h | ⟨l', hl, h⟩)
      · exact .inl (.inl h)
      · rcases List.mem_cons.1 hl with rfl | hl
        · exact .inl (.inr h)
        · exact .inr ⟨l', hl, h⟩
theorem yesMask_bit {v : Nat} : ∀ (ls : List LLit) (m : Nat), (ls.foldl (fun m l => if l.1 = 0 then m ||| maskOf l.2.2 else m) m).testBit v = true ↔ m.testBit v = true ∨ ∃ l ∈ ls, l.1 = 0 ∧ (maskOf l.2.2).testBit v = true
  | [], m => by simp
  | l :: ls, m => by
    rw [List.foldl_cons, yesMask_bit ls]
    by_cases e : l.1 = 0
    · rw [if_pos e, Nat.testBit_or, Bool.or_eq_true]
      constructor
      · rintro ((h | h) | ⟨l', hl, h⟩)
        · exact .inl h
        · exact .inr ⟨l, List.mem_cons_self, e, h⟩
        · exact .inr ⟨l', List.mem_cons_of_mem _ hl, h⟩
      · rintro (h | ⟨l', hl, h⟩)
        · exact .inl (.inl h)
        · rcases List.mem_cons.1 hl with rfl | hl
          · exact .inl (.inr h.2)
          · exact .inr ⟨l', hl, h⟩
    · rw [if_neg e]
      constructor
      · rintro (h | ⟨l', hl, h⟩)
        · exact .inl h
        · exact .inr ⟨l', List.mem_cons_of_mem _ hl, h⟩
      · rintro (h | ⟨l', hl, h⟩)
        · exact .inl h
        · rcases List.mem_cons.1 hl with rfl | hl
          · exact absurd h.1 e
          · exact .inr ⟨l', hl, h⟩

/-- A body that may be asked, told literal by literal. -/
structure SafeB (ls : List LLit) : Prop where
  kind : ∀ l ∈ ls, 0 ≤ l.1 ∧ l.1 ≤ 3
  terms : ∀ l ∈ ls, l.2.2.all termOk = true
  few : ls.length ≤ 4
  safe : ∀ l ∈ ls, ∀ v, v < 4 → (maskOf l.2.2).testBit v = true → ∃ l' ∈ ls, l'.1 = 0 ∧ (maskOf l'.2.2).testBit v = true
theorem SafeB.of {ls : List LLit} (h : bodySafe ls = true) : SafeB ls := by
  unfold bodySafe at h
  rw [Bool.and_eq_true, Bool.and_eq_true] at h
  obtain ⟨⟨h1, h2⟩, h3⟩ := h
  rw [List.all_eq_true] at h1
  rw [ruleSafe_eq, safeTo_iff, ruleMask_body] at h3
  refine ⟨fun l hl => ?_, fun l hl => ?_, by simpa using h2, fun l hl v hv hm => ?_⟩
  · have := h1 l hl
    unfold litFine at this
    rw [Bool.and_eq_true] at this
    simpa using this.1
  · have := h1 l hl
    unfold litFine at this
    rw [Bool.and_eq_true] at this
    exact this.2
  · have hb : (bodyMask ls).testBit v = true := (bodyMask_bit ls 0).2 (.inr ⟨l, hl, hm⟩)
    have hy := h3 v hv hb
    rcases (yesMask_bit ls 0).1 hy with h | h
    · simp at h
    · exact h
theorem consts_of {fs : List LFact} (h : constsL fs = true) : ∀ f ∈ fs, f.2.all constOk = true := fun f hf => List.all_eq_true.1 h f hf
theorem SafeB.quests {ls : List LLit} (h : SafeB ls) (fs : List LFact) : SafeQ (questL fs ls) := fun q hq v hv hm => by
  obtain ⟨l, hl, rfl⟩ := List.mem_map.1 hq
  obtain ⟨l', hl', h0, hm'⟩ := h.safe l hl v hv hm
  exact ⟨(l', fs), List.mem_map.2 ⟨l', hl', rfl⟩, h0, hm'⟩
theorem SafeB.qok {ls : List LLit} (h : SafeB ls) {fs : List LFact} (hc : ∀ f ∈ fs, f.2.all constOk = true) (hn : fs.length ≤ 1048576) (ht : tot fs ≤ 1048576) (hl : totL ls ≤ 1048576) : ∀ q ∈ questL fs ls, QOk q := fun q hq => by
  obtain ⟨l, hl', rfl⟩ := List.mem_map.1 hq
  have hk := h.kind l hl'
  refine ⟨by show l.1 = 0 ∨ l.1 = 1 ∨ l.1 = 2 ∨ l.1 = 3; omega, h.terms l hl', hc, ?_, hn, ht⟩
  obtain ⟨k, hk', rfl⟩ := List.getElem_of_mem hl'
  exact Nat.le_trans (len_le_totL ls k hk') hl

theorem litHolds_same {fs gs : List LFact} (h : ∀ f, f ∈ fs ↔ f ∈ gs) (l : LLit) (b : List Int) : litHolds fs l b = litHolds gs l b := by
  unfold litHolds
  split
  · rfl
  · rw [factsHas_in, factsHas_in]
    congr 2
    exact decide_eq_decide.2 (h _)

/-- The specification's solutions are all that makes the literals hold. -/
theorem solsOf_is {fs gs : List LFact} {ls : List LLit} (h : SafeB ls) (hc : ∀ f ∈ gs, f.2.all constOk = true) (hn : gs.Nodup) (hm : ∀ f, f ∈ gs ↔ f ∈ fs) : UpB (solsOf gs ls) ∧ IsSols (questL fs ls) (solsOf gs ls) := by
  obtain ⟨h1, h2⟩ := triedTo_is gs (restTo ls ls.length) (bindsTo gs ls ls.length) _ (Nat.le_refl _)
  obtain ⟨K, Q, hK, hS, hQ, hv⟩ := bindsTo_sols hc hn h.terms ls.length (Nat.le_refl _)
  rw [List.take_length] at hv
  refine ⟨h1, h1.nodup, fun b => ?_⟩
  unfold solsOf
  rw [h2, List.take_length, hS.mem b, and_assoc, and_assoc]
  have hKb : ∀ v, v < 4 → (K.testBit v = true ↔ ∃ q ∈ questL fs ls, (maskOf q.1.2.2).testBit v = true) := fun v hv4 => by
    rw [hv v hv4]
    constructor
    · rintro ⟨l, hl, _, hb⟩
      exact ⟨(l, fs), List.mem_map.2 ⟨l, hl, rfl⟩, hb⟩
    · rintro ⟨q, hq, hb⟩
      obtain ⟨l, hl, rfl⟩ := List.mem_map.1 hq
      exact h.safe l hl v hv4 hb
  refine and_congr_right fun _ => and_congr ?_ ?_
  · exact ⟨fun hd v hv => (hd v hv).trans (hKb v hv), fun hd v hv => (hd v hv).trans (hKb v hv).symm⟩
  · constructor
    · rintro ⟨hq, hr⟩ q hq'
      obtain ⟨l, hl, rfl⟩ := List.mem_map.1 hq'
      show litHolds fs l b = true
      rw [← litHolds_same hm]
      by_cases e : l.1 = 0
      · exact hq (l, gs) ((hQ _).2 ⟨rfl, e, by rw [List.take_length]; exact hl⟩)
      · refine List.all_eq_true.1 hr l ?_
        unfold restTo
        rw [List.take_length]
        exact List.mem_filter.2 ⟨hl, by simpa using e⟩
    · intro hq
      refine ⟨fun q hq' => ?_, List.all_eq_true.2 fun l hl => ?_⟩
      · obtain ⟨e1, e2, e3⟩ := (hQ q).1 hq'
        rw [List.take_length] at e3
        have := hq (q.1, fs) (List.mem_map.2 ⟨q.1, e3, rfl⟩)
        unfold holdsQ at this ⊢
        rw [e1, litHolds_same hm]
        exact this
      · unfold restTo at hl
        rw [List.take_length] at hl
        have := hq (l, fs) (List.mem_map.2 ⟨l, (List.mem_filter.1 hl).1, rfl⟩)
        rw [litHolds_same hm]
        exact this

/-- The words have the order of the lists. -/
theorem cmp_enc {x y : List Int} (hx : bindOk x = true) (hy : bindOk y = true) (h : encB x < encB y) : cmpL x y < 0 := by
  obtain ⟨a, b, c, d, rfl⟩ := list4 (bindOk_len hx)
  obtain ⟨a', b', c', d', rfl⟩ := list4 (bindOk_len hy)
  have h0 := bindOk_at hx (k := 0) (by simp)
  have h1 := bindOk_at hx (k := 1) (by simp)
  have h2 := bindOk_at hx (k := 2) (by simp)
  have h3 := bindOk_at hx (k := 3) (by simp)
  have g0 := bindOk_at hy (k := 0) (by simp)
  have g1 := bindOk_at hy (k := 1) (by simp)
  have g2 := bindOk_at hy (k := 2) (by simp)
  have g3 := bindOk_at hy (k := 3) (by simp)
  simp only [List.getElem_cons_zero, List.getElem_cons_succ] at h0 h1 h2 h3 g0 g1 g2 g3
  simp only [encB, List.getD_cons_zero, List.getD_cons_succ] at h
  simp only [cmpL]
  by_cases e0 : a = a'
  · rw [if_pos e0]
    by_cases e1 : b = b'
    · rw [if_pos e1]
      by_cases e2 : c = c'
      · rw [if_pos e2]
        by_cases e3 : d = d'
        · omega
        · rw [if_neg e3, cmpI_neg]; omega
      · rw [if_neg e2, cmpI_neg]; omega
    · rw [if_neg e1, cmpI_neg]; omega
  · rw [if_neg e0, cmpI_neg]; omega
theorem IsSols.ok {qs : List LQ} {S : List (List Int)} (h : IsSols qs S) : ∀ b ∈ S, bindOk b = true := fun b hb => ((h.2 b).1 hb).1
theorem IsSols.up {qs : List LQ} {S S' : List (List Int)} (h : IsSols qs S) (hp : S'.Perm S) (hu : UpW S') : UpB S' ∧ IsSols qs S' := by
  have hn : S'.Nodup := hp.nodup_iff.2 h.1
  have hok : ∀ b ∈ S', bindOk b = true := fun b hb => h.ok b (hp.mem_iff.1 hb)
  refine ⟨?_, hn, fun b => by rw [hp.mem_iff, h.2 b]⟩
  refine List.Pairwise.imp_of_mem (fun {x y} hx hy hh => ?_) (hu.and hn)
  refine cmp_enc (hok x hx) (hok y hy) ?_
  rcases Nat.lt_or_ge (encB x) (encB y) with h1 | h1
  · exact h1
  · exact absurd (encB_inj (hok x hx) (hok y hy) (Nat.le_antisymm hh.1 h1)) hh.2

/-- The solutions of a body in facts. -/
def solsL (fs : List LFact) (ls : List LLit) : List (List Int) := if bodySafe ls && constsL fs then solsOf (setOf fs) ls else []
theorem asc_nodup {fs : List LFact} (h : Asc fs) : fs.Nodup := h.imp fun h e => by
  subst e
  rw [order_refl] at h
  omega
theorem solsL_is {fs : List LFact} {ls : List LLit} (h : bodySafe ls = true) (hc : constsL fs = true) {S : List (List Int)} (hu : UpB S) (hs : IsSols (questL fs ls) S) : S = solsL fs ls := by
  have hc' := consts_of hc
  obtain ⟨h1, h2⟩ := solsOf_is (fs := fs) (gs := setOf fs) (SafeB.of h) (fun f hf => hc' f ((setOf_mem fs f).1 hf)) (asc_nodup (setOf_asc fs)) (setOf_mem fs)
  unfold solsL
  rw [h, hc]
  show S = solsOf (setOf fs) ls
  exact hu.unique h1 fun b => by rw [hs.2 b, h2.2 b]

end Go.Proofs.YtokmmloakahkhaaGreat
/-
  Rows of slices of integers: one that is read, one of the call's own; the relation of a loop that collects them.
-/
namespace Go.Proofs.YtokmmloakahkhaaGreat
open Go.RowKit

theorem Tryz.infoIntS : (Tryz.prog.info? 31).map (fun i => (i.zero, i.size, i.bytes)) = some (some (.slice none 0 0), 1, 24) := by kernel_rfl

/-- A row of slices of integers that is read. -/
def RdRows (w : World) (B : Nat) (v : Value) (xss : List (List Int)) : Prop :=
  ∃ A c, v = .slice A xss.length c ∧ xss.length ≤ c ∧ (0 < xss.length → ∃ b o, A = some ⟨b, o, none⟩ ∧ b < B ∧ ∀ k (h : k < xss.length), ∃ u, w.cell? ⟨b, o + k, none⟩ = some u ∧ RdInts w B u xss[k])
/-- A row of slices of integers in blocks from lo on and below hi; weak: two of them may share a block. -/
def WkRows (w : World) (lo hi : Nat) (v : Value) (xss : List (List Int)) : Prop :=
  ∃ av : List Value, (av.length = xss.length ∧ ∀ i (h : i < xss.length) (h' : i < av.length), OwnInts w lo hi av[i] xss[i]) ∧ w.ownsRow lo 31 1 v xss.length av ∧ ∀ g, v.ownBlock = some g → g < hi
/-- And no two share one. -/
def OwnRows (w : World) (lo hi : Nat) (v : Value) (xss : List (List Int)) : Prop :=
  ∃ av, OwnArgs w lo hi av xss ∧ w.ownsRow lo 31 1 v xss.length av ∧ ∀ g, v.ownBlock = some g → g < hi

section
variable {w w' : World} {lo hi lo' hi' B B' : Nat} {v : Value} {xss : List (List Int)}
theorem RdRows.below (h : RdRows w B v xss) (hb : Below B' w w') (hB : B ≤ B') : RdRows w' B v xss := by
  obtain ⟨A, c, rfl, hc, h⟩ := h
  refine ⟨A, c, rfl, hc, fun hn => ?_⟩
  obtain ⟨b, o, rfl, hlt, hk⟩ := h hn
  refine ⟨b, o, rfl, hlt, fun k hkl => ?_⟩
  obtain ⟨u, h1, h2⟩ := hk k hkl
  exact ⟨u, (hb.cell (p := ⟨b, o + k, none⟩) (by show b < B'; omega)).trans h1, h2.below hb hB⟩
theorem RdRows.more (h : RdRows w B v xss) (hB : B ≤ B') : RdRows w B' v xss := by
  obtain ⟨A, c, rfl, hc, h⟩ := h
  refine ⟨A, c, rfl, hc, fun hn => ?_⟩
  obtain ⟨b, o, rfl, hlt, hk⟩ := h hn
  refine ⟨b, o, rfl, by omega, fun k hkl => ?_⟩
  obtain ⟨u, h1, h2⟩ := hk k hkl
  exact ⟨u, h1, h2.more hB⟩
theorem RdRows.on (h : RdRows w w.heap.size v xss) (hb : Below w.heap.size w w') : RdRows w' w'.heap.size v xss := (h.below hb (Nat.le_refl _)).more hb.size
theorem RdRows.get {A : Option Addr} {c : Nat} (h : RdRows w B (.slice A xss.length c) xss) {k : Nat} (hk : k < xss.length) :
    ∃ b o A2 c2, A = some ⟨b, o, none⟩ ∧ b < B ∧ w.cell? ⟨b, o + k, none⟩ = some (.slice A2 xss[k].length c2) ∧ RdInts w B (.slice A2 xss[k].length c2) xss[k] := by
  obtain ⟨A', c', e, _, h⟩ := h
  injection e with e1 _ _
  subst e1
  obtain ⟨b, o, rfl, hb, hx⟩ := h (by omega)
  obtain ⟨u, h1, h2⟩ := hx k hk
  have h3 := h2
  obtain ⟨A2, c2, rfl, _⟩ := h2
  exact ⟨b, o, A2, c2, rfl, hb, h1, h3⟩
theorem OwnRows.weak (h : OwnRows w lo hi v xss) : WkRows w lo hi v xss := by
  obtain ⟨av, h1, h2, h3⟩ := h
  exact ⟨av, ⟨h1.len, h1.own⟩, h2, h3⟩
theorem WkRows.form (h : WkRows w lo hi v xss) : ∃ A c, v = .slice A xss.length c := by
  obtain ⟨_, _, h, _⟩ := h
  rcases h.2 with ⟨rfl, h0⟩ | ⟨g, cap, _, rfl, _⟩
  · exact ⟨none, 0, by rw [h0]⟩
  · exact ⟨_, _, rfl⟩
theorem WkRows.below (h : WkRows w lo hi v xss) (hb : Below B w w') (hB : hi ≤ B) : WkRows w' lo hi v xss := by
  obtain ⟨av, ⟨h0, h1⟩, h2, h3⟩ := h
  exact ⟨av, ⟨h0, fun i a b => (h1 i a b).below hb hB⟩, ownsRow_below h2 h3 hb hB, h3⟩
theorem WkRows.mono (h : WkRows w lo hi v xss) (h1 : lo' ≤ lo) (h2 : hi ≤ hi') : WkRows w lo' hi' v xss := by
  obtain ⟨av, ⟨h0, ha⟩, hr, hlt⟩ := h
  exact ⟨av, ⟨h0, fun i a b => (ha i a b).mono h1 h2⟩, ownsRow_mono hr h1, fun g hg => by have := hlt g hg; omega⟩
theorem WkRows.only (h : WkRows w lo hi v xss) (ho : Only lo' hi' w w') (hd : hi ≤ lo' ∨ hi' ≤ lo) : WkRows w' lo hi v xss := by
  obtain ⟨av, ⟨h0, ha⟩, hr, hlt⟩ := h
  exact ⟨av, ⟨h0, fun i a b => (ha i a b).only ho hd⟩, ownsRow_only hr fun g hg => ho.block g (hr.lt g hg).2 (by have := hr.lt g hg; have := hlt g hg; omega), hlt⟩
theorem WkRows.rd (h : WkRows w lo hi v xss) : RdRows w hi v xss := by
  obtain ⟨av, ⟨h0, ha⟩, hr, hlt⟩ := h
  have hcells := @World.ownsRow.cells w lo 31 1 v xss.length av hr
  obtain ⟨hlen, hr⟩ := hr
  rcases hr with ⟨rfl, e0⟩ | ⟨g, cap, cur, rfl, hb, hg, hn, hm, hs, ht⟩
  · have : xss = [] := List.eq_nil_of_length_eq_zero e0
    subst this
    exact ⟨none, 0, rfl, by simp, fun h => absurd h (by simp)⟩
  · refine ⟨_, cap, rfl, hn, fun _ => ⟨g, 0, rfl, hlt g rfl, fun k hk => ⟨av[k]'(by omega), ?_, (ha k hk (by omega)).rd⟩⟩⟩
    have := hcells (g := g) rfl k (av[k]'(by omega)) (by simp [show k < av.length by omega])
    rwa [Go.WideShapes.add_plain] at this
theorem OwnRows.below (h : OwnRows w lo hi v xss) (hb : Below B w w') (hB : hi ≤ B) : OwnRows w' lo hi v xss := by
  obtain ⟨av, h1, h2, h3⟩ := h
  exact ⟨av, h1.below hb hB, ownsRow_below h2 h3 hb hB, h3⟩
theorem OwnRows.mono (h : OwnRows w lo hi v xss) (h1 : lo' ≤ lo) (h2 : hi ≤ hi') : OwnRows w lo' hi' v xss := by
  obtain ⟨av, ha, hr, hlt⟩ := h
  exact ⟨av, ha.mono h1 h2, ownsRow_mono hr h1, fun g hg => by have := hlt g hg; omega⟩
theorem OwnRows.only (h : OwnRows w lo hi v xss) (ho : Only lo' hi' w w') (hd : hi ≤ lo' ∨ hi' ≤ lo) : OwnRows w' lo hi v xss := by
  obtain ⟨av, ha, hr, hlt⟩ := h
  exact ⟨av, ⟨ha.len, fun i a b => (ha.own i a b).only ho hd, ha.apart⟩, ownsRow_only hr fun g hg => ho.block g (hr.lt g hg).2 (by have := hr.lt g hg; have := hlt g hg; omega), hlt⟩
theorem OwnRows.rd (h : OwnRows w lo hi v xss) : RdRows w hi v xss := h.weak.rd
theorem OwnRows.form (h : OwnRows w lo hi v xss) : ∃ A c, v = .slice A xss.length c := h.weak.form
end

/-- The block of a row of integers is no block of a row of slices. -/
theorem rowsI_ne {w : World} {lo hi lo' g : Nat} {n : Nat} {v a : Value} {zs : List Value} {xs : List Int} (hr : w.ownsRow lo' 31 1 v n zs) (hv : v.ownBlock = some g) (ha : OwnInts w lo hi a xs) : a.ownBlock ≠ some g := by
  rcases hr.2 with ⟨rfl, _⟩ | ⟨g1, c1, cur1, rfl, _, h1, _⟩
  · cases hv
  · have e : g1 = g := by simpa [Value.ownBlock] using hv
    subst e
    exact blk_ne_row ha.1 (show Blk w g1 31 cur1 from h1) (by decide)

theorem WkRows.get {w : World} {lo hi c : Nat} {A : Option Addr} {xss : List (List Int)} (h : WkRows w lo hi (.slice A xss.length c) xss) {k : Nat} (hk : k < xss.length) :
    ∃ g A2 c2, A = some ⟨g, 0, none⟩ ∧ g < w.heap.size ∧ w.cell? ⟨g, k, none⟩ = some (.slice A2 xss[k].length c2) ∧ OwnInts w lo hi (.slice A2 xss[k].length c2) xss[k] := by
  obtain ⟨av, ⟨h0, ha⟩, hr, hlt⟩ := h
  have hcells := @World.ownsRow.cells w lo 31 1 _ xss.length av hr
  obtain ⟨hlen, hr2⟩ := hr
  rcases hr2 with ⟨e, e0⟩ | ⟨g, cap, cur, e, hb, hg, _⟩
  · omega
  · injection e with e1 _ _
    subst e1
    have h1 := ha k hk (by omega)
    obtain ⟨A2, c2, e2⟩ := h1.form
    have := hcells (g := g) rfl k (av[k]'(by omega)) (by simp [show k < av.length by omega])
    rw [Go.WideShapes.add_plain, Nat.zero_add, e2] at this
    exact ⟨g, A2, c2, rfl, Blk.lt hg, this, e2 ▸ h1⟩

/-- The relation of a loop that collects slices of integers: these lie from lo on, the row is new. -/
structure ColS (lo : Nat) (w wr : World) (xss : List (List Int)) (A : Option Addr) (c : Nat) (av : List Value) : Prop where
  below : Below w.heap.size w wr
  len : av.length = xss.length
  inn : ∀ i (h : i < xss.length) (h' : i < av.length), OwnInts wr lo wr.heap.size av[i] xss[i]
  row : wr.ownsRow w.heap.size 31 1 (.slice A xss.length c) xss.length av
theorem ColS.empty {lo : Nat} {w wr : World} (hb : Below w.heap.size w wr) : ColS lo w (wr.alloc (.cells #[] 31)) [] (some ⟨wr.heap.size, 0, none⟩) 0 [] :=
  ⟨hb.alloc hb.size _, rfl, fun i h => absurd h (by simp), World.ownsRow_made wr #[] 0 hb.size (by decide) rfl⟩
theorem ColS.on {lo : Nat} {w wr w2 : World} {xss : List (List Int)} {A : Option Addr} {c : Nat} {av : List Value} (h : ColS lo w wr xss A c av) (hb : Below wr.heap.size wr w2) : ColS lo w w2 xss A c av :=
  ⟨bthen h.below hb, h.len, fun i a b => ((h.inn i a b).below hb (Nat.le_refl _)).mono (Nat.le_refl _) hb.size, ownsRow_below h.row (fun g hg => (h.row.lt g hg).2) hb (Nat.le_refl _)⟩
theorem ColS.rows {lo : Nat} {w wr : World} {xss : List (List Int)} {A : Option Addr} {c : Nat} {av : List Value} (h : ColS lo w wr xss A c av) (hl : lo ≤ w.heap.size) : WkRows wr lo wr.heap.size (.slice A xss.length c) xss :=
  ⟨av, ⟨h.len, h.inn⟩, ownsRow_mono h.row hl, fun g hg => (h.row.lt g hg).2⟩
theorem ColS.push {lo : Nat} {w wr w2 w4 : World} {xss xss' : List (List Int)} {A : Option Addr} {c g cap : Nat} {xs : List Int} {u : Value} {o : Obj} {av : List Value} (h : ColS lo w wr xss A c av) (e : xss' = xss ++ [xs]) (hb : Below wr.heap.size wr w2) (hu : OwnInts w2 lo w2.heap.size u xs)
    (hg : (w2.alloc o).grownBy w4 (Value.slice A xss.length c).ownBlock) (hown : w4.ownsRow w.heap.size 31 1 (.slice (some ⟨g, 0, none⟩) (xss.length + 1) cap) (xss.length + 1) (av ++ [u])) :
    ColS lo w w4 xss' (some ⟨g, 0, none⟩) cap (av ++ [u]) ∧ xss.length + 1 = xss'.length := by
  subst e
  have h2 := h.on hb
  have hg' := grown_from_alloc hg
  have hl : (xss ++ [xs]).length = xss.length + 1 := by simp
  refine ⟨⟨(h2.below.alloc h2.below.size _).grown hg (by have := h2.below.size; simp; omega) (fun k hk => (h2.row.lt k hk).1), by simp [h.len], fun i h1 h3 => ?_, by rw [hl]; exact hown⟩, hl.symm⟩
  have keep : ∀ {a : Value} {ys : List Int}, OwnInts w2 lo w2.heap.size a ys → OwnInts w4 lo w4.heap.size a ys := fun {a ys} h0 =>
    (h0.kept fun b hbk => hg'.block b (h0.lt hbk).2.2 (fun e => rowsI_ne h2.row e.symm h0 hbk)).mono (Nat.le_refl _) hg'.size
  by_cases e : i < xss.length
  · rw [List.getElem_append_left (by rw [h.len]; exact e), List.getElem_append_left e]
    exact keep (h2.inn i e (by rw [h.len]; exact e))
  · have e2 : i = xss.length := by simp at h1; omega
    subst e2
    have := h.len
    simp [← this]
    exact keep hu

end Go.Proofs.YtokmmloakahkhaaGreat
/-
  Both Holds: literals that an atom holds, or does not.
-/
namespace Go.Proofs.YtokmmloakahkhaaGreat
open Go.RowKit

theorem l1In_is {n lo hi : Int} {b : Bool} (h : decide (lo ≤ n ∧ n ≤ hi) = b) (w : World) : Calls Tryz.prog 50 #[.int .i64 n, .int .i64 lo, .int .i64 hi] w fun e w' => e = .returned (.bool b) ∧ w = w' := h ▸ l1In_any n lo hi w

set_option maxHeartbeats 2000000 in
set_option maxRecDepth 100000 in
theorem l3HoldsAsk_any (v0 v v3 : Value) (fs : List LFact) (l : LLit) (bs : List Int) (w : World) (hkd : ¬ (l.1 = 2 ∨ l.1 = 3)) (h1 : RdFacts w w.heap.size v0 fs) (h2 : RdLit w w.heap.size v l) (h3 : RdInts w w.heap.size v3 bs)
    (hn : fs.length ≤ 1048576) (htt : tot fs ≤ 1048576) (hr : l.2.2.length ≤ 1048576) (hr2 : bs.length ≤ 1048576) :
    Calls Tryz.prog 99 #[v0, v, v3] w fun e w' => e = .returned (.bool ((headOk l.2 bs && decide (0 ≤ l.1 ∧ l.1 ≤ 1)) && (factsHas fs (headOf l.2 bs) == decide (l.1 = 0)))) ∧ Below w.heap.size w w' := by
  obtain ⟨kd, a⟩ := l
  obtain ⟨u, rfl, h2⟩ := h2
  have H1 := Lib.hid h1
  have H2 := Lib.hid h2
  have H3 := Lib.hid h3
  obtain ⟨A1, c1, rfl, hc1, _⟩ := h1
  obtain ⟨A, c, rfl, hc, _⟩ := h2
  obtain ⟨A3, c3, rfl, hc3, _⟩ := h3
  simp only at hkd hc hr
  obtain ⟨F, hF⟩ : ∃ F, F = headOf a bs := ⟨_, rfl⟩
  obtain ⟨ok, hok⟩ : ∃ ok, ok = headOk a bs := ⟨_, rfl⟩
  obtain ⟨hs, hhs⟩ : ∃ hs, hs = factsHas fs F := ⟨_, rfl⟩
  obtain ⟨R, hR⟩ : ∃ R, R = ((ok && decide (0 ≤ kd ∧ kd ≤ 1)) && (hs == decide (kd = 0))) := ⟨_, rfl⟩
  show Calls _ _ _ _ fun e w' => e = .returned (.bool ((headOk a bs && decide (0 ≤ kd ∧ kd ≤ 1)) && (factsHas fs (headOf a bs) == decide (kd = 0)))) ∧ _
  rw [← hF, ← hok, ← hhs, ← hR]
  have HR := Lib.hid hR
  have HF := Lib.hid (And.intro hF hok)
  have HFL := Lib.hid (show F.2.length ≤ 1048576 by have := headOf_length a bs; rw [hF]; omega)
  have HH := Lib.hid hhs
  clear hR hF hok hhs
  have k2 : (kd == 2) = false := by have h : kd ≠ 2 := fun e => hkd (.inl e); simpa using h
  have k3 : (kd == 3) = false := by have h : kd ≠ 3 := fun e => hkd (.inr e); simpa using h
  have y0 := Blk.new w 35 #[.int .i64 kd, .int .i64 a.1, .slice A a.2.length c]
  have q0 := y0.cell 0
  have q1 := y0.cell 1
  have q2 := y0.cell 2
  go_enter Tryz.func99, Tryz.ntmps99
  go_wp2_with (fail)
  obtain ⟨w1, hw1⟩ : ∃ w1, w1 = w.alloc (Obj.cells #[Value.int IntKind.i64 kd, Value.int IntKind.i64 a.1, Value.slice A a.2.length c] 35) := ⟨_, rfl⟩
  have B1 : Below w.heap.size w w1 := by rw [hw1]; exact below1 _ _
  rw [← hw1] at y0 ⊢
  clear hw1 q0 q1 q2
  refine (specHeadOf_any _ _ a bs _ ⟨_, rfl, H2.out.on B1⟩ (H3.out.on B1) hr hr2).mono ?_
  rw [← HF.out.1, ← HF.out.2]
  rintro e w2 ⟨A', c', rfl, ho, hb2⟩
  have B2 := bthen B1 hb2
  have y2 := y0.below hb2 y0.lt
  have HO := Lib.hid ho
  clear ho y0
  go_wp2_with (fail)
  obtain ⟨w3, hw3⟩ : ∃ w3, w3 = w2.alloc (Obj.cells #[Value.int IntKind.i64 F.1, Value.slice A' F.2.length c'] 42) := ⟨_, rfl⟩
  have B23 : Below w2.heap.size w2 w3 := by rw [hw3]; exact below1 _ _
  have f3 : Blk w3 w2.heap.size 42 #[.int .i64 F.1, .slice A' F.2.length c'] := by rw [hw3]; exact Blk.new _ _ _
  rw [← hw3]
  clear hw3
  have y3 := y2.below B23 y2.lt
  have B3 := bthen B2 B23
  have RF := Lib.hid (show RdFact w3 w3.heap.size (.agg #[.int .i64 F.1, .slice A' F.2.length c']) F from ⟨_, rfl, HO.out.rd.on B23⟩)
  have L0 := later_cell (y3.cell 0 : w3.cell? ⟨w.heap.size, 0, none⟩ = some (.int .i64 kd))
  have L1 := later_cell (f3.cell 0 : w3.cell? ⟨w2.heap.size, 0, none⟩ = some (.int .i64 F.1))
  have L2 := later_cell (f3.cell 1 : w3.cell? ⟨w2.heap.size, 1, none⟩ = some (.slice A' F.2.length c'))
  have CF := Lib.hid (fun x : Later w3 => (specFactsHas_any _ _ fs F x.val ((H1.out.on B3).on x.2) (RF.out.on x.2) hn htt HFL.out))
  rw [← HH.out] at CF
  clear y2 y3 f3
  cases ok
  · have HE := Lib.hid (show R = false by rw [HR.out]; rfl)
    refine wp_region_later (by kernel_rfl) (by kernel_rfl) ?_
    repeat (go_big_quiet_step (fail))
    refine wpQuiet_nil ?_
    rintro _ ⟨xq, rfl⟩
    go_wp2_with (fail)
    go_ret
    exact ⟨ret_bool HE.out.symm, bthen B3 xq.2⟩
  · by_cases hin : 0 ≤ kd ∧ kd ≤ 1
    · have CI := Lib.hid (fun W => l1In_yes hin W)
      have HD := Lib.hid (show R = (hs == decide (kd = 0)) by rw [HR.out, decide_eq_true hin]; rfl)
      by_cases h0 : kd = 0
      · have k0 : (kd == 0) = true := by simpa using h0
        have HE := Lib.hid (show R = (hs == true) by rw [HD.out, decide_eq_true h0])
        clear h0 hin
        cases hs
        all_goals
          refine wp_region_later (by kernel_rfl) (by kernel_rfl) ?_
          repeat (go_big_quiet_step (first | (go_at_call 50; exact later_same (CI.out _)) | (go_at_call 140; exact later_of (CF.out _))))
          refine wpQuiet_nil ?_
          rintro _ ⟨xq, rfl⟩
          go_wp2_with (fail)
          go_ret
          exact ⟨ret_bool (by rw [HE.out]; rfl), bthen B3 xq.2⟩
      · have k0 : (kd == 0) = false := by simpa using h0
        have HE := Lib.hid (show R = (hs == false) by rw [HD.out, decide_eq_false h0])
        clear h0 hin
        cases hs
        all_goals
          refine wp_region_later (by kernel_rfl) (by kernel_rfl) ?_
          repeat (go_big_quiet_step (first | (go_at_call 50; exact later_same (CI.out _)) | (go_at_call 140; exact later_of (CF.out _))))
          refine wpQuiet_nil ?_
          rintro _ ⟨xq, rfl⟩
          go_wp2_with (fail)
          go_ret
          exact ⟨ret_bool (by rw [HE.out]; rfl), bthen B3 xq.2⟩
    · have CI := Lib.hid (fun W => l1In_no hin W)
      have HE := Lib.hid (show R = false by rw [HR.out, decide_eq_false hin]; rfl)
      clear hin
      refine wp_region_later (by kernel_rfl) (by kernel_rfl) ?_
      repeat (go_big_quiet_step (first | (go_at_call 50; exact later_same (CI.out _))))
      refine wpQuiet_nil ?_
      rintro _ ⟨xq, rfl⟩
      go_wp2_with (fail)
      go_ret
      exact ⟨ret_bool HE.out.symm, bthen B3 xq.2⟩

theorem l3Holds_any (v0 v v3 : Value) (fs : List LFact) (l : LLit) (bs : List Int) (w : World) (h1 : RdFacts w w.heap.size v0 fs) (h2 : RdLit w w.heap.size v l) (h3 : RdInts w w.heap.size v3 bs)
    (hb : bs.length = 4) (ht : l.2.2.all termOk = true) (hn : fs.length ≤ 1048576) (htt : tot fs ≤ 1048576) (hr : l.2.2.length ≤ 1048576) :
    Calls Tryz.prog 99 #[v0, v, v3] w fun e w' => e = .returned (.bool (litHolds fs l bs)) ∧ Below w.heap.size w w' := by
  by_cases h : l.1 = 2 ∨ l.1 = 3
  · have := l3HoldsCmp_any v v3 l bs v0 w h h2 h3 hb ht
    unfold litHolds
    rw [if_pos h]
    exact this
  · have := l3HoldsAsk_any v0 v v3 fs l bs w h h1 h2 h3 hn htt hr (by omega)
    unfold litHolds
    rw [if_neg h]
    exact this

set_option maxHeartbeats 2000000 in
set_option maxRecDepth 100000 in
theorem implHolds_any (v0 v v3 : Value) (fs : List LFact) (l : LLit) (bs : List Int) (w : World) (h1 : RdFacts w w.heap.size v0 fs) (h2 : RdLit w w.heap.size v l) (h3 : RdInts w w.heap.size v3 bs)
    (hn : fs.length ≤ 1048576) (htt : tot fs ≤ 1048576) (hr : l.2.2.length ≤ 1048576) (hr2 : bs.length ≤ 1048576) :
    Calls Tryz.prog 13 #[v0, v, v3] w fun e w' => e = .returned (.bool (holdsB fs l bs)) ∧ Below w.heap.size w w' := by
  obtain ⟨kd, a⟩ := l
  obtain ⟨u, rfl, h2⟩ := h2
  have H1 := Lib.hid h1
  have H2 := Lib.hid h2
  have H3 := Lib.hid h3
  obtain ⟨A1, c1, rfl, hc1, _⟩ := h1
  obtain ⟨A, c, rfl, hc, _⟩ := h2
  obtain ⟨A3, c3, rfl, hc3, _⟩ := h3
  simp only at hc hr
  obtain ⟨R, hR⟩ : ∃ R, R = holdsB fs (kd, a) bs := ⟨_, rfl⟩
  rw [← hR]
  have HR := Lib.hid hR
  clear hR
  have y0 := Blk.new w 35 #[.int .i64 kd, .int .i64 a.1, .slice A a.2.length c]
  have q0 := y0.cell 0
  have q1 := y0.cell 1
  have q2 := y0.cell 2
  have HW := Lib.hid (show ∀ W1, W1 = w.alloc (Obj.cells #[Value.int IntKind.i64 kd, Value.int IntKind.i64 a.1, Value.slice A a.2.length c] 35) → Below w.heap.size w W1 ∧ Blk W1 w.heap.size 35 #[.int .i64 kd, .int .i64 a.1, .slice A a.2.length c] from fun W1 e => ⟨by rw [e]; exact below1 _ _, by rw [e]; exact y0⟩)
  by_cases hk : kd = 0 ∨ kd = 1
  · -- an atom that holds, or does not
    have HHd := Lib.hid (show headOk a bs = true → bindOk bs = true ∧ a.2.all termOk = true from fun e => by
      unfold headOk at e
      simp only [Bool.and_eq_true] at e
      exact e.1)
    obtain ⟨F, hF⟩ : ∃ F, F = headOf a bs := ⟨_, rfl⟩
    obtain ⟨ok, hok⟩ : ∃ ok, ok = headOk a bs := ⟨_, rfl⟩
    obtain ⟨hs, hhs⟩ : ∃ hs, hs = factsHas fs F := ⟨_, rfl⟩
    have HD := Lib.hid (show R = (ok && (hs == decide (kd = 0))) by
      rw [HR.out, hhs, hF, hok]
      show (bindOk bs && a.2.all termOk && litHolds fs (kd, a) bs) = _
      unfold litHolds
      rw [if_neg (show ¬ ((kd, a).1 = 2 ∨ (kd, a).1 = 3) by show ¬ (kd = 2 ∨ kd = 3); omega), decide_eq_true (show 0 ≤ (kd, a).1 ∧ (kd, a).1 ≤ 1 by show 0 ≤ kd ∧ kd ≤ 1; omega)]
      show (bindOk bs && a.2.all termOk && (headOk a bs && true && (factsHas fs (headOf a bs) == decide (kd = 0)))) = _
      rw [Bool.and_true]
      cases he : headOk a bs with
      | false => simp
      | true =>
        obtain ⟨e1, e2⟩ := HHd.out he
        rw [e1, e2]
        rfl)
    have HF := Lib.hid (And.intro hF hok)
    have HFL := Lib.hid (show F.2.length ≤ 1048576 by have := headOf_length a bs; rw [hF]; omega)
    have HH := Lib.hid hhs
    clear hF hok hhs
    have k01 : ((kd == 0) = true ∧ decide (kd = 0) = true) ∨ ((kd == 0) = false ∧ (kd == 1) = true ∧ decide (kd = 0) = false) := by
      rcases hk with rfl | rfl
      · exact .inl ⟨rfl, rfl⟩
      · exact .inr ⟨rfl, rfl, rfl⟩
    clear hk
    rcases k01 with ⟨k0, kq⟩ | ⟨k0, k1, kq⟩
    all_goals
      have HKQ := Lib.hid kq
      clear kq
      go_enter Tryz.func13, Tryz.ntmps13
      go_wp2_with (fail)
      obtain ⟨w1, hw1⟩ : ∃ w1, w1 = w.alloc (Obj.cells #[Value.int IntKind.i64 kd, Value.int IntKind.i64 a.1, Value.slice A a.2.length c] 35) := ⟨_, rfl⟩
      obtain ⟨B1, y1⟩ := HW.out w1 hw1
      rw [← hw1]
      clear hw1 q0 q1 q2 y0
      refine (implHeadOf_any _ _ a bs _ ⟨_, rfl, H2.out.on B1⟩ (H3.out.on B1) hr hr2).mono ?_
      rw [← HF.out.1, ← HF.out.2]
      rintro e w2 ⟨A', c', rfl, ho, hb2⟩
      have B2 := bthen B1 hb2
      have y2 := y1.below hb2 y1.lt
      have HO := Lib.hid ho
      clear ho y1
      go_wp2_with (fail)
      obtain ⟨w3, hw3⟩ : ∃ w3, w3 = w2.alloc (Obj.cells #[Value.int IntKind.i64 F.1, Value.slice A' F.2.length c'] 42) := ⟨_, rfl⟩
      have B23 : Below w2.heap.size w2 w3 := by rw [hw3]; exact below1 _ _
      have f3 : Blk w3 w2.heap.size 42 #[.int .i64 F.1, .slice A' F.2.length c'] := by rw [hw3]; exact Blk.new _ _ _
      rw [← hw3]
      clear hw3
      have y3 := y2.below B23 y2.lt
      have B3 := bthen B2 B23
      have RF := Lib.hid (show RdFact w3 w3.heap.size (.agg #[.int .i64 F.1, .slice A' F.2.length c']) F from ⟨_, rfl, HO.out.rd.on B23⟩)
      have L0 := later_cell (y3.cell 0 : w3.cell? ⟨w.heap.size, 0, none⟩ = some (.int .i64 kd))
      have L1 := later_cell (f3.cell 0 : w3.cell? ⟨w2.heap.size, 0, none⟩ = some (.int .i64 F.1))
      have L2 := later_cell (f3.cell 1 : w3.cell? ⟨w2.heap.size, 1, none⟩ = some (.slice A' F.2.length c'))
      have CF := Lib.hid (fun x : Later w3 => (implFactsHas_any _ _ fs F x.val ((H1.out.on B3).on x.2) (RF.out.on x.2) hn htt HFL.out))
      rw [← HH.out] at CF
      clear y2 y3 f3
      cases ok
      · have HE := Lib.hid (show R = false by rw [HD.out]; rfl)
        refine wp_region_later (by kernel_rfl) (by kernel_rfl) ?_
        repeat (go_big_quiet_step (fail))
        refine wpQuiet_nil ?_
        rintro _ ⟨xq, rfl⟩
        go_wp2_with (fail)
        go_ret
        exact ⟨ret_bool HE.out.symm, bthen B3 xq.2⟩
      · have HE := Lib.hid (show R = (hs == decide (kd = 0)) by rw [HD.out]; rfl)
        rw [HKQ.out] at HE
        cases hs
        all_goals
          refine wp_region_later (by kernel_rfl) (by kernel_rfl) ?_
          repeat (go_big_quiet_step (first | (go_at_call 54; exact later_of (CF.out _))))
          refine wpQuiet_nil ?_
          rintro _ ⟨xq, rfl⟩
          go_wp2_with (fail)
          go_ret
          exact ⟨ret_bool (by rw [HE.out]; rfl), bthen B3 xq.2⟩
  · by_cases hk2 : kd = 2 ∨ kd = 3
    · -- two terms that are compared
      obtain ⟨V, hV⟩ : ∃ V, V = boundL a.2 bs := ⟨_, rfl⟩
      have HV := Lib.hid hV
      have hVl : V.length ≤ a.2.length := by rw [hV]; exact boundL_length _ _
      have HD := Lib.hid (show R = (decide (V.length = 2) && cmpB kd (V.getD 0 0) (V.getD 1 0)) by
        rw [HR.out, hV]
        show (bindOk bs && a.2.all termOk && litHolds fs (kd, a) bs) = _
        unfold litHolds
        rw [if_pos (show (kd, a).1 = 2 ∨ (kd, a).1 = 3 from hk2)]
        show (bindOk bs && a.2.all termOk && (decide (a.2.length = 2) && cmpB kd (termVal bs (a.2.getD 0 0)) (termVal bs (a.2.getD 1 0)))) = _
        unfold boundL
        cases he : (bindOk bs && a.2.all termOk) with
        | false => simp
        | true =>
          simp only [Bool.true_and, if_true, List.length_map]
          by_cases hl : a.2.length = 2
          · obtain ⟨s, t, e⟩ : ∃ s t, a.2 = [s, t] := by
              match a.2, hl with
              | [s, t], _ => exact ⟨s, t, rfl⟩
            rw [e]
            rfl
          · rw [decide_eq_false hl]
            rfl)
      have k0 : (kd == 0) = false := by simp; omega
      have k1 : (kd == 1) = false := by simp; omega
      have k23 : (kd == 2) = true ∨ ((kd == 2) = false ∧ (kd == 3) = true) := by
        rcases hk2 with rfl | rfl
        · exact .inl rfl
        · exact .inr ⟨rfl, rfl⟩
      have HK2 := Lib.hid hk2
      clear hV hk hk2
      rcases k23 with k2 | ⟨k2, k3⟩
      all_goals
        go_enter Tryz.func13, Tryz.ntmps13
        go_wp2_with (fail)
        obtain ⟨w1, hw1⟩ : ∃ w1, w1 = w.alloc (Obj.cells #[Value.int IntKind.i64 kd, Value.int IntKind.i64 a.1, Value.slice A a.2.length c] 35) := ⟨_, rfl⟩
        obtain ⟨B1, y1⟩ := HW.out w1 hw1
        rw [← hw1]
        clear hw1 q0 q1 q2 y0
        refine (implBound_any _ _ a.2 bs _ (H2.out.on B1) (H3.out.on B1) hr hr2).mono ?_
        rw [← HV.out]
        rintro e w2 ⟨A', c', rfl, ho, hb2⟩
        have B2 := bthen B1 hb2
        have y2 := y1.below hb2 y1.lt
        have L0 := later_cell (y2.cell 0 : w2.cell? ⟨w.heap.size, 0, none⟩ = some (.int .i64 kd))
        by_cases hl : V.length = 2
        · obtain ⟨s, t, rfl⟩ : ∃ s t, V = [s, t] := by
            match V, hl with
            | [s, t], _ => exact ⟨s, t, rfl⟩
          obtain ⟨g, rfl, _, _, _, hcc, _⟩ := ho.at_ (by simp)
          have L1 := later_cell (hcc 0 (by simp) : w2.cell? ⟨g, 0, none⟩ = some (.int .i64 s))
          have L2 := later_cell (hcc 1 (by simp) : w2.cell? ⟨g, 1, none⟩ = some (.int .i64 t))
          have CC := Lib.hid (fun W => comparison_any kd s t HK2.out W)
          have HE := Lib.hid (show R = cmpB kd s t by rw [HD.out]; rfl)
          generalize cmpB kd s t = T at CC HE
          clear y1 y2 ho hcc hl hVl
          go_wp2_with (fail)
          refine wp_region_later (by kernel_rfl) (by kernel_rfl) ?_
          repeat (go_big_quiet_step (first | (go_at_call 56; exact later_same (CC.out _))))
          refine wpQuiet_nil ?_
          rintro _ ⟨xq, rfl⟩
          go_wp2_with (fail)
          go_ret
          exact ⟨ret_bool HE.out.symm, bthen B2 xq.2⟩
        · have hl1 : ((V.length : Int) == 2) = false := by simp; omega
          have HE := Lib.hid (show R = false by rw [HD.out, decide_eq_false hl]; rfl)
          clear y1 y2 ho hl
          go_wp2_with (fail)
          refine wp_region_later (by kernel_rfl) (by kernel_rfl) ?_
          repeat (go_big_quiet_step (fail))
          refine wpQuiet_nil ?_
          rintro _ ⟨xq, rfl⟩
          go_wp2_with (fail)
          go_ret
          exact ⟨ret_bool HE.out.symm, bthen B2 xq.2⟩
    · -- no kind
      have HE := Lib.hid (show R = false by
        rw [HR.out]
        show (bindOk bs && a.2.all termOk && litHolds fs (kd, a) bs) = false
        unfold litHolds
        rw [if_neg (show ¬ ((kd, a).1 = 2 ∨ (kd, a).1 = 3) from hk2), decide_eq_false (show ¬ (0 ≤ (kd, a).1 ∧ (kd, a).1 ≤ 1) by show ¬ (0 ≤ kd ∧ kd ≤ 1); omega), Bool.and_false, Bool.false_and, Bool.and_false])
      have k0 : (kd == 0) = false := by simp; omega
      have k1 : (kd == 1) = false := by simp; omega
      have k2 : (kd == 2) = false := by simp; omega
      have k3 : (kd == 3) = false := by simp; omega
      clear hk hk2
      go_enter Tryz.func13, Tryz.ntmps13
      go_wp2_with (fail)
      go_ret
      exact ⟨ret_bool HE.out.symm, below1 _ _⟩

end Go.Proofs.YtokmmloakahkhaaGreat
/-
  The specification's l3Row, l3None, l3Try.
-/
namespace Go.Proofs.YtokmmloakahkhaaGreat
open Go.RowKit

set_option maxHeartbeats 1000000 in
set_option maxRecDepth 100000 in
theorem l3Row_any (v v2 : Value) (xs ys : List Int) (w : World) (h : RdInts w w.heap.size v xs) (h2 : RdInts w w.heap.size v2 ys) (hn : xs.length ≤ 1048576) (hn2 : ys.length ≤ 1048576) :
    Calls Tryz.prog 130 #[v, v2] w fun e w' => e = .returned (.int .i64 (cmpL xs ys)) ∧ Below w.heap.size w w' := by
  obtain ⟨A, c, rfl, hc, ha⟩ := h
  obtain ⟨A2, c2, rfl, hc2, hb⟩ := h2
  go_enter Tryz.func130, Tryz.ntmps130
  go_wp2_with (fail)
  go_loopw [5] (fun i wr => ∃ k : Nat, k ≤ xs.length ∧ k ≤ ys.length ∧ i = .int .i64 k ∧ CmpTo xs ys k ∧ Below w.heap.size w wr) (fun i _ => xs.length - (intOf i).toNat)
  case atStart => exact ⟨0, Nat.zero_le _, Nat.zero_le _, rfl, rfl, Below.refl _ _⟩
  case round =>
    obtain ⟨k, hk, hk2, rfl, hs, hbe⟩ := hrel
    by_cases hlt : k < xs.length
    · have hd : decide ((k : Int) < (xs.length : Int)) = true := by simp; omega
      by_cases hlt2 : k < ys.length
      · obtain ⟨b, o, rfl, hbB, hx⟩ := ha (by omega)
        obtain ⟨b2, o2, rfl, hbB2, hx2⟩ := hb (by omega)
        have hck : wr.cell? ⟨b, o + k, none⟩ = some (.int .i64 xs[k]) := (hbe.cell (p := ⟨b, o + k, none⟩) hbB).trans (hx k hlt)
        have hck2 : wr.cell? ⟨b2, o2 + k, none⟩ = some (.int .i64 ys[k]) := (hbe.cell (p := ⟨b2, o2 + k, none⟩) hbB2).trans (hx2 k hlt2)
        clear hx hx2 ha hb
        by_cases he : xs[k] = ys[k]
        · have HS := Lib.hid (show CmpTo xs ys (k + 1) by unfold CmpTo at hs ⊢; rw [hs, cmpL_at hlt hlt2, if_pos he])
          have h0 : (xs[k] != ys[k]) = false := by simp [he]
          clear he hs
          go_wp2_with (fail)
          go_quiet (fail)
          go_wp2_with (fail)
          go_roundw
          case rel => exact ⟨k + 1, by omega, by omega, by go_num, HS.out, bdrewN hbe _⟩
          case measure => simp [intOf]; omega
        · have HS := Lib.hid (show cmpL xs ys = cmpI xs[k] ys[k] by unfold CmpTo at hs; rw [hs, cmpL_at hlt hlt2, if_neg he])
          have h0 : (xs[k] != ys[k]) = true := by simp [he]
          clear he hs
          go_wp2_with (fail)
          go_quiet (fail)
          go_wp2_with (fail)
          go_quiet ((go_at_call 173; exact quiet_add_left (l1Way_any _ _ _)))
          go_wp2_with (fail)
          go_ret
          exact ⟨ret_int HS.out.symm, bdrewN (bdrewN hbe _) _⟩
      · have HS := Lib.hid (show cmpL xs ys = cmpI xs.length ys.length by
          unfold CmpTo at hs
          rw [hs, cmpL_long hlt (by omega), cmpI, if_neg (by omega), if_pos (by omega)])
        clear hs ha hb
        go_wp2_with (go_at_call 173; refine (l1Way_any _ _ _).mono ?_; rintro e w' ⟨rfl, rfl⟩)
        go_ret
        exact ⟨ret_int HS.out.symm, hbe⟩
    · have hd : decide ((k : Int) < (xs.length : Int)) = false := by simp; omega
      have HS := Lib.hid (show cmpL xs ys = cmpI xs.length ys.length by
        unfold CmpTo at hs
        by_cases h3 : xs.length < ys.length
        · rw [hs, cmpL_short (by omega) (by omega), cmpI, if_pos (by omega)]
        · rw [hs, cmpL_end (by omega) (by omega), cmpI, if_neg (by omega), if_neg (by omega)])
      clear hs ha hb
      go_wp2_with (go_at_call 173; refine (l1Way_any _ _ _).mono ?_; rintro e w' ⟨rfl, rfl⟩)
      go_ret
      exact ⟨ret_int HS.out.symm, hbe⟩

set_option maxHeartbeats 1000000 in
set_option maxRecDepth 100000 in
theorem l3None_any (w : World) :
    Calls Tryz.prog 86 #[] w fun e w' => ∃ A' c', e = .returned (.slice A' 4 c') ∧ OwnInts w' w.heap.size w'.heap.size (.slice A' 4 c') noneB ∧ Below w.heap.size w w' := by
  obtain ⟨i0, hi0, hz0, hz1, hz2⟩ := info_parts Tryz.infoInt
  have C0 := Lib.hid (ColI.empty (Below.refl w.heap.size w))
  go_enter Tryz.func86, Tryz.ntmps86
  go_wp2_with (fail)
  go_loopw [1, 2] (fun o i wr => ∃ (k : Nat) (A' : Option Addr) (c' : Nat), k ≤ 4 ∧ i = .int .i64 k ∧ o = .slice A' (List.replicate k (-1 : Int)).length c' ∧ ColI w wr (List.replicate k (-1)) A' c') (fun _ i _ => 4 - (intOf i).toNat)
  case atStart => exact ⟨0, _, 0, Nat.zero_le _, rfl, rfl, C0.out⟩
  case round =>
    obtain ⟨k, A', c', hk, rfl, rfl, hr'⟩ := hrel
    by_cases hlt : k < 4
    · have HS := Lib.hid (show List.replicate (k + 1) (-1 : Int) = List.replicate k (-1) ++ [-1] from List.replicate_succ')
      have HP := Lib.hid hr'
      clear hr'
      obtain ⟨zs, hzs⟩ : ∃ zs, zs = List.replicate k (-1 : Int) := ⟨_, rfl⟩
      have hln : zs.length ≤ 4 := by rw [hzs]; simp; omega
      have HZ := Lib.hid hzs
      rw [← hzs] at HP ⊢
      clear hzs
      go_wp2_with (at_builtin; refine wpList_append_lies _ rfl (.tmp 8) (.tmp 9) 31 rfl w.heap.size 3 i0 (.int .i64 0) 1 8 Tryz.underlying31 hi0 hz0 hz1 hz2 rfl (by decide) (.slice A' zs.length c') zs.length (zs.map (Value.int .i64)) rfl ?c1 ⟨_, 0, none⟩ 1 1 [.int .i64 (-1)] rfl rfl (news1s _ _ _ _ (by simp)) ?c2 (by omega) (by unfold maxLen; omega) (by omega) ?c3 _ rfl ?_)
      case c1 => exact HP.out.own.1.alloc _
      case c2 => first | rfl | (intro u hu; simp at hu; subst hu; rfl)
      case c3 => have := HP.out.below.size; simp; omega
      intro g cap w4 hown hg _ _
      have hcol := HP.out.push (Below.refl _ _) hg hown
      rw [HZ.out, ← HS.out] at hcol
      have hlen : zs.length + 1 = (List.replicate (k + 1) (-1 : Int)).length := by rw [HZ.out]; simp
      rw [hlen]
      have HC := Lib.hid hcol
      clear hcol hlen hown hg
      go_wp2_with (fail)
      go_roundw
      case rel => exact ⟨k + 1, _, _, by omega, by go_num, rfl, HC.out⟩
      case measure => simp [intOf]; omega
    · have hkn : k = 4 := by omega
      subst hkn
      have HP := Lib.hid hr'
      clear hr'
      go_wp2_with (fail)
      go_ret
      exact ⟨_, _, rfl, HP.out.own, HP.out.below⟩

set_option maxHeartbeats 1000000 in
set_option maxRecDepth 100000 in
theorem l3Try_any (v0 v v3 : Value) (fs : List LFact) (ls : List LLit) (bs : List Int) (R : Bool) (hR : R = ls.all fun l => litHolds fs l bs) (w : World) (h1 : RdFacts w w.heap.size v0 fs) (h2 : RdLits w w.heap.size v ls) (h3 : RdInts w w.heap.size v3 bs)
    (hb : bs.length = 4) (ht : ∀ l ∈ ls, l.2.2.all termOk = true) (hn : fs.length ≤ 1048576) (htt : tot fs ≤ 1048576) (hl : ls.length ≤ 1048576) (hr : totL ls ≤ 1048576) :
    Calls Tryz.prog 58 #[v0, v, v3] w fun e w' => e = .returned (.bool R) ∧ Below w.heap.size w w' := by
  have H1 := Lib.hid h1
  have H2 := Lib.hid h2
  have H3 := Lib.hid h3
  have HT := Lib.hid ht
  have HB := Lib.hid hb
  have HR := Lib.hid hR
  obtain ⟨A1, c1, rfl, hc1, _⟩ := h1
  obtain ⟨A, c, rfl, hc, _⟩ := h2
  obtain ⟨A3, c3, rfl, hc3, _⟩ := h3
  clear hR ht hb
  go_enter Tryz.func58, Tryz.ntmps58
  go_wp2_with (fail)
  go_loopw [7] (fun i wr => ∃ k : Nat, k ≤ ls.length ∧ i = .int .i64 k ∧ (∀ j (h : j < ls.length), j < k → litHolds fs ls[j] bs = true) ∧ Below w.heap.size w wr) (fun i _ => ls.length - (intOf i).toNat)
  case atStart => exact ⟨0, Nat.zero_le _, rfl, fun j _ h => absurd h (by omega), Below.refl _ _⟩
  case round =>
    obtain ⟨k, hk, rfl, hs, hbe⟩ := hrel
    by_cases hlt : k < ls.length
    · obtain ⟨b, o, u0, u1, u2, rfl, hbB, k0, k1, k2, rfl, rfl, p3⟩ := (H2.out.on hbe).get hlt
      have hln := len_le_totL ls k hlt
      have hlen : ls[k].2.2.length ≤ 1048576 := by omega
      have htk := HT.out _ (List.getElem_mem hlt)
      have hRL : RdLit wr wr.heap.size (.agg #[.int .i64 ls[k].1, .int .i64 ls[k].2.1, u2]) ls[k] := ⟨_, rfl, p3⟩
      obtain ⟨A4, c4, rfl, hc4, _⟩ := p3
      have CH := Lib.hid (l3Holds_any _ _ _ fs ls[k] bs wr (H1.out.on hbe) hRL (H3.out.on hbe) HB.out htk hn htt hlen)
      have HS := Lib.hid hs
      have HBE := Lib.hid hbe
      clear hRL hs hbe htk
      cases hh : litHolds fs ls[k] bs
      · rw [hh] at CH
        have HE := Lib.hid (show R = false by
          rw [HR.out, List.all_eq_false]
          exact ⟨ls[k], List.getElem_mem hlt, by rw [hh]; simp⟩)
        go_wp2_with (go_at_call 99; refine CH.out.mono ?_; rintro e w2 ⟨rfl, hb2⟩; have HB2 := Lib.hid hb2; clear hb2)
        go_ret
        exact ⟨ret_bool HE.out.symm, bthen HBE.out HB2.out⟩
      · rw [hh] at CH
        have HH := Lib.hid hh
        clear hh
        go_wp2_with (go_at_call 99; refine CH.out.mono ?_; rintro e w2 ⟨rfl, hb2⟩; have HB2 := Lib.hid hb2; clear hb2)
        go_roundw
        case rel => exact ⟨k + 1, by omega, by go_num, fun j h hj => by
          by_cases e : j = k
          · subst e; exact HH.out
          · exact HS.out j h (by omega), bthen HBE.out HB2.out⟩
        case measure => simp [intOf]; omega
    · have HE := Lib.hid (show R = true by
        rw [HR.out, List.all_eq_true]
        intro l hl
        obtain ⟨j, hj, rfl⟩ := List.getElem_of_mem hl
        exact hs j hj (by omega))
      have HBE := Lib.hid hbe
      clear hs hbe
      go_wp2_with (fail)
      go_ret
      exact ⟨ret_bool HE.out.symm, HBE.out⟩

end Go.Proofs.YtokmmloakahkhaaGreat
/-
  The specification's l3Put.
-/
namespace Go.Proofs.YtokmmloakahkhaaGreat
open Go.RowKit

/-- What the first k of the rows say of the place of a row. -/
def AtTo (S : List (List Int)) (b : List Int) (k t : Nat) : Prop :=
  (∀ j (h : j < S.length), j < k → cmpL b S[j] ≠ 0) ∧ ((t = S.length ∧ ∀ j (h : j < S.length), j < k → ¬ cmpL b S[j] < 0) ∨ (t < k ∧ (∃ h : t < S.length, cmpL b S[t] < 0) ∧ ∀ j (h : j < S.length), j < t → ¬ cmpL b S[j] < 0))
theorem atB_is : ∀ {S : List (List Int)} {b : List Int} {t : Nat}, t ≤ S.length → (∀ j (h : j < S.length), j < t → ¬ cmpL b S[j] < 0) → (t = S.length ∨ ∃ h : t < S.length, cmpL b S[t] < 0) → atB S b = t
  | [], b, t, h, _, _ => by
    have : t = 0 := by simpa using h
    subst this
    rfl
  | s :: S, b, 0, _, _, h => by
    rcases h with h | ⟨_, h⟩
    · simp at h
    · exact if_pos h
  | s :: S, b, t + 1, h1, h2, h3 => by
    have h0 : ¬ cmpL b s < 0 := h2 0 (by simp) (by omega)
    have ih := atB_is (S := S) (b := b) (t := t) (by simpa using h1) (fun j hj hlt => h2 (j + 1) (by simpa using hj) (by omega)) (by
      rcases h3 with h3 | ⟨h, h3⟩
      · exact .inl (by simpa using h3)
      · exact .inr ⟨by simpa using h, h3⟩)
    have ea : atB (s :: S) b = atB S b + 1 := if_neg h0
    rw [ea, ih]
theorem AtTo.end_ {S : List (List Int)} {b : List Int} {t : Nat} (h : AtTo S b S.length t) : b ∉ S ∧ t = atB S b ∧ t ≤ S.length := by
  obtain ⟨h1, h2⟩ := h
  have ht : t ≤ S.length := by rcases h2 with ⟨h, _⟩ | ⟨h, _⟩ <;> omega
  refine ⟨fun hm => ?_, ?_, ht⟩
  · obtain ⟨j, hj, rfl⟩ := List.getElem_of_mem hm
    exact h1 j hj hj (cmpL_refl _)
  · rcases h2 with ⟨h, h3⟩ | ⟨h, h4, h3⟩
    · exact (atB_is ht (fun j hj _ => h3 j hj hj) (.inl h)).symm
    · exact (atB_is ht h3 (.inr h4)).symm
theorem AtTo.start (S : List (List Int)) (b : List Int) : AtTo S b 0 S.length := ⟨fun j _ h => absurd h (by omega), .inl ⟨rfl, fun j _ h => absurd h (by omega)⟩⟩
theorem AtTo.more {S : List (List Int)} {b : List Int} {k t : Nat} (h : AtTo S b k t) (hk : k < S.length) (e : 0 < cmpL b S[k]) : AtTo S b (k + 1) t := by
  obtain ⟨h1, h2⟩ := h
  refine ⟨fun j hj hlt => ?_, ?_⟩
  · by_cases e2 : j = k
    · subst e2; omega
    · exact h1 j hj (by omega)
  · rcases h2 with ⟨h, h3⟩ | ⟨h, h4, h3⟩
    · refine .inl ⟨h, fun j hj hlt => ?_⟩
      by_cases e2 : j = k
      · subst e2; omega
      · exact h3 j hj (by omega)
    · exact .inr ⟨by omega, h4, h3⟩
theorem AtTo.here {S : List (List Int)} {b : List Int} {k : Nat} (h : AtTo S b k S.length) (hk : k < S.length) (e : cmpL b S[k] < 0) : AtTo S b (k + 1) k := by
  obtain ⟨h1, h2⟩ := h
  refine ⟨fun j hj hlt => ?_, .inr ⟨by omega, ⟨hk, e⟩, fun j hj hlt => ?_⟩⟩
  · by_cases e2 : j = k
    · subst e2; omega
    · exact h1 j hj (by omega)
  · rcases h2 with ⟨h, h3⟩ | ⟨h, ⟨h5, _⟩, h3⟩
    · exact h3 j hj hlt
    · omega
theorem AtTo.past {S : List (List Int)} {b : List Int} {k t : Nat} (h : AtTo S b k t) (hk : k < S.length) (ht : t ≠ S.length) (e : cmpL b S[k] < 0) : AtTo S b (k + 1) t := by
  obtain ⟨h1, h2⟩ := h
  refine ⟨fun j hj hlt => ?_, ?_⟩
  · by_cases e2 : j = k
    · subst e2; omega
    · exact h1 j hj (by omega)
  · rcases h2 with ⟨h, _⟩ | ⟨h, h4, h3⟩
    · exact absurd h ht
    · exact .inr ⟨by omega, h4, h3⟩

set_option maxHeartbeats 4000000 in
set_option maxRecDepth 100000 in
theorem l3Put_any (v u : Value) (S : List (List Int)) (b : List Int) (R : List (List Int)) (hR : R = putB S b) (lo hi : Nat) (w : World) (h : WkRows w lo hi v S) (hb : OwnInts w lo hi u b) (hhi : hi ≤ w.heap.size) (hlo : lo ≤ w.heap.size) (hn : S.length ≤ 1048576) (hl : ∀ s ∈ S, s.length ≤ 1048576) (hbl : b.length ≤ 1048576) :
    Calls Tryz.prog 88 #[v, u] w fun e w' => ∃ A c, e = .returned (.slice A R.length c) ∧ WkRows w' lo w'.heap.size (.slice A R.length c) R ∧ Below w.heap.size w w' := by
  obtain ⟨i0, hi0, hz0, hz1, hz2⟩ := info_parts Tryz.infoIntS
  have H := Lib.hid h
  have HB := Lib.hid hb
  have HL := Lib.hid hl
  have HR := Lib.hid hR
  obtain ⟨A0, c0, rfl⟩ := h.form
  obtain ⟨Ab, cb, rfl⟩ := hb.form
  clear h hb hl hR
  go_enter Tryz.func88, Tryz.ntmps88
  go_wp2_with (fail)
  go_loopw [5, 6] (fun a i wr => ∃ k t : Nat, k ≤ S.length ∧ i = .int .i64 k ∧ a = .int .i64 t ∧ t ≤ S.length ∧ AtTo S b k t ∧ Below w.heap.size w wr) (fun _ i _ => S.length - (intOf i).toNat)
  case atStart => exact ⟨0, S.length, Nat.zero_le _, rfl, rfl, Nat.le_refl _, AtTo.start _ _, Below.refl _ _⟩
  case round =>
    obtain ⟨k, t, hk, rfl, rfl, htn, hat, hbe⟩ := hrel
    by_cases hlt : k < S.length
    · obtain ⟨g, A2, c2, rfl, hgl, k0, o2⟩ := (H.out.below hbe hhi).get hlt
      have hsz := hbe.size
      have hl2 := HL.out _ (List.getElem_mem hlt)
      have CR := Lib.hid (l3Row_any (.slice Ab b.length cb) (.slice A2 S[k].length c2) b S[k] wr ((HB.out.below hbe hhi).rd.more (by omega)) (o2.rd.more (by omega)) hbl hl2)
      have HA := Lib.hid hat
      have HBE := Lib.hid hbe
      obtain ⟨z, hz⟩ : ∃ z, z = cmpL b S[k] := ⟨_, rfl⟩
      rw [← hz] at CR
      have HZ := Lib.hid hz
      clear hat hbe o2 hz
      rcases Int.lt_trichotomy z 0 with h0 | h0 | h0
      · have z1 : (z == 0) = false := by simp; omega
        have z2 : decide (z < 0) = true := by simp; omega
        by_cases htS : t = S.length
        · have t1 : ((t : Int) == (S.length : Int)) = true := by simp [htS]
          have HN := Lib.hid (show AtTo S b (k + 1) k by have := HA.out; rw [htS] at this; exact this.here hlt (by rw [← HZ.out]; exact h0))
          clear htS
          go_wp2_with (go_at_call 130; refine CR.out.mono ?_; rintro e w2 ⟨rfl, hb2⟩; have HB2 := Lib.hid (bthen HBE.out hb2); clear hb2)
          go_roundw
          case rel => exact ⟨k + 1, k, by omega, by go_num, rfl, by omega, HN.out, HB2.out⟩
          case measure => simp [intOf]; omega
        · have t1 : ((t : Int) == (S.length : Int)) = false := by simp; omega
          have HN := Lib.hid (HA.out.past hlt htS (by rw [← HZ.out]; exact h0))
          go_wp2_with (go_at_call 130; refine CR.out.mono ?_; rintro e w2 ⟨rfl, hb2⟩; have HB2 := Lib.hid (bthen HBE.out hb2); clear hb2)
          go_roundw
          case rel => exact ⟨k + 1, t, by omega, by go_num, rfl, by omega, HN.out, HB2.out⟩
          case measure => simp [intOf]; omega
      · subst h0
        have HE := Lib.hid (show R = S by
          rw [HR.out]
          unfold putB
          rw [if_pos]
          have e := cmpL_eq HZ.out.symm
          exact e ▸ List.getElem_mem hlt)
        go_wp2_with (go_at_call 130; refine CR.out.mono ?_; rintro e w2 ⟨rfl, hb2⟩; have HB2 := Lib.hid (bthen HBE.out hb2); clear hb2)
        go_ret
        rw [HE.out]
        exact ⟨_, _, rfl, (H.out.below HB2.out hhi).mono (Nat.le_refl _) (Nat.le_trans hhi HB2.out.size), HB2.out⟩
      · have z1 : (z == 0) = false := by simp; omega
        have z2 : decide (z < 0) = false := by simp; omega
        have HN := Lib.hid (HA.out.more hlt (by rw [← HZ.out]; exact h0))
        go_wp2_with (go_at_call 130; refine CR.out.mono ?_; rintro e w2 ⟨rfl, hb2⟩; have HB2 := Lib.hid (bthen HBE.out hb2); clear hb2)
        go_roundw
        case rel => exact ⟨k + 1, t, by omega, by go_num, rfl, by omega, HN.out, HB2.out⟩
        case measure => simp [intOf]; omega
    · rename World => w1
      have HE := Lib.hid (show b ∉ S ∧ t = atB S b by
        have := hat
        rw [show k = S.length by omega] at this
        exact ⟨this.end_.1, this.end_.2.1⟩)
      have HBE := Lib.hid hbe
      have C0 := Lib.hid (ColS.empty (lo := lo) (Below.refl w1.heap.size w1))
      clear hat hbe
      go_wp2_with (fail)
      go_loopw [8, 9] (fun o i wr => ∃ (j : Nat) (A' : Option Addr) (c' : Nat) (av : List Value), j ≤ t ∧ i = .int .i64 j ∧ o = .slice A' (S.take j).length c' ∧ ColS lo w1 wr (S.take j) A' c' av) (fun _ i _ => t - (intOf i).toNat)
      case atStart => exact ⟨0, _, 0, [], Nat.zero_le _, rfl, rfl, C0.out⟩
      case round =>
        obtain ⟨j, A', c', av, hj, rfl, rfl, hr'⟩ := hrel
        have hln : (S.take j).length ≤ 1048576 := by simp; omega
        by_cases hltj : j < t
        · have hjS : j < S.length := by omega
          obtain ⟨g, A2, c2, rfl, hgl, k0, o2⟩ := (H.out.below (bthen HBE.out hr'.below) hhi).get hjS
          have hszr := HBE.out.size
          have hsz := hr'.below.size
          have HO2 := Lib.hid (show OwnInts wr lo wr.heap.size (.slice A2 S[j].length c2) S[j] from o2.mono (Nat.le_refl _) (by omega))
          have HP := Lib.hid hr'
          have HS := Lib.hid (take_snoc S j hjS)
          obtain ⟨zs, hzs⟩ : ∃ zs, zs = S.take j := ⟨_, rfl⟩
          have HZ := Lib.hid hzs
          rw [← hzs] at HP HS hln ⊢
          clear hr' o2 hzs
          go_wp2_with (at_builtin; refine wpList_append_lies _ rfl (.tmp 43) (.tmp 48) 27 rfl w1.heap.size 31 i0 (.slice none 0 0) 1 24 Tryz.underlying27 hi0 hz0 hz1 hz2 rfl (by decide) (.slice A' zs.length c') zs.length av rfl ?c1 ⟨_, 0, none⟩ 1 1 [.slice A2 S[j].length c2] rfl rfl (news1s _ _ _ _ (by simp)) ?c2 (by omega) (by unfold maxLen; omega) (by omega) ?c3 _ rfl ?_)
          case c1 => exact HP.out.row.alloc _
          case c2 => intro u hu; simp at hu; subst hu; rfl
          case c3 => have := HP.out.below.size; simp; omega
          intro g2 cap w4 hown hg _ _
          obtain ⟨hcol, hlen⟩ := HP.out.push HS.out (Below.refl _ _) HO2.out hg hown
          rw [hlen]
          have HC := Lib.hid hcol
          clear hcol hown hg
          go_wp2_with (fail)
          go_roundw
          case rel => exact ⟨j + 1, _, _, _, by omega, by go_num, rfl, HC.out⟩
          case measure => simp [intOf]; omega
        · rename World => w2
          have htj : j = t := by omega
          subst htj
          have hszr := HBE.out.size
          have hsz := hr'.below.size
          have HP := Lib.hid hr'
          have HO2 := Lib.hid (show OwnInts w2 lo w2.heap.size (.slice Ab b.length cb) b from (HB.out.below (bthen HBE.out hr'.below) hhi).mono (Nat.le_refl _) (by omega))
          obtain ⟨zs, hzs⟩ : ∃ zs, zs = S.take j := ⟨_, rfl⟩
          have HZ := Lib.hid hzs
          rw [← hzs] at HP hln ⊢
          clear hr' hzs
          go_wp2_with (at_builtin; refine wpList_append_lies _ rfl (.tmp 50) (.tmp 52) 27 rfl w1.heap.size 31 i0 (.slice none 0 0) 1 24 Tryz.underlying27 hi0 hz0 hz1 hz2 rfl (by decide) (.slice A' zs.length c') zs.length av rfl ?c1 ⟨_, 0, none⟩ 1 1 [.slice Ab b.length cb] rfl rfl (news1s _ _ _ _ (by simp)) ?c2 (by omega) (by unfold maxLen; omega) (by omega) ?c3 _ rfl ?_)
          case c1 => exact HP.out.row.alloc _
          case c2 => intro u hu; simp at hu; subst hu; rfl
          case c3 => have := HP.out.below.size; simp; omega
          intro g2 cap w4 hown hg _ _
          obtain ⟨hcol, hlen⟩ := HP.out.push rfl (Below.refl _ _) HO2.out hg hown
          rw [hlen]
          have HC := Lib.hid hcol
          obtain ⟨av2, hav2⟩ : ∃ av2, av2 = av ++ [Value.slice Ab b.length cb] := ⟨_, rfl⟩
          obtain ⟨ys, hys⟩ : ∃ ys, ys = zs ++ [b] := ⟨_, rfl⟩
          have HY := Lib.hid hys
          rw [← hav2, ← hys] at HC
          rw [← hys]
          clear hcol hown hg HP HO2 hav2 hys hlen
          go_wp2_with (fail)
          go_loopw [8, 10] (fun o i wr => ∃ (q : Nat) (A' : Option Addr) (c' : Nat) (av : List Value) (xs : List (List Int)), j ≤ q ∧ q ≤ S.length ∧ i = .int .i64 q ∧ xs = ys ++ (S.take q).drop j ∧ o = .slice A' xs.length c' ∧ ColS lo w1 wr xs A' c' av) (fun _ i _ => S.length - (intOf i).toNat)
          case atStart => exact ⟨j, _, _, _, ys, Nat.le_refl _, by omega, rfl, by simp, rfl, HC.out⟩
          case round =>
            obtain ⟨q, A', c', av, xs, hjq, hq, rfl, hxs, rfl, hr'⟩ := hrel
            have hln2 : xs.length ≤ 1048577 := by rw [hxs, HY.out, HZ.out]; simp; omega
            have HX := Lib.hid hxs
            clear hxs
            by_cases hltq : q < S.length
            · obtain ⟨g, A2, c2, rfl, hgl, k0, o2⟩ := (H.out.below (bthen HBE.out hr'.below) hhi).get hltq
              have hszr := HBE.out.size
              have hsz := hr'.below.size
              have HO2 := Lib.hid (show OwnInts wr lo wr.heap.size (.slice A2 S[q].length c2) S[q] from o2.mono (Nat.le_refl _) (by omega))
              have HP := Lib.hid hr'
              clear hr' o2
              go_wp2_with (at_builtin; refine wpList_append_lies _ rfl (.tmp 61) (.tmp 66) 27 rfl w1.heap.size 31 i0 (.slice none 0 0) 1 24 Tryz.underlying27 hi0 hz0 hz1 hz2 rfl (by decide) (.slice A' xs.length c') xs.length av rfl ?c1 ⟨_, 0, none⟩ 1 1 [.slice A2 S[q].length c2] rfl rfl (news1s _ _ _ _ (by simp)) ?c2 (by omega) (by unfold maxLen; omega) (by omega) ?c3 _ rfl ?_)
              case c1 => exact HP.out.row.alloc _
              case c2 => intro u hu; simp at hu; subst hu; rfl
              case c3 => have := HP.out.below.size; simp; omega
              intro g2 cap w4 hown hg _ _
              obtain ⟨hcol, hlen⟩ := HP.out.push rfl (Below.refl _ _) HO2.out hg hown
              rw [hlen]
              have HC := Lib.hid hcol
              clear hcol hown hg
              go_wp2_with (fail)
              go_roundw
              case rel => exact ⟨q + 1, _, _, _, xs ++ [S[q]], by omega, by omega, by go_num, by
                rw [HX.out, take_snoc S q hltq, List.drop_append_of_le_length (by simp; omega), List.append_assoc], rfl, HC.out⟩
              case measure => simp [intOf]; omega
            · have HP := Lib.hid hr'
              have HE2 := Lib.hid (show R = xs by
                rw [HR.out, HX.out, HY.out, HZ.out]
                unfold putB
                rw [if_neg HE.out.1, ← HE.out.2, show q = S.length by omega, List.take_length, List.append_assoc]
                rfl)
              clear hr'
              go_wp2_with (fail)
              go_ret
              rw [HE2.out]
              exact ⟨_, _, rfl, HP.out.rows (by omega), bthen HBE.out HP.out.below⟩

end Go.Proofs.YtokmmloakahkhaaGreat
