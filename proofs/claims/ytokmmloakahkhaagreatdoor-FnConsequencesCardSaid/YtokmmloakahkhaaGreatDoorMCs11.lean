/-
  Texts that the claim's last one imports, laid together: part 11 of 13. No condition of its own.
-/
import Derived.Deep.RegionHeld3
import Derived.Deep.DeepCutAuto
import Derived.Deep.RegionWith
import Derived.Test.YtokmmloakahkhaaGreatDoorMCs1
import Derived.Test.YtokmmloakahkhaaGreatDoorMCs2
import Derived.Test.YtokmmloakahkhaaGreatDoorMCs3
import Derived.Test.YtokmmloakahkhaaGreatDoorMCs4
import Derived.Test.YtokmmloakahkhaaGreatDoorMCs6
import Derived.Test.YtokmmloakahkhaaGreatDoorMCs7
import Derived.Test.YtokmmloakahkhaaGreatDoorMCs10
/-
  solve: all that makes the questions hold, each once.
-/
namespace Go.Proofs.YtokmmloakahkhaaGreatDoor
open Go.RowKit

/-- All that makes questions hold, each once. -/
def IsSols (qs : List LQ) (S : List (List Int)) : Prop :=
  S.Nodup ∧ ∀ b, b ∈ S ↔ bindOk b = true ∧ (∀ v, v < 4 → (b.getD v (-1) ≠ -1 ↔ ∃ q ∈ qs, (maskOf q.1.2.2).testBit v = true)) ∧ ∀ q ∈ qs, holdsQ q b = true
/-- Each variable stands in an atom that is to hold. -/
def SafeQ (qs : List LQ) : Prop := ∀ q ∈ qs, ∀ v, v < 4 → (maskOf q.1.2.2).testBit v = true → ∃ q' ∈ qs, q'.1.1 = 0 ∧ (maskOf q'.1.2.2).testBit v = true

theorem perm_erase {α : Type} : ∀ (l : List α) (i : Nat) (h : i < l.length), (l[i] :: l.eraseIdx i).Perm l
  | x :: l, 0, _ => List.Perm.refl _
  | x :: l, i + 1, h => by
    have hi : i < l.length := by simpa using h
    have ih := perm_erase l i hi
    exact (List.Perm.swap x l[i] (l.eraseIdx i)).trans (ih.cons x)
theorem RdQs.erase {w : World} {B : Nat} {us : List QV} {qs : List LQ} (h : RdQs w B us qs) (i : Nat) (hi : i < qs.length) : RdQs w B (us.eraseIdx i) (qs.eraseIdx i) := by
  have hl := h.1
  refine ⟨by rw [List.length_eraseIdx_of_lt hi, List.length_eraseIdx_of_lt (by omega)]; omega, fun k h1 h2 => ?_⟩
  rw [List.getElem_eraseIdx, List.getElem_eraseIdx]
  split
  · exact h.2 k _ _
  · exact h.2 (k + 1) _ _
theorem oneQ {w : World} {B : Nat} : ∀ {us : List QV} {qs : List LQ}, RdQs w B us qs → ∀ u ∈ flatQ us, u.oneCell' = true := fun {us qs} h => by
  have key : ∀ (us : List QV), (∀ k (h : k < us.length), us[k].1.oneCell' = true ∧ us[k].2.1.oneCell' = true ∧ us[k].2.2.1.oneCell' = true ∧ us[k].2.2.2.oneCell' = true) → ∀ u ∈ flatQ us, u.oneCell' = true := by
    intro us
    induction us with
    | nil => intro _ u hu; simp [flatQ] at hu
    | cons x us ih =>
      intro hk u hu
      have h0 := hk 0 (by simp)
      have ih' := ih fun k hk' => hk (k + 1) (by simpa using hk')
      simp only [flatQ, List.mem_cons] at hu
      rcases hu with rfl | rfl | rfl | rfl | hu
      · exact h0.1
      · exact h0.2.1
      · exact h0.2.2.1
      · exact h0.2.2.2
      · exact ih' u hu
  refine key us fun k hk => ?_
  obtain ⟨a, b, d, e⟩ := h.2 k hk (by rw [← h.1]; exact hk)
  obtain ⟨A2, c2, e2, _⟩ := d
  obtain ⟨A3, c3, e3, _⟩ := e
  rw [a, b, e2, e3]
  exact ⟨rfl, rfl, rfl, rfl⟩

/-- While questions are left one of them may be asked. -/
theorem free_there {K : Nat} {Q qs qs0 : List LQ} {S : List (List Int)} (h : Sols K Q S) (hp : (Q ++ qs).Perm qs0) (hs : SafeQ qs0) (hne : 0 < qs.length) : ∃ i, ∃ h : i < qs.length, FreeQ K qs[i] := by
  by_cases he : ∃ q ∈ qs, q.1.1 = 0
  · obtain ⟨q, hq, h0⟩ := he
    obtain ⟨i, hi, rfl⟩ := List.getElem_of_mem hq
    exact ⟨i, hi, .inl h0⟩
  · refine ⟨0, hne, .inr fun v hv hm => ?_⟩
    obtain ⟨q', hq', h0, hm'⟩ := hs qs[0] (hp.mem_iff.1 (List.mem_append_right _ (List.getElem_mem hne))) v hv hm
    rcases List.mem_append.1 (hp.mem_iff.2 hq') with hq | hq
    · exact h.vars q' hq v hv hm'
    · exact absurd ⟨q', hq, h0⟩ he
theorem sols_done {K : Nat} {Q qs0 : List LQ} {S : List (List Int)} (h : Sols K Q S) (hp : Q.Perm qs0) (hk : ∀ v, v < 4 → K.testBit v = true → ∃ q ∈ Q, (maskOf q.1.2.2).testBit v = true) : IsSols qs0 S := by
  refine ⟨h.nodup, fun b => ?_⟩
  rw [h.mem b]
  refine and_congr_right fun _ => and_congr ?_ ?_
  · have hK : ∀ v, v < 4 → (K.testBit v = true ↔ ∃ q ∈ qs0, (maskOf q.1.2.2).testBit v = true) := fun v hv => by
      constructor
      · intro hb
        obtain ⟨q, hq, hm⟩ := hk v hv hb
        exact ⟨q, hp.mem_iff.1 hq, hm⟩
      · rintro ⟨q, hq, hm⟩
        exact h.vars q (hp.mem_iff.2 hq) v hv hm
    exact ⟨fun hd v hv => (hd v hv).trans (hK v hv), fun hd v hv => (hd v hv).trans (hK v hv).symm⟩
  · exact ⟨fun hq q hm => hq q (hp.mem_iff.2 hm), fun hq q hm => hq q (hp.mem_iff.1 hm)⟩
theorem sols_none {K : Nat} {Q qs qs0 : List LQ} (h : Sols K Q []) (hp : (Q ++ qs).Perm qs0) (hk : ∀ v, v < 4 → K.testBit v = true → ∃ q ∈ Q, (maskOf q.1.2.2).testBit v = true) : IsSols qs0 [] := by
  refine ⟨List.nodup_nil, fun b => Iff.intro (fun hb => by cases hb) fun hh => ?_⟩
  obtain ⟨h1, h2, h3⟩ := hh
  suffices hx : restr K b ∈ ([] : List (List Int)) by cases hx
  refine (h.mem (restr K b)).2 ⟨restr_ok h1 K, fun v hv => ?_, fun q hq => ?_⟩
  · rw [restr_at hv]
    by_cases e : K.testBit v = true
    · rw [if_pos e]
      obtain ⟨q, hq, hm⟩ := hk v hv e
      exact ⟨fun _ => e, fun _ => (h2 v hv).2 ⟨q, hp.mem_iff.1 (List.mem_append_left _ hq), hm⟩⟩
    · rw [if_neg e]
      exact ⟨fun hx => absurd rfl hx, fun hx => absurd hx e⟩
  · rw [holdsQ_same (restr_ok h1 K) h1 (h.terms q hq) fun v hv hm => by rw [restr_at hv, if_pos (h.vars q hq v hv hm)]]
    exact h3 q (hp.mem_iff.1 (List.mem_append_left _ hq))

theorem OwnW.one (w : World) : OwnW (w.alloc (.cells #[.int .u32 0] 78)) w.heap.size (w.heap.size + 1) (.slice (some ⟨w.heap.size, 0, none⟩) 1 1) [noneB] :=
  ⟨⟨rfl, .inr ⟨w.heap.size, 1, _, rfl, Nat.le_refl _, heap_alloc_new w _, Nat.le_refl _, by decide, rfl, by simp [wd, encB_none]⟩⟩, fun g hg => by simp [Value.ownBlock] at hg; omega⟩

/-- What solve has behind some questions. -/
structure SolveAt (g c B : Nat) (w0 wr : World) (qs0 : List LQ) (us : List QV) (Q qs : List LQ) (K : Nat) (S : List (List Int)) (v : Value) : Prop where
  row : AtQ wr g c us
  rd : RdQs wr B us qs
  own : OwnW wr w0.heap.size wr.heap.size v S
  sols : Sols K Q S
  perm : (Q ++ qs).Perm qs0
  few : K < 16
  vars : ∀ v, v < 4 → K.testBit v = true → ∃ q ∈ Q, (maskOf q.1.2.2).testBit v = true
  only : Only g (g + 1) w0 wr

set_option maxHeartbeats 4000000 in
set_option maxRecDepth 100000 in
theorem solveFrom_any (g c B : Nat) (us0 : List QV) (qs0 : List LQ) (w : World) (h : AtQ w g c us0) (hr : RdQs w B us0 qs0) (hB : B ≤ g) (hn : qs0.length ≤ 1048576) (hok : ∀ q ∈ qs0, QOk q) (hsf : SafeQ qs0) :
    Calls Tryz.prog 122 #[.int .u32 0, .int .u64 0, .slice (some ⟨g, 0, none⟩) qs0.length c] w fun e w' =>
      ∃ A c' S, e = .returned (.slice A S.length c') ∧ OwnW w' w.heap.size w'.heap.size (.slice A S.length c') S ∧ Only g (g + 1) w w' ∧ IsSols qs0 S := by
  have hgw := h.lt
  have HOK := Lib.hid hok
  have HSF := Lib.hid hsf
  have H0 := Lib.hid (show SolveAt g c B w (w.alloc (.cells #[.int .u32 0] 78)) qs0 us0 [] qs0 0 [noneB] (.slice (some ⟨w.heap.size, 0, none⟩) [noneB].length 1) from
    ⟨h.below (below1 w _) hgw, hr.below (below1 w _) (by omega), (OwnW.one w).mono (Nat.le_refl _) (by simp), sols_start, List.Perm.refl _, by omega, fun v _ h => by simp at h, Only.of_below (below1 w _)⟩)
  clear h hr hok hsf
  go_enter Tryz.func122, Tryz.ntmps122
  go_wp2_with fail
  go_loopw [1, 2, 7] (fun v4 v0 v3 wr => ∃ (us : List QV) (Q qs : List LQ) (K : Nat) (S : List (List Int)) (A : Option Addr) (c' : Nat), qs.length ≤ qs0.length ∧ v0 = .slice (some ⟨g, 0, none⟩) qs.length c ∧ v3 = .slice A S.length c' ∧ v4 = .int .u64 (K : Nat) ∧ SolveAt g c B w wr qs0 us Q qs K S (.slice A S.length c')) (fun _ v0 _ _ => match v0 with | .slice _ n _ => n | _ => 0)
  case atStart => exact ⟨us0, [], qs0, 0, [noneB], _, _, Nat.le_refl _, rfl, rfl, rfl, H0.out⟩
  case round =>
    obtain ⟨us, Q, qs, K, S, A3, c3, hql, rfl, rfl, rfl, hat⟩ := hrel
    have HAT := Lib.hid hat
    clear hat H0
    by_cases hq0 : 0 < qs.length
    · have hd0 : decide ((qs.length : Int) > 0) = true := by simp; omega
      by_cases hS0 : 0 < S.length
      · have hd1 : decide ((S.length : Int) > 0) = true := by simp; omega
        have CN := Lib.hid (nextAsked_any g c B K us qs wr HAT.out.row HAT.out.rd (by have := HAT.out.row.lt; omega) HAT.out.few (by omega) (fun q hq => (HOK.out q (HAT.out.perm.mem_iff.1 (List.mem_append_right _ hq))).args) (free_there HAT.out.sols HAT.out.perm HSF.out hq0))
        go_upto_region 4 with (go_at_call 155; refine CN.out.mono ?_; rintro e w2 ⟨i, rfl, hi, hb2⟩; have HI := Lib.hid (And.intro hi hb2); clear hi hb2)
        obtain ⟨⟨hi, hfree⟩, hb2⟩ := HI.out
        have hlo : w.heap.size ≤ wr.heap.size := HAT.out.only.size
        have hgl : g < wr.heap.size := HAT.out.row.lt
        have hs2 := hb2.size
        obtain ⟨A4, c4, A5, c5, q0, q1, q2, q3, hq⟩ := (HAT.out.row.below hb2 hgl).quest (HAT.out.rd.below hb2 (by omega)) hi
        obtain ⟨q, hqe⟩ : ∃ q, q = qs[i] := ⟨_, rfl⟩
        have hqm : q ∈ qs0 := by rw [hqe]; exact HAT.out.perm.mem_iff.1 (List.mem_append_right _ (List.getElem_mem hi))
        rw [← hqe] at q0 q1 q2 q3 hq hfree
        have hqk := HOK.out q hqm
        have HQE := Lib.hid hqe
        clear hqe hqm
        go_upto_region 5 with fail
        obtain ⟨w3, hw3⟩ : ∃ w3, w3 = w2.alloc (Obj.cells #[Value.int IntKind.i64 q.1.1, Value.int IntKind.i64 q.1.2.1, Value.slice A4 q.1.2.2.length c4, Value.slice A5 q.2.length c5] 167) := ⟨_, rfl⟩
        have b3 : Below w2.heap.size w2 w3 := by rw [hw3]; exact below1 _ _
        have y3 : Blk w3 w2.heap.size 167 #[.int .i64 q.1.1, .int .i64 q.1.2.1, .slice A4 q.1.2.2.length c4, .slice A5 q.2.length c5] := by rw [hw3]; exact Blk.new _ _ _
        have hs3 : w2.heap.size < w3.heap.size := by rw [hw3]; simp
        rw [← hw3]
        clear hw3 q0 q1 q2 q3
        have x0 : w3.cell? ⟨w2.heap.size, 0, none⟩ = some (.int .i64 q.1.1) := y3.cell 0
        have x1 : w3.cell? ⟨w2.heap.size, 1, none⟩ = some (.int .i64 q.1.2.1) := y3.cell 1
        have x2 : w3.cell? ⟨w2.heap.size, 2, none⟩ = some (.slice A4 q.1.2.2.length c4) := y3.cell 2
        have x3 : w3.cell? ⟨w2.heap.size, 3, none⟩ = some (.slice A5 q.2.length c5) := y3.cell 3
        have B23 := bthen hb2 b3
        have hq3 : RdQC w3 w.heap.size (.int .i64 q.1.1) (.int .i64 q.1.2.1) (.slice A4 q.1.2.2.length c4) (.slice A5 q.2.length c5) q :=
          ⟨rfl, rfl, (hq.2.2.1.below b3 (by omega)).more (by omega), (hq.2.2.2.below b3 (by omega)).more (by omega)⟩
        have CA := Lib.hid (ask_any w.heap.size wr.heap.size K _ _ _ _ (.slice A3 S.length c3) q Q S w3 hq3 hqk (HAT.out.own.below B23 (Nat.le_refl _)) B23.size hlo HAT.out.sols (fun e => by rw [e] at hS0; simp at hS0) HAT.out.few (fun h0 => by
          rcases hfree with h | h
          · exact absurd h h0
          · exact h))
        have HW3 := Lib.hid (And.intro B23 (And.intro y3 hq3))
        have hal := hqk.args
        have hor : bits .or .u64 ((K : Nat) : Int) ((maskOf q.1.2.2 : Nat) : Int) = ((K ||| maskOf q.1.2.2 : Nat) : Int) := or_word HAT.out.few (maskOf_lt _)
        clear hq hq3 y3 b3 hb2 hfree hqk B23 HI CN
        go_upto_region 6 with (go_at_call 156; refine CA.out.mono ?_; rintro e w4 ⟨A6, c6, S', rfl, ho4, on4, hs4⟩; have H4 := Lib.hid (And.intro ho4 (And.intro on4 hs4)); clear ho4 on4 hs4)
        obtain ⟨ho4, on4, hs4⟩ := H4.out
        obtain ⟨B23, y3, hq3⟩ := HW3.out
        have hz4 := on4.size
        have y4 := y3.only on4 (.inr (by omega))
        clear x0 x1 x2 x3
        have x2 : w4.cell? ⟨w2.heap.size, 2, none⟩ = some (.slice A4 q.1.2.2.length c4) := y4.cell 2
        have CV := Lib.hid (argVars_any (.slice A4 q.1.2.2.length c4) q.1.2.2 w.heap.size w4 (hq3.2.2.1.below (on4.below (Nat.le_refl _) (by omega)) (Nat.le_refl _)) hal)
        have o04 : Only g (g + 1) w w4 := ⟨on4.os.trans (B23.os.trans HAT.out.only.os), on4.tape.trans (B23.tape.trans HAT.out.only.tape), on4.output.trans (B23.output.trans HAT.out.only.output), by omega, fun k hk ho => (on4.block k (by omega) (.inl hk)).trans ((B23.block k (by omega)).trans (HAT.out.only.block k hk ho))⟩
        have r4 : AtQ w4 g c us := ((HAT.out.row.below B23 hgl).only on4 (.inl (by omega)))
        have d4 : RdQs w4 B us qs := (HAT.out.rd.below B23 (by omega)).only on4 (by omega) (by omega)
        obtain ⟨m, hm⟩ : ∃ m, qs.length = m + 1 := ⟨qs.length - 1, by omega⟩
        have hel : m = (qs.eraseIdx i).length := by rw [List.length_eraseIdx_of_lt hi]; omega
        have hul : us.length = m + 1 := by rw [← hm]; exact HAT.out.rd.1
        have CD := deleteQ_any g c i m us w4 r4 hul (by omega) (by omega) (oneQ d4)
        rw [← hm, hel] at CD
        have HCD := Lib.hid CD
        have HEL := Lib.hid (show (qs.eraseIdx i).length < qs.length by omega)
        have HN := Lib.hid (And.intro ho4 (And.intro hs4 (And.intro o04 (And.intro d4 hz4))))
        clear CD ho4 hs4 o04 d4 on4 y3 y4 hq3 B23 hm hel hul r4 H4 HW3
        go_wp2_with (first
          | (go_at_call 106; refine CV.out.mono ?_; rintro e w' ⟨rfl, rfl⟩)
          | (go_at_call 157; refine HCD.out.mono ?_; rintro e w5 ⟨rfl, r5, on5⟩; have H5 := Lib.hid (And.intro r5 on5); clear r5 on5))
        obtain ⟨r5, on5⟩ := H5.out
        obtain ⟨ho4, hs4, o04, d4, hz4⟩ := HN.out
        have hz5 := on5.size
        have hlen := HEL.out
        have hpm : ((q :: Q) ++ qs.eraseIdx i).Perm qs0 := by
          have h1 := perm_erase qs i hi
          rw [← HQE.out] at h1
          exact (List.perm_middle.symm.trans ((List.Perm.refl Q).append h1)).trans HAT.out.perm
        have HFIN := Lib.hid (show SolveAt g c B w w5 qs0 (us.eraseIdx i) (q :: Q) (qs.eraseIdx i) (K ||| maskOf q.1.2.2) S' (.slice A6 S'.length c6) from
          ⟨r5, (d4.only on5 (by omega) (by omega)).erase i hi, (ho4.only on5 (.inr (by omega))).mono (Nat.le_refl _) hz5, hs4, hpm, Nat.or_lt_two_pow (n := 4) HAT.out.few (maskOf_lt _), fun v hv hb => by
            rw [Nat.testBit_or, Bool.or_eq_true] at hb
            rcases hb with hb | hb
            · obtain ⟨q', hq', h⟩ := HAT.out.vars v hv hb
              exact ⟨q', List.mem_cons_of_mem _ hq', h⟩
            · exact ⟨q, List.mem_cons_self, hb⟩, o04.trans on5⟩)
        clear r5 on5 ho4 hs4 o04 d4 hpm
        go_roundw
        case rel => exact ⟨us.eraseIdx i, q :: Q, qs.eraseIdx i, K ||| maskOf q.1.2.2, S', A6, c6, by omega, rfl, rfl, rfl, HFIN.out⟩
        case measure => simp; omega
      · have hd1 : decide ((S.length : Int) > 0) = false := decide_eq_false (by omega)
        have HE := Lib.hid (show IsSols qs0 S by
          have : S = [] := List.eq_nil_of_length_eq_zero (by omega)
          subst this
          exact sols_none HAT.out.sols HAT.out.perm HAT.out.vars)
        go_wp2_with fail
        go_ret
        exact ⟨_, _, S, rfl, HAT.out.own, HAT.out.only, HE.out⟩
    · have hd0 : decide ((qs.length : Int) > 0) = false := decide_eq_false (by omega)
      have HE := Lib.hid (show IsSols qs0 S by
        have : qs = [] := List.eq_nil_of_length_eq_zero (by omega)
        subst this
        exact sols_done HAT.out.sols (by simpa using HAT.out.perm) HAT.out.vars)
      go_wp2_with fail
      go_ret
      exact ⟨_, _, S, rfl, HAT.out.own, HAT.out.only, HE.out⟩

set_option maxHeartbeats 1000000 in
theorem solve_any (g c B : Nat) (us0 : List QV) (qs0 : List LQ) (w : World) (h : AtQ w g c us0) (hr : RdQs w B us0 qs0) (hB : B ≤ g) (hn : qs0.length ≤ 1048576) (hok : ∀ q ∈ qs0, QOk q) (hsf : SafeQ qs0) :
    Calls Tryz.prog 70 #[.slice (some ⟨g, 0, none⟩) qs0.length c] w fun e w' =>
      ∃ A c' S, e = .returned (.slice A S.length c') ∧ OwnW w' w.heap.size w'.heap.size (.slice A S.length c') S ∧ Only g (g + 1) w w' ∧ IsSols qs0 S := by
  have CF := Lib.hid (solveFrom_any g c B us0 qs0 w h hr hB hn hok hsf)
  clear h hr hok hsf
  go_enter Tryz.func70, Tryz.ntmps70
  go_wp2_with (go_at_call 122; refine CF.out.mono ?_; rintro e w2 ⟨A, c', S, rfl, o2, on2, s2⟩; have H2 := Lib.hid (And.intro o2 (And.intro on2 s2)); clear o2 on2 s2)
  go_ret
  exact ⟨A, c', S, rfl, H2.out.1, H2.out.2.1, H2.out.2.2⟩

end Go.Proofs.YtokmmloakahkhaaGreatDoor
/-
  Both ways of solving come to the same, plain mathematics.
-/
namespace Go.Proofs.YtokmmloakahkhaaGreatDoor
open Go.RowKit

theorem bodyMask_bit {v : Nat} : ∀ (ls : List LLit) (m : Nat), (ls.foldl (fun m l => m ||| maskOf l.2.2) m).testBit v = true ↔ m.testBit v = true ∨ ∃ l ∈ ls, (maskOf l.2.2).testBit v = true
  | [], m => by simp
  | l :: ls, m => by
    rw [List.foldl_cons, bodyMask_bit ls, Nat.testBit_or, Bool.or_eq_true]
    constructor
    · rintro ((h | h) | ⟨l', hl, h⟩)
      · exact .inl h
      · exact .inr ⟨l, List.mem_cons_self, h⟩
      · exact .inr ⟨l', List.mem_cons_of_mem _ hl, h⟩
    · rintro (h | ⟨l', hl, h⟩)
      · exact .inl (.inl h)
      · rcases List.mem_cons.1 hl with rfl | hl
        · exact .inl (.inr h)
        · exact .inr ⟨l', hl, h⟩
theorem yesMask_bit {v : Nat} : ∀ (ls : List LLit) (m : Nat), (ls.foldl (fun m l => if l.1 = 0 then m ||| maskOf l.2.2 else m) m).testBit v = true ↔ m.testBit v = true ∨ ∃ l ∈ ls, l.1 = 0 ∧ (maskOf l.2.2).testBit v = true
  | [], m => by simp
  | l :: ls, m => by
    rw [List.foldl_cons, yesMask_bit ls]
    by_cases e : l.1 = 0
    · rw [if_pos e, Nat.testBit_or, Bool.or_eq_true]
      constructor
      · rintro ((h | h) | ⟨l', hl, h⟩)
        · exact .inl h
        · exact .inr ⟨l, List.mem_cons_self, e, h⟩
        · exact .inr ⟨l', List.mem_cons_of_mem _ hl, h⟩
      · rintro (h | ⟨l', hl, h⟩)
        · exact .inl (.inl h)
        · rcases List.mem_cons.1 hl with rfl | hl
          · exact .inl (.inr h.2)
          · exact .inr ⟨l', hl, h⟩
    · rw [if_neg e]
      constructor
      · rintro (h | ⟨l', hl, h⟩)
        · exact .inl h
        · exact .inr ⟨l', List.mem_cons_of_mem _ hl, h⟩
      · rintro (h | ⟨l', hl, h⟩)
        · exact .inl h
        · rcases List.mem_cons.1 hl with rfl | hl
          · exact absurd h.1 e
          · exact .inr ⟨l', hl, h⟩

/-- A body that may be asked, told literal by literal. -/
structure SafeB (ls : List LLit) : Prop where
  kind : ∀ l ∈ ls, 0 ≤ l.1 ∧ l.1 ≤ 3
  terms : ∀ l ∈ ls, l.2.2.all termOk = true
  few : ls.length ≤ 4
  safe : ∀ l ∈ ls, ∀ v, v < 4 → (maskOf l.2.2).testBit v = true → ∃ l' ∈ ls, l'.1 = 0 ∧ (maskOf l'.2.2).testBit v = true
theorem SafeB.of {ls : List LLit} (h : bodySafe ls = true) : SafeB ls := by
  unfold bodySafe at h
  rw [Bool.and_eq_true, Bool.and_eq_true] at h
  obtain ⟨⟨h1, h2⟩, h3⟩ := h
  rw [List.all_eq_true] at h1
  rw [ruleSafe_eq, safeTo_iff, ruleMask_body] at h3
  refine ⟨fun l hl => ?_, fun l hl => ?_, by simpa using h2, fun l hl v hv hm => ?_⟩
  · have := h1 l hl
    unfold litFine at this
    rw [Bool.and_eq_true] at this
    simpa using this.1
  · have := h1 l hl
    unfold litFine at this
    rw [Bool.and_eq_true] at this
    exact this.2
  · have hb : (bodyMask ls).testBit v = true := (bodyMask_bit ls 0).2 (.inr ⟨l, hl, hm⟩)
    have hy := h3 v hv hb
    rcases (yesMask_bit ls 0).1 hy with h | h
    · simp at h
    · exact h
theorem consts_of {fs : List LFact} (h : constsL fs = true) : ∀ f ∈ fs, f.2.all constOk = true := fun f hf => List.all_eq_true.1 h f hf
theorem SafeB.quests {ls : List LLit} (h : SafeB ls) (fs : List LFact) : SafeQ (questL fs ls) := fun q hq v hv hm => by
  obtain ⟨l, hl, rfl⟩ := List.mem_map.1 hq
  obtain ⟨l', hl', h0, hm'⟩ := h.safe l hl v hv hm
  exact ⟨(l', fs), List.mem_map.2 ⟨l', hl', rfl⟩, h0, hm'⟩
theorem SafeB.qok {ls : List LLit} (h : SafeB ls) {fs : List LFact} (hc : ∀ f ∈ fs, f.2.all constOk = true) (hn : fs.length ≤ 1048576) (ht : tot fs ≤ 1048576) (hl : totL ls ≤ 1048576) : ∀ q ∈ questL fs ls, QOk q := fun q hq => by
  obtain ⟨l, hl', rfl⟩ := List.mem_map.1 hq
  have hk := h.kind l hl'
  refine ⟨by show l.1 = 0 ∨ l.1 = 1 ∨ l.1 = 2 ∨ l.1 = 3; omega, h.terms l hl', hc, ?_, hn, ht⟩
  obtain ⟨k, hk', rfl⟩ := List.getElem_of_mem hl'
  exact Nat.le_trans (len_le_totL ls k hk') hl

theorem litHolds_same {fs gs : List LFact} (h : ∀ f, f ∈ fs ↔ f ∈ gs) (l : LLit) (b : List Int) : litHolds fs l b = litHolds gs l b := by
  unfold litHolds
  split
  · rfl
  · rw [factsHas_in, factsHas_in]
    congr 2
    exact decide_eq_decide.2 (h _)

/-- The specification's solutions are all that makes the literals hold. -/
theorem solsOf_is {fs gs : List LFact} {ls : List LLit} (h : SafeB ls) (hc : ∀ f ∈ gs, f.2.all constOk = true) (hn : gs.Nodup) (hm : ∀ f, f ∈ gs ↔ f ∈ fs) : UpB (solsOf gs ls) ∧ IsSols (questL fs ls) (solsOf gs ls) := by
  obtain ⟨h1, h2⟩ := triedTo_is gs (restTo ls ls.length) (bindsTo gs ls ls.length) _ (Nat.le_refl _)
  obtain ⟨K, Q, hK, hS, hQ, hv⟩ := bindsTo_sols hc hn h.terms ls.length (Nat.le_refl _)
  rw [List.take_length] at hv
  refine ⟨h1, h1.nodup, fun b => ?_⟩
  unfold solsOf
  rw [h2, List.take_length, hS.mem b, and_assoc, and_assoc]
  have hKb : ∀ v, v < 4 → (K.testBit v = true ↔ ∃ q ∈ questL fs ls, (maskOf q.1.2.2).testBit v = true) := fun v hv4 => by
    rw [hv v hv4]
    constructor
    · rintro ⟨l, hl, _, hb⟩
      exact ⟨(l, fs), List.mem_map.2 ⟨l, hl, rfl⟩, hb⟩
    · rintro ⟨q, hq, hb⟩
      obtain ⟨l, hl, rfl⟩ := List.mem_map.1 hq
      exact h.safe l hl v hv4 hb
  refine and_congr_right fun _ => and_congr ?_ ?_
  · exact ⟨fun hd v hv => (hd v hv).trans (hKb v hv), fun hd v hv => (hd v hv).trans (hKb v hv).symm⟩
  · constructor
    · rintro ⟨hq, hr⟩ q hq'
      obtain ⟨l, hl, rfl⟩ := List.mem_map.1 hq'
      show litHolds fs l b = true
      rw [← litHolds_same hm]
      by_cases e : l.1 = 0
      · exact hq (l, gs) ((hQ _).2 ⟨rfl, e, by rw [List.take_length]; exact hl⟩)
      · refine List.all_eq_true.1 hr l ?_
        unfold restTo
        rw [List.take_length]
        exact List.mem_filter.2 ⟨hl, by simpa using e⟩
    · intro hq
      refine ⟨fun q hq' => ?_, List.all_eq_true.2 fun l hl => ?_⟩
      · obtain ⟨e1, e2, e3⟩ := (hQ q).1 hq'
        rw [List.take_length] at e3
        have := hq (q.1, fs) (List.mem_map.2 ⟨q.1, e3, rfl⟩)
        unfold holdsQ at this ⊢
        rw [e1, litHolds_same hm]
        exact this
      · unfold restTo at hl
        rw [List.take_length] at hl
        have := hq (l, fs) (List.mem_map.2 ⟨l, (List.mem_filter.1 hl).1, rfl⟩)
        rw [litHolds_same hm]
        exact this

/-- The words have the order of the lists. -/
theorem cmp_enc {x y : List Int} (hx : bindOk x = true) (hy : bindOk y = true) (h : encB x < encB y) : cmpL x y < 0 := by
  obtain ⟨a, b, c, d, rfl⟩ := list4 (bindOk_len hx)
  obtain ⟨a', b', c', d', rfl⟩ := list4 (bindOk_len hy)
  have h0 := bindOk_at hx (k := 0) (by simp)
  have h1 := bindOk_at hx (k := 1) (by simp)
  have h2 := bindOk_at hx (k := 2) (by simp)
  have h3 := bindOk_at hx (k := 3) (by simp)
  have g0 := bindOk_at hy (k := 0) (by simp)
  have g1 := bindOk_at hy (k := 1) (by simp)
  have g2 := bindOk_at hy (k := 2) (by simp)
  have g3 := bindOk_at hy (k := 3) (by simp)
  simp only [List.getElem_cons_zero, List.getElem_cons_succ] at h0 h1 h2 h3 g0 g1 g2 g3
  simp only [encB, List.getD_cons_zero, List.getD_cons_succ] at h
  simp only [cmpL]
  by_cases e0 : a = a'
  · rw [if_pos e0]
    by_cases e1 : b = b'
    · rw [if_pos e1]
      by_cases e2 : c = c'
      · rw [if_pos e2]
        by_cases e3 : d = d'
        · omega
        · rw [if_neg e3, cmpI_neg]; omega
      · rw [if_neg e2, cmpI_neg]; omega
    · rw [if_neg e1, cmpI_neg]; omega
  · rw [if_neg e0, cmpI_neg]; omega
theorem IsSols.ok {qs : List LQ} {S : List (List Int)} (h : IsSols qs S) : ∀ b ∈ S, bindOk b = true := fun b hb => ((h.2 b).1 hb).1
theorem IsSols.up {qs : List LQ} {S S' : List (List Int)} (h : IsSols qs S) (hp : S'.Perm S) (hu : UpW S') : UpB S' ∧ IsSols qs S' := by
  have hn : S'.Nodup := hp.nodup_iff.2 h.1
  have hok : ∀ b ∈ S', bindOk b = true := fun b hb => h.ok b (hp.mem_iff.1 hb)
  refine ⟨?_, hn, fun b => by rw [hp.mem_iff, h.2 b]⟩
  refine List.Pairwise.imp_of_mem (fun {x y} hx hy hh => ?_) (hu.and hn)
  refine cmp_enc (hok x hx) (hok y hy) ?_
  rcases Nat.lt_or_ge (encB x) (encB y) with h1 | h1
  · exact h1
  · exact absurd (encB_inj (hok x hx) (hok y hy) (Nat.le_antisymm hh.1 h1)) hh.2

/-- The solutions of a body in facts. -/
def solsL (fs : List LFact) (ls : List LLit) : List (List Int) := if bodySafe ls && constsL fs then solsOf (setOf fs) ls else []
theorem asc_nodup {fs : List LFact} (h : Asc fs) : fs.Nodup := h.imp fun h e => by
  subst e
  rw [order_refl] at h
  omega
theorem solsL_is {fs : List LFact} {ls : List LLit} (h : bodySafe ls = true) (hc : constsL fs = true) {S : List (List Int)} (hu : UpB S) (hs : IsSols (questL fs ls) S) : S = solsL fs ls := by
  have hc' := consts_of hc
  obtain ⟨h1, h2⟩ := solsOf_is (fs := fs) (gs := setOf fs) (SafeB.of h) (fun f hf => hc' f ((setOf_mem fs f).1 hf)) (asc_nodup (setOf_asc fs)) (setOf_mem fs)
  unfold solsL
  rw [h, hc]
  show S = solsOf (setOf fs) ls
  exact hu.unique h1 fun b => by rw [hs.2 b, h2.2 b]

end Go.Proofs.YtokmmloakahkhaaGreatDoor
/-
  The specification's FactsEither and l1Pick: facts laid into a list one after another.
-/
namespace Go.Proofs.YtokmmloakahkhaaGreatDoor
open Go.RowKit

theorem foldWith_bound : ∀ (l out : List LFact), (l.foldl factsWith out).length ≤ out.length + l.length ∧ tot (l.foldl factsWith out) ≤ tot out + tot l
  | [], out => by simp [tot]
  | f :: l, out => by
    have h1 := factsWith_bound out f
    have h2 := foldWith_bound l (factsWith out f)
    rw [tot_cons]
    simp only [List.foldl_cons, List.length_cons]
    omega
theorem setOf_bound (l : List LFact) : (setOf l).length ≤ l.length ∧ tot (setOf l) ≤ tot l := by
  have := foldWith_bound l []
  unfold setOf
  simpa [tot] using this
theorem setOf_snoc (l : List LFact) (f : LFact) : setOf (l ++ [f]) = factsWith (setOf l) f := by simp [setOf, List.foldl_append]

set_option maxHeartbeats 1000000 in
set_option maxRecDepth 100000 in
theorem specFactsEither_any (v v2 : Value) (xs ys : List LFact) (w : World) (h : RdFacts w w.heap.size v xs) (h2 : RdFacts w w.heap.size v2 ys) (hn : xs.length + ys.length ≤ 1048576) (ht : tot xs + tot ys ≤ 1048576) :
    Calls Tryz.prog 81 #[v, v2] w fun e w' => ∃ A' c', e = .returned (.slice A' (setOf (xs ++ ys)).length c') ∧ OwnFacts w' w.heap.size w'.heap.size (.slice A' (setOf (xs ++ ys)).length c') (setOf (xs ++ ys)) ∧ Below w.heap.size w w' := by
  have H := Lib.hid h
  have H2 := Lib.hid h2
  obtain ⟨A, c, rfl, hc, _⟩ := h
  obtain ⟨A2, c2, rfl, hc2, _⟩ := h2
  go_enter Tryz.func81, Tryz.ntmps81
  go_wp2_with (fail)
  go_loopw [5, 6] (fun o i wr => ∃ (k : Nat) (gs : List LFact) (A' : Option Addr) (c' : Nat), k ≤ xs.length ∧ i = .int .i64 k ∧ gs = setOf (xs.take k) ∧ o = .slice A' gs.length c' ∧ OwnFacts wr w.heap.size wr.heap.size (.slice A' gs.length c') gs ∧ Below w.heap.size w wr) (fun _ i _ => xs.length - (intOf i).toNat)
  case atStart => exact ⟨0, [], _, 0, Nat.zero_le _, rfl, rfl, rfl, (ColRel.empty w).own.own.mono (Nat.le_refl _) (Nat.le_refl _), below1 _ _⟩
  case round =>
    obtain ⟨k, gs, A', c', hk, rfl, hgs, rfl, ho, hbe⟩ := hrel
    have hbd := setOf_bound (xs.take k)
    rw [← hgs, List.length_take] at hbd
    have htk := tot_take_le xs k
    have HO := Lib.hid ho
    have HG := Lib.hid hgs
    clear ho hgs
    by_cases hlt : k < xs.length
    · obtain ⟨b, o, A3, c3, rfl, hbB, k1, k2, k3⟩ := (H.out.on hbe).get hlt
      have hln := len_le_tot xs k hlt
      have K3 := Lib.hid (show RdFact wr wr.heap.size (.agg #[.int .i64 xs[k].1, .slice A3 xs[k].2.length c3]) xs[k] from ⟨_, rfl, k3⟩)
      clear k3
      go_wp2_with (fail)
      refine (specFactsWith_any _ _ gs xs[k] _ HO.out.rd K3.out (by omega) (by omega) (by omega)).mono ?_
      rintro e w2 ⟨A4, c4, rfl, ho4, hb4⟩
      have HR := Lib.hid (show OwnFacts w2 w.heap.size w2.heap.size _ _ from ho4.mono hbe.size (Nat.le_refl _))
      have HB := Lib.hid (bthen hbe hb4)
      have HE := Lib.hid (show factsWith gs xs[k] = setOf (xs.take (k + 1)) by rw [take_snoc xs k hlt, setOf_snoc, ← HG.out])
      clear ho4 hb4
      go_wp2_with (fail)
      go_roundw
      case rel => exact ⟨k + 1, factsWith gs xs[k], _, _, by omega, by go_num, HE.out, rfl, HR.out, HB.out⟩
      case measure => simp [intOf]; omega
    · have hkn : k = xs.length := by omega
      subst hkn
      have HX := Lib.hid (show gs = setOf xs by rw [HG.out, List.take_length])
      clear HG
      go_wp2_with (fail)
      go_loopw [5, 7] (fun o i wq => ∃ (k : Nat) (gs : List LFact) (A' : Option Addr) (c' : Nat), k ≤ ys.length ∧ i = .int .i64 k ∧ gs = setOf (xs ++ ys.take k) ∧ o = .slice A' gs.length c' ∧ OwnFacts wq w.heap.size wq.heap.size (.slice A' gs.length c') gs ∧ Below w.heap.size w wq) (fun _ i _ => ys.length - (intOf i).toNat)
      case atStart => exact ⟨0, gs, _, _, Nat.zero_le _, rfl, by simpa using HX.out, rfl, HO.out, hbe⟩
      case round =>
        obtain ⟨k, gs, A', c', hk, rfl, hgs, rfl, ho, hbe⟩ := hrel
        have hbd := setOf_bound (xs ++ ys.take k)
        rw [← hgs, tot_append, List.length_append, List.length_take] at hbd
        have htk := tot_take_le ys k
        have HO := Lib.hid ho
        have HG := Lib.hid hgs
        clear ho hgs
        by_cases hlt : k < ys.length
        · obtain ⟨b, o, A3, c3, rfl, hbB, k1, k2, k3⟩ := (H2.out.on hbe).get hlt
          have hln := len_le_tot ys k hlt
          have K3 := Lib.hid (show RdFact _ _ (.agg #[.int .i64 ys[k].1, .slice A3 ys[k].2.length c3]) ys[k] from ⟨_, rfl, k3⟩)
          clear k3
          go_wp2_with (fail)
          refine (specFactsWith_any _ _ gs ys[k] _ HO.out.rd K3.out (by omega) (by omega) (by omega)).mono ?_
          rintro e w2 ⟨A4, c4, rfl, ho4, hb4⟩
          have HR := Lib.hid (show OwnFacts w2 w.heap.size w2.heap.size _ _ from ho4.mono hbe.size (Nat.le_refl _))
          have HB := Lib.hid (bthen hbe hb4)
          have HE := Lib.hid (show factsWith gs ys[k] = setOf (xs ++ ys.take (k + 1)) by rw [take_snoc ys k hlt, ← List.append_assoc, setOf_snoc, ← HG.out])
          clear ho4 hb4
          go_wp2_with (fail)
          go_roundw
          case rel => exact ⟨k + 1, factsWith gs ys[k], _, _, by omega, by go_num, HE.out, rfl, HR.out, HB.out⟩
          case measure => simp [intOf]; omega
        · have hkn : k = ys.length := by omega
          subst hkn
          have HY := Lib.hid (show gs = setOf (xs ++ ys) by rw [HG.out, List.take_length])
          have HB := Lib.hid hbe
          clear HG
          go_wp2_with (fail)
          go_ret
          rw [← HY.out]
          exact ⟨A', c', rfl, HO.out, HB.out⟩

end Go.Proofs.YtokmmloakahkhaaGreatDoor
/-
  The specification's l3Solutions and Solutions.
-/
namespace Go.Proofs.YtokmmloakahkhaaGreatDoor
open Go.RowKit

/-- A row of literals whose integers stand elsewhere. -/
def flatR : List LLit → List Value → List Value
  | l :: ls, u :: us => .int .i64 l.1 :: .int .i64 l.2.1 :: u :: flatR ls us
  | _, _ => []
theorem flatR_snoc : ∀ (ls : List LLit) (us : List Value) (_ : us.length = ls.length) (l : LLit) (u : Value), flatR (ls ++ [l]) (us ++ [u]) = flatR ls us ++ [.int .i64 l.1, .int .i64 l.2.1, u]
  | [], [], _, l, u => by simp [flatR]
  | [], u' :: us, h, _, _ => by simp at h
  | l :: ls, [], h, _, _ => by simp at h
  | l :: ls, u :: us, h, m, b => by simp [flatR, flatR_snoc ls us (by simpa using h) m b]
theorem flatR_at : ∀ (ls : List LLit) (us : List Value) (_ : us.length = ls.length) (k : Nat) (hk : k < ls.length) (hk' : k < us.length),
    (flatR ls us)[k * 3]? = some (.int .i64 ls[k].1) ∧ (flatR ls us)[k * 3 + 1]? = some (.int .i64 ls[k].2.1) ∧ (flatR ls us)[k * 3 + 2]? = some us[k]
  | l :: ls, u :: us, h, 0, _, _ => ⟨rfl, rfl, rfl⟩
  | l :: ls, u :: us, h, k + 1, h1, h2 => by
    have ih := flatR_at ls us (by simpa using h) k (by simpa using h1) (by simpa using h2)
    have e : ∀ r, (flatR (l :: ls) (u :: us))[(k + 1) * 3 + r]? = (flatR ls us)[k * 3 + r]? := fun r => by
      rw [show (k + 1) * 3 + r = (k * 3 + r) + 1 + 1 + 1 by omega]
      rfl
    have e0 := e 0
    rw [Nat.add_zero, Nat.add_zero] at e0
    rw [e0, e 1, e 2]
    exact ih
/-- The relation of a loop that collects literals that stand elsewhere. -/
structure ColLR (w wr : World) (ls : List LLit) (A : Option Addr) (c : Nat) (us : List Value) : Prop where
  below : Below w.heap.size w wr
  len : us.length = ls.length
  inn : ∀ i (h : i < ls.length) (h' : i < us.length), RdInts wr w.heap.size us[i] ls[i].2.2
  row : wr.ownsRow w.heap.size 91 3 (.slice A ls.length c) ls.length (flatR ls us)
theorem ColLR.empty (w wr : World) (hb : Below w.heap.size w wr) : ColLR w (wr.alloc (.cells #[] 91)) [] (some ⟨wr.heap.size, 0, none⟩) 0 [] :=
  ⟨hb.alloc hb.size _, rfl, fun i h => absurd h (by simp), World.ownsRow_made wr #[] 0 hb.size (by decide) rfl⟩
theorem ColLR.on {w wr w2 : World} {ls : List LLit} {A : Option Addr} {c : Nat} {us : List Value} (h : ColLR w wr ls A c us) (hb : Below wr.heap.size wr w2) : ColLR w w2 ls A c us :=
  ⟨bthen h.below hb, h.len, fun i a b => (h.inn i a b).below hb h.below.size, ownsRow_below h.row (fun g hg => (h.row.lt g hg).2) hb (Nat.le_refl _)⟩
theorem ColLR.push {w wr w2 w4 : World} {ls ls' : List LLit} {A : Option Addr} {c g cap : Nat} {l : LLit} {u : Value} {o : Obj} {us : List Value} (h : ColLR w wr ls A c us) (e : ls' = ls ++ [l]) (hb : Below wr.heap.size wr w2) (hu : RdInts w2 w.heap.size u l.2.2)
    (hg : (w2.alloc o).grownBy w4 (Value.slice A ls.length c).ownBlock) (hown : w4.ownsRow w.heap.size 91 3 (.slice (some ⟨g, 0, none⟩) (ls.length + 1) cap) (ls.length + 1) (flatR ls us ++ [.int .i64 l.1, .int .i64 l.2.1, u])) :
    ColLR w w4 ls' (some ⟨g, 0, none⟩) cap (us ++ [u]) ∧ ls.length + 1 = ls'.length := by
  subst e
  have h2 := h.on hb
  have hl : (ls ++ [l]).length = ls.length + 1 := by simp
  have hB : Below w.heap.size w2 w4 := by
    have hg' := grown_from_alloc hg
    refine ⟨hg'.os, hg'.tape, hg'.output, hg'.size, fun k hk => hg'.block k (by have := h2.below.size; omega) (fun e => ?_)⟩
    have := (h2.row.lt k e.symm).1
    omega
  refine ⟨⟨h2.below.trans hB, by simp [h.len], fun i h1 h3 => ?_, by rw [hl, flatR_snoc ls us h.len]; exact hown⟩, hl.symm⟩
  by_cases e : i < ls.length
  · have e' : i < us.length := by rw [h.len]; exact e
    rw [List.getElem_append_left e', List.getElem_append_left e]
    exact (h2.inn i e e').below hB (Nat.le_refl _)
  · have e2 : i = ls.length := by simp at h1; omega
    subst e2
    have := h.len
    simp [← this]
    exact hu.below hB (Nat.le_refl _)
theorem ColLR.rd {w wr : World} {ls : List LLit} {A : Option Addr} {c : Nat} {us : List Value} (h : ColLR w wr ls A c us) : RdLits wr wr.heap.size (.slice A ls.length c) ls := by
  have hcells := @World.ownsRow.cells wr w.heap.size 91 3 (.slice A ls.length c) ls.length (flatR ls us) h.row
  have hl := h.len
  have hsz := h.below.size
  obtain ⟨hfl, hr⟩ := h.row
  rcases hr with ⟨e, h0⟩ | ⟨g, cap, cur, e, hb, hgg, hn, _⟩
  · have : ls = [] := List.eq_nil_of_length_eq_zero h0
    subst this
    injection e with e1 _ e3
    subst e1 e3
    exact ⟨none, 0, rfl, by simp, fun h => absurd h (by simp)⟩
  · injection e with e1 _ e3
    subst e1 e3
    refine ⟨_, c, rfl, hn, fun _ => ⟨g, 0, rfl, Blk.lt hgg, fun k hk => ?_⟩⟩
    obtain ⟨c0, c1, c2⟩ := flatR_at ls us hl k hk (by omega)
    have d0 := hcells (g := g) rfl _ _ c0
    have d1 := hcells (g := g) rfl _ _ c1
    have d2 := hcells (g := g) rfl _ _ c2
    rw [Go.WideShapes.add_plain] at d0 d1 d2
    exact ⟨_, _, _, d0, d1, d2, rfl, rfl, (h.inn k hk (by omega)).more hsz⟩
theorem news3s (w : World) (x y z : Value) (t : TypeId) (n : Nat) (hn : w.heap.size = n) : ∀ j u, [x, y, z][j]? = some u → (w.alloc (.cells #[x, y, z] t)).cell? ((⟨n, 0, none⟩ : Addr).add j) = some u :=
  hn ▸ World.news_of_block (cs := #[x, y, z]) (heap_alloc_new w _)

theorem totL_sub : ∀ {xs ys : List LLit}, xs.Sublist ys → totL xs ≤ totL ys
  | _, _, .slnil => Nat.le_refl _
  | _, _, .cons a h => by have := totL_sub h; simp only [totL, List.map_cons, List.sum_cons] at this ⊢; omega
  | _, _, .cons_cons a h => by have := totL_sub h; simp only [totL, List.map_cons, List.sum_cons] at this ⊢; omega
/-- What the lists ahead of k, and list k with the facts ahead of j, become. -/
def nextTo (a : LFact) (fs : List LFact) (B : List (List Int)) (k j : Nat) : List (List Int) := nextL a fs (B.take k) ++ (fs.take j).filterMap fun f => matchL a f (B.getD k [])
theorem nextTo_none {a : LFact} {fs : List LFact} {B : List (List Int)} {k j : Nat} (hj : j < fs.length) (hk : k < B.length) (e : matchL a fs[j] B[k] = none) : nextTo a fs B k (j + 1) = nextTo a fs B k j := by
  unfold nextTo
  rw [take_snoc fs j hj, List.filterMap_append]
  simp [hk, e]
theorem nextTo_some {a : LFact} {fs : List LFact} {B : List (List Int)} {k j : Nat} {r : List Int} (hj : j < fs.length) (hk : k < B.length) (e : matchL a fs[j] B[k] = some r) : nextTo a fs B k (j + 1) = nextTo a fs B k j ++ [r] := by
  unfold nextTo
  rw [take_snoc fs j hj, List.filterMap_append]
  simp [hk, e]
theorem nextTo_row {a : LFact} {fs : List LFact} {B : List (List Int)} {k : Nat} (hk : k < B.length) : nextTo a fs B k fs.length = nextTo a fs B (k + 1) 0 := by
  have hd : B.getD k [] = B[k] := by simp [hk]
  unfold nextTo nextL
  rw [List.take_length, take_snoc B k hk, hd, List.flatMap_append]
  simp
theorem nextTo_start (a : LFact) (fs : List LFact) (B : List (List Int)) : nextTo a fs B 0 0 = [] := by simp [nextTo, nextL]
theorem nextTo_end (a : LFact) (fs : List LFact) (B : List (List Int)) : nextTo a fs B B.length 0 = nextL a fs B := by simp [nextTo]
theorem nextTo_len {a : LFact} {fs : List LFact} {B : List (List Int)} {k j : Nat} (hk : k < B.length) : (nextTo a fs B k j).length ≤ (nextL a fs B).length := by
  have e : B = B.take k ++ B[k] :: B.drop (k + 1) := by
    rw [← List.drop_eq_getElem_cons hk, List.take_append_drop]
  have h1 : (nextL a fs B).length = (nextL a fs (B.take k)).length + ((fs.filterMap fun f => matchL a f B[k]).length + (nextL a fs (B.drop (k + 1))).length) := by
    have key : ∀ (B1 B2 : List (List Int)) (b : List Int), (nextL a fs (B1 ++ b :: B2)).length = (nextL a fs B1).length + ((fs.filterMap fun f => matchL a f b).length + (nextL a fs B2).length) := fun B1 B2 b => by
      unfold nextL
      rw [List.flatMap_append, List.flatMap_cons, List.length_append, List.length_append]
    have := key (B.take k) (B.drop (k + 1)) B[k]
    rwa [← e] at this
  have h2 : ((fs.take j).filterMap fun f => matchL a f (B.getD k [])).length ≤ (fs.filterMap fun f => matchL a f B[k]).length := by
    have hd : B.getD k [] = B[k] := by simp [hk]
    rw [hd]
    exact ((List.take_sublist j fs).filterMap _).length_le
  unfold nextTo
  rw [List.length_append]
  omega

theorem WkRows.one {w : World} {lo : Nat} {u : Value} {xs : List Int} (h : OwnInts w lo w.heap.size u xs) (hl : lo ≤ w.heap.size) : WkRows (w.alloc (.cells #[u] 23)) lo (w.heap.size + 1) (.slice (some ⟨w.heap.size, 0, none⟩) 1 1) [xs] :=
  ⟨[u], ⟨rfl, fun i h1 h2 => by
    have : i = 0 := by simp at h1; omega
    subst this
    exact (h.below (below1 w _) (Nat.le_refl _)).mono (Nat.le_refl _) (by omega)⟩, ⟨rfl, .inr ⟨w.heap.size, 1, _, rfl, hl, heap_alloc_new w _, Nat.le_refl _, by decide, rfl, rfl⟩⟩, fun g hg => by simp [Value.ownBlock] at hg; omega⟩
theorem WkRows.empty (w : World) : WkRows (w.alloc (.cells #[] 23)) w.heap.size (w.heap.size + 1) (.slice (some ⟨w.heap.size, 0, none⟩) 0 0) [] :=
  ⟨[], ⟨rfl, fun i h => absurd h (by simp)⟩, World.ownsRow_made w #[] 0 (Nat.le_refl _) (by decide) rfl, fun g hg => by simp [Value.ownBlock] at hg; omega⟩

/-- What the outer loop has. -/
structure SolAt (w0 wr : World) (gs : List LFact) (ls : List LLit) (k : Nat) (Ab : Option Addr) (cb : Nat) (Ar : Option Addr) (cr : Nat) (us : List Value) : Prop where
  below : Below w0.heap.size w0 wr
  binds : WkRows wr w0.heap.size wr.heap.size (.slice Ab (bindsTo gs ls k).length cb) (bindsTo gs ls k)
  rest : ColLR w0 wr (restTo ls k) Ar cr us

set_option maxHeartbeats 16000000 in
set_option maxRecDepth 100000 in
theorem l3Solutions_any (v v2 : Value) (gs : List LFact) (ls : List LLit) (R : List (List Int)) (hR : R = solsOf gs ls) (w : World) (h : RdFacts w w.heap.size v gs) (h2 : RdLits w w.heap.size v2 ls) (hn : gs.length ≤ 1048576) (ht : tot gs ≤ 1048576) (hl : ls.length + totL ls ≤ 1048576)
    (hc : ∀ f ∈ gs, f.2.all constOk = true) (hnd : gs.Nodup) (hT : ∀ l ∈ ls, l.2.2.all termOk = true) :
    Calls Tryz.prog 127 #[v, v2] w fun e w' => ∃ A c, e = .returned (.slice A R.length c) ∧ WkRows w' w.heap.size w'.heap.size (.slice A R.length c) R ∧ Below w.heap.size w w' := by
  obtain ⟨i0, hi0, hz0, hz1, hz2⟩ := info_parts Tryz.infoIntS
  obtain ⟨i1, hi1, hy0, hy1, hy2⟩ := info_parts Tryz.infoLit
  have HR := Lib.hid hR
  have HC := Lib.hid hc
  have HT := Lib.hid hT
  have HOK := Lib.hid (fun k (hk : k ≤ ls.length) => bindsTo_ok hc hnd hT hk)
  have H00 := Lib.hid (And.intro h h2)
  obtain ⟨A, c, rfl, hcA, _⟩ := h
  obtain ⟨A2, c2, rfl, hc2, _⟩ := h2
  clear hR hc hT hnd
  go_enter Tryz.func127, Tryz.ntmps127
  go_upto_region 2 with fail
  have HO0 := Lib.hid (WkRows.empty w)
  obtain ⟨wA, hwA⟩ : ∃ wA, wA = w.alloc (Obj.cells #[] 23) := ⟨_, rfl⟩
  have hBA := Lib.hid (show Below w.heap.size w wA by rw [hwA]; exact below1 _ _)
  have hsA : wA.heap.size = w.heap.size + 1 := by rw [hwA]; simp
  rw [← hwA] at HO0 ⊢
  clear hwA
  have HSA := Lib.hid hsA
  have hsA2 : w.heap.size < wA.heap.size := by omega
  clear hsA
  have H := Lib.hid (H00.out.1.on hBA.out)
  have H2 := Lib.hid (H00.out.2.on hBA.out)
  clear H00
  go_upto_region 3 with (first
    | (go_at_call 159; refine (l3None_any _).mono ?_; rintro e w2 ⟨A4, c4, rfl, o4, b4⟩; have H4 := Lib.hid (And.intro o4 b4); clear o4 b4))
  obtain ⟨w3, hw3⟩ : ∃ w3, w3 = w2.alloc (Obj.cells #[Value.slice A4 4 c4] 23) := ⟨_, rfl⟩
  have HS0 := Lib.hid (show Below wA.heap.size wA w3 ∧ WkRows w3 wA.heap.size w3.heap.size (.slice (some ⟨w2.heap.size, 0, none⟩) 1 1) [noneB] from by
    obtain ⟨o4, b4⟩ := H4.out
    refine ⟨by rw [hw3]; exact bthen b4 (below1 _ _), ?_⟩
    have := WkRows.one o4 b4.size
    rw [hw3]
    exact this.mono (Nat.le_refl _) (by simp))
  rw [← hw3]
  clear hw3 H4
  go_upto_region 4 with fail
  have HSOL := Lib.hid (show SolAt wA (w3.alloc (Obj.cells #[] 91)) gs ls 0 (some ⟨w2.heap.size, 0, none⟩) 1 (some ⟨w3.heap.size, 0, none⟩) 0 [] from
    ⟨bthen HS0.out.1 (below1 _ _), (HS0.out.2.below (below1 _ _) (Nat.le_refl _)).mono (Nat.le_refl _) (by simp), ColLR.empty _ _ HS0.out.1⟩)
  clear HS0
  go_wp2_with fail
  go_loopw [6, 7, 8] (fun vb vr vi wr => ∃ (k : Nat) (Ab : Option Addr) (cb : Nat) (Ar : Option Addr) (cr : Nat) (us : List Value), k ≤ ls.length ∧ vi = .int .i64 k ∧ vb = .slice Ab (bindsTo gs ls k).length cb ∧ vr = .slice Ar (restTo ls k).length cr ∧ SolAt wA wr gs ls k Ab cb Ar cr us) (fun _ _ vi _ => ls.length - (intOf vi).toNat)
  case atStart => exact ⟨0, _, _, _, _, [], Nat.zero_le _, rfl, rfl, rfl, HSOL.out⟩
  case round =>
    obtain ⟨k, Ab, cb, Ar, cr, us, hk, rfl, rfl, rfl, hat⟩ := hrel
    have HAT := Lib.hid hat
    clear hat HSOL
    have hrl := restTo_length ls k
    by_cases hlt : k < ls.length
    · obtain ⟨b, o, u0, u1, u2, rfl, hbB, k0, k1, k2, rfl, rfl, p3⟩ := (H2.out.below HAT.out.below (Nat.le_refl _)).get hlt
      have HP3 := Lib.hid p3
      obtain ⟨A5, c5, rfl, hc5, _⟩ := p3
      have hln := len_le_totL ls k hlt
      by_cases h0 : ls[k].1 = 0
      · have hd : (ls[k].1 != 0) = false := by simp [h0]
        have HY := Lib.hid (bindsTo_yes (fs := gs) hlt h0)
        have HRY := Lib.hid (restTo_yes hlt h0)
        have hta := HT.out _ (List.getElem_mem hlt)
        have HLN := Lib.hid (HOK.out (k + 1) (by omega)).2
        have HBK := Lib.hid (HOK.out k (by omega))
        obtain ⟨B, hB⟩ : ∃ B, B = bindsTo gs ls k := ⟨_, rfl⟩
        have HBB := Lib.hid (show WkRows wr wA.heap.size wr.heap.size (.slice Ab B.length cb) B by rw [hB]; exact HAT.out.binds)
        rw [← hB] at HY HBK ⊢
        rw [HY.out] at HLN
        have HBE := Lib.hid hB
        have hbn : B.length ≤ 65536 := HBK.out.2
        clear hB
        go_wp2_with fail
        rename World => w1
        have C0 := Lib.hid (ColS.empty (lo := w1.heap.size) (Below.refl w1.heap.size w1))
        go_loopw [9, 10] (fun vn vp wr => ∃ (p : Nat) (An : Option Addr) (cn : Nat) (av : List Value), p ≤ B.length ∧ vp = .int .i64 p ∧ vn = .slice An (nextTo ls[k].2 gs B p 0).length cn ∧ ColS w1.heap.size w1 wr (nextTo ls[k].2 gs B p 0) An cn av) (fun _ vp _ => B.length - (intOf vp).toNat)
        case atStart =>
          refine ⟨0, some ⟨w1.heap.size, 0, none⟩, 0, [], Nat.zero_le _, rfl, ?_, ?_⟩
          · rw [nextTo_start]; rfl
          · rw [nextTo_start]; exact C0.out
        case round =>
          obtain ⟨p, An, cn, av, hp, rfl, rfl, hcol⟩ := hrel
          by_cases hltp : p < B.length
          · have HCOL := Lib.hid hcol
            clear hcol
            go_wp2_with fail
            rename World => w5
            go_loopw [9, 11] (fun vn vj wr => ∃ (j : Nat) (An : Option Addr) (cn : Nat) (av : List Value), j ≤ gs.length ∧ vj = .int .i64 j ∧ vn = .slice An (nextTo ls[k].2 gs B p j).length cn ∧ ColS w1.heap.size w1 wr (nextTo ls[k].2 gs B p j) An cn av) (fun _ vj _ => gs.length - (intOf vj).toNat)
            case atStart => exact ⟨0, An, cn, av, Nat.zero_le _, rfl, rfl, HCOL.out⟩
            case round =>
              obtain ⟨j, An, cn, av, hj, rfl, rfl, hcol⟩ := hrel
              have HCO := Lib.hid hcol
              have B1 := hcol.below
              clear hcol
              have BW := bthen HAT.out.below B1
              by_cases hltj : j < gs.length
              · obtain ⟨b3, o3, A6, c6, rfl, hb3, f0, f1, p6⟩ := (H.out.below BW (Nat.le_refl _)).get hltj
                obtain ⟨gb, A7, c7, rfl, hgb, r0, o7⟩ := (HBB.out.below B1 (Nat.le_refl _)).get hltp
                have hsz1 := B1.size
                have hszA := HAT.out.below.size
                have hlf := len_le_tot gs j hltj
                have hcf := HC.out _ (List.getElem_mem hltj)
                have hbok := HBK.out.1 _ (List.getElem_mem hltp)
                have hb4 := bindOk_len hbok
                have hbl : b < wr.heap.size := by omega
                have hb3l : b3 < wr.heap.size := by omega
                have hgl : gb < wr.heap.size := hgb
                have k1' : wr.cell? ⟨b, o + k * 3 + 1, none⟩ = some (.int .i64 ls[k].2.1) := (B1.cell (p := ⟨b, o + k * 3 + 1, none⟩) (by show b < w1.heap.size; omega)).trans k1
                have k2' : wr.cell? ⟨b, o + k * 3 + 2, none⟩ = some (.slice A5 ls[k].2.2.length c5) := (B1.cell (p := ⟨b, o + k * 3 + 2, none⟩) (by show b < w1.heap.size; omega)).trans k2
                have HS := Lib.hid (show ∀ W, Below wr.heap.size wr W → (Below wr.heap.size wr W ∧ W.cell? ⟨b, o + k * 3 + 1, none⟩ = some (.int .i64 ls[k].2.1) ∧ W.cell? ⟨b, o + k * 3 + 2, none⟩ = some (.slice A5 ls[k].2.2.length c5) ∧ W.cell? ⟨b3, o3 + j * 2, none⟩ = some (.int .i64 gs[j].1) ∧ W.cell? ⟨b3, o3 + j * 2 + 1, none⟩ = some (.slice A6 gs[j].2.length c6) ∧ W.cell? ⟨gb, p, none⟩ = some (.slice A7 B[p].length c7)) from fun W hW =>
                  ⟨hW, (hW.cell (p := ⟨b, o + k * 3 + 1, none⟩) hbl).trans k1', (hW.cell (p := ⟨b, o + k * 3 + 2, none⟩) hbl).trans k2', (hW.cell (p := ⟨b3, o3 + j * 2, none⟩) hb3l).trans f0, (hW.cell (p := ⟨b3, o3 + j * 2 + 1, none⟩) hb3l).trans f1, (hW.cell (p := ⟨gb, p, none⟩) hgl).trans r0⟩)
                obtain ⟨Rm, hRm⟩ : ∃ Rm, Rm = (matchL ls[k].2 gs[j] B[p]).getD [] := ⟨_, rfl⟩
                obtain ⟨ok, hok⟩ : ∃ ok, ok = (matchL ls[k].2 gs[j] B[p]).isSome := ⟨_, rfl⟩
                have HM := Lib.hid (show ∀ W, Below wr.heap.size wr W → Calls Tryz.prog 160 #[.agg #[.int .i64 ls[k].2.1, .slice A5 ls[k].2.2.length c5], .agg #[.int .i64 gs[j].1, .slice A6 gs[j].2.length c6], .slice A7 B[p].length c7] W fun e w' => ∃ A' c', e = .returned (.tuple #[.slice A' Rm.length c', .bool ok]) ∧ OwnInts w' wr.heap.size w'.heap.size (.slice A' Rm.length c') Rm ∧ Below wr.heap.size wr w' from fun W hW =>
                  (l3Match_n _ _ _ ls[k].2 gs[j] B[p] Rm ok hRm hok W hbok ⟨_, rfl, (HP3.out.below (bthen B1 hW) (by omega)).more (by have := hW.size; omega)⟩ ⟨_, rfl, (p6.below hW (by omega)).more (by have := hW.size; omega)⟩ ((o7.below hW (by omega)).rd.more (by have := hW.size; omega)) hta hcf (by omega) (by omega)).mono fun e w' ⟨A', c', he, ho, hb⟩ => ⟨A', c', he, ho.mono hW.size (Nat.le_refl _), bthen hW hb⟩)
                have HLE := Lib.hid (Nat.le_trans (nextTo_len (a := ls[k].2) (fs := gs) (j := j) hltp) HLN.out)
                have HMM := Lib.hid (And.intro hRm hok)
                clear p6 o7 hRm hok hcf hbok hb4 hln
                go_upto_region 16 with fail
                go_cut [12, 13] (fun s0 s1 wx => ∃ (Q : Option Addr) (f : Nat), s0 = .slice Q Rm.length f ∧ s1 = .bool ok ∧ OwnInts wx wr.heap.size wx.heap.size (.slice Q Rm.length f) Rm ∧ Below wr.heap.size wr wx)
                case first =>
                  clear k0 k1 k2 k1' k2' f0 f1 r0
                  go_region_held3 (fun W => Below wr.heap.size wr W ∧ W.cell? ⟨b, o + k * 3 + 1, none⟩ = some (.int .i64 ls[k].2.1) ∧ W.cell? ⟨b, o + k * 3 + 2, none⟩ = some (.slice A5 ls[k].2.2.length c5) ∧ W.cell? ⟨b3, o3 + j * 2, none⟩ = some (.int .i64 gs[j].1) ∧ W.cell? ⟨b3, o3 + j * 2 + 1, none⟩ = some (.slice A6 gs[j].2.length c6) ∧ W.cell? ⟨gb, p, none⟩ = some (.slice A7 B[p].length c7))
                    (first | exact HS.out _ (Below.refl _ _) | exact HS.out _ (Below.refl _ _).drew | exact HS.out _ (bthen (And.left (by assumption)) (by assumption)) | exact HS.out _ (by assumption))
                    (first
                      | (go_at_call 160; refine (HM.out _ (And.left (by assumption))).mono ?_; rintro e w_r ⟨Q, f, rfl, oo, hb_r⟩))
                  all_goals (go_wp2_with fail; go_meet; exact ⟨_, _, rfl, rfl, oo, hb_r⟩)
                case rest =>
                  obtain ⟨Q, f, rfl, rfl, oo, hb_r⟩ := hcut
                  clear HS HM k0 k1 k2 k1' k2' f0 f1 r0
                  generalize wc = w6 at *
                  have HOO := Lib.hid (And.intro oo hb_r)
                  clear oo hb_r
                  obtain ⟨hRm, hok⟩ := HMM.out
                  cases hm : matchL ls[k].2 gs[j] B[p] with
                  | none =>
                    rw [hm] at hok
                    have hokf : ok = false := hok
                    subst hokf
                    have HE := Lib.hid (nextTo_none hltj hltp hm)
                    clear hm hRm hok
                    go_wp2_with fail
                    go_roundw
                    case rel => exact ⟨j + 1, An, cn, av, by omega, by go_num, by rw [HE.out], by rw [HE.out]; exact HCO.out.on HOO.out.2⟩
                    case measure => simp [intOf]; omega
                  | some r =>
                    rw [hm] at hok hRm
                    have hokf : ok = true := hok
                    subst hokf
                    have hRr : Rm = r := hRm
                    subst hRr
                    have HE := Lib.hid (nextTo_some hltj hltp hm)
                    clear hm hRm hok
                    obtain ⟨zs, hzs⟩ : ∃ zs, zs = nextTo ls[k].2 gs B p j := ⟨_, rfl⟩
                    have hzl : zs.length ≤ 65536 := by rw [hzs]; exact HLE.out
                    rw [← hzs] at HCO HE ⊢
                    have HZ := Lib.hid hzs
                    clear hzs
                    go_wp2_with (at_builtin; refine wpList_append_lies _ rfl (.tmp 69) (.tmp 71) 39 rfl w1.heap.size 23 i0 (.slice none 0 0) 1 24 Tryz.underlying39 hi0 hz0 hz1 hz2 rfl (by decide) (.slice An zs.length cn) zs.length av rfl ?c1 ⟨_, 0, none⟩ 1 1 [.slice Q Rm.length f] rfl rfl (news1s _ _ _ _ (by simp)) ?c2 (by omega) (by unfold maxLen; omega) (by omega) ?c3 _ rfl ?_)
                    case c1 => exact (HCO.out.on HOO.out.2).row.alloc _
                    case c2 => intro u hu; simp at hu; subst hu; rfl
                    case c3 => have := HCO.out.below.size; have := HOO.out.2.size; simp; omega
                    intro g2 cap w8 hown hg _ _
                    obtain ⟨hcol, hlen⟩ := (HCO.out.on HOO.out.2).push HE.out (Below.refl _ _) (HOO.out.1.mono (by have := HCO.out.below.size; omega) (Nat.le_refl _)) hg hown
                    rw [hlen]
                    have HC2 := Lib.hid hcol
                    clear hcol hown hg
                    go_wp2_with fail
                    go_roundw
                    case rel => exact ⟨j + 1, _, _, _, by omega, by go_num, rfl, HC2.out⟩
                    case measure => simp [intOf]; omega
              · have HE := Lib.hid (show nextTo ls[k].2 gs B p j = nextTo ls[k].2 gs B (p + 1) 0 by rw [show j = gs.length by omega]; exact nextTo_row hltp)
                go_wp2_with fail
                go_roundw
                case rel => exact ⟨p + 1, An, cn, av, by omega, by go_num, by rw [HE.out], by rw [← HE.out]; exact HCO.out⟩
                case measure => simp [intOf]; omega
          · have HE := Lib.hid (show nextTo ls[k].2 gs B p 0 = bindsTo gs ls (k + 1) by rw [show p = B.length by omega, nextTo_end, HY.out])
            have HCOL := Lib.hid hcol
            have BW := bthen HAT.out.below hcol.below
            have HRE := Lib.hid (HAT.out.rest.on hcol.below)
            have hszA := HAT.out.below.size
            clear hcol
            go_wp2_with fail
            go_roundw
            case rel => exact ⟨k + 1, An, cn, Ar, cr, us, by omega, by go_num, by rw [HE.out], by rw [HRY.out], BW, by
              have := (HCOL.out.rows (Nat.le_refl _)).mono hszA (Nat.le_refl _)
              rw [HE.out] at this
              exact this, by rw [HRY.out]; exact HRE.out⟩
            case measure => simp [intOf]; omega
      · have hd : (ls[k].1 != 0) = true := by simp [h0]
        have HY := Lib.hid (bindsTo_no (fs := gs) hlt h0)
        have HRY := Lib.hid (restTo_no hlt h0)
        obtain ⟨zs, hzs⟩ : ∃ zs, zs = restTo ls k := ⟨_, rfl⟩
        have hzl : zs.length ≤ 1048576 := by rw [hzs]; omega
        have HRE := Lib.hid (show ColLR wA wr zs Ar cr us by rw [hzs]; exact HAT.out.rest)
        rw [← hzs] at HRY ⊢
        clear hzs
        go_wp2_with (at_builtin; refine wpList_append_lies _ rfl (.tmp 31) (.tmp 36) 36 rfl wA.heap.size 91 i1 (.agg #[.int .i64 0, .int .i64 0, .slice none 0 0]) 3 40 Tryz.underlying36 hi1 hy0 hy1 hy2 rfl (by decide) (.slice Ar zs.length cr) zs.length (flatR zs us) rfl ?c1 ⟨_, 0, none⟩ 1 1 [.int .i64 ls[k].1, .int .i64 ls[k].2.1, .slice A5 ls[k].2.2.length c5] rfl rfl (news3s _ _ _ _ _ _ (by simp)) ?c2 (by omega) (by unfold maxLen; omega) (by omega) ?c3 _ rfl ?_)
        case c1 => exact HRE.out.row.alloc _
        case c2 => intro u hu; simp at hu; rcases hu with rfl | rfl | rfl <;> rfl
        case c3 => have := HRE.out.below.size; simp; omega
        intro g2 cap w8 hown hg _ _
        obtain ⟨hcol, hlen⟩ := HRE.out.push HRY.out (Below.refl _ _) HP3.out hg hown
        rw [hlen]
        have HC2 := Lib.hid hcol
        have HB8 := Lib.hid (show WkRows w8 wA.heap.size w8.heap.size (.slice Ab (bindsTo gs ls k).length cb) (bindsTo gs ls k) from by
          have hg' := grown_from_alloc hg
          obtain ⟨av, ⟨a1, a2⟩, a3, a4⟩ := HAT.out.binds
          have hne : ∀ {v : Value} {n m : Nat} {e : TypeId} {xs : List Value} {lo : Nat}, wr.ownsRow lo e m v n xs → e ≠ 91 → ∀ q, v.ownBlock = some q → w8.heap[q]? = wr.heap[q]? := fun {v n m e xs lo} hv hne q hq => hg'.block q (hv.lt q hq).2 fun e2 => by
            rcases HRE.out.row.2 with ⟨e3, _⟩ | ⟨g1, c1, cur1, e3, _, h1, _⟩
            · rw [e3] at e2; cases e2
            · rw [e3] at e2
              have e4 : g1 = q := by simpa [Value.ownBlock] using e2.symm
              subst e4
              exact blk_ne_row hv (show Blk wr g1 91 cur1 from h1) hne hq
          exact ⟨av, ⟨a1, fun i x y => ((a2 i x y).kept (hne (a2 i x y).1 (by decide))).mono (Nat.le_refl _) hg'.size⟩, ownsRow_only a3 (hne a3 (by decide)), fun q hq => Nat.lt_of_lt_of_le (a4 q hq) hg'.size⟩)
        clear hcol hown hg
        go_wp2_with fail
        go_roundw
        case rel => exact ⟨k + 1, Ab, cb, _, _, _, by omega, by go_num, by rw [HY.out], rfl, HC2.out.below, by rw [HY.out]; exact HB8.out, HC2.out⟩
        case measure => simp [intOf]; omega
    · rename World => w1
      have hkn : k = ls.length := by omega
      subst hkn
      obtain ⟨B, hB⟩ : ∃ B, B = bindsTo gs ls ls.length := ⟨_, rfl⟩
      obtain ⟨rs, hrs⟩ : ∃ rs, rs = restTo ls ls.length := ⟨_, rfl⟩
      have HBB := Lib.hid (show WkRows w1 wA.heap.size w1.heap.size (.slice Ab B.length cb) B by rw [hB]; exact HAT.out.binds)
      have HRS := Lib.hid (show RdLits w1 w1.heap.size (.slice Ar rs.length cr) rs by rw [hrs]; exact HAT.out.rest.rd)
      have HBK := Lib.hid (show (∀ b ∈ B, bindOk b = true) ∧ B.length ≤ 65536 by rw [hB]; exact HOK.out _ (Nat.le_refl _))
      have hsub : ∀ l ∈ rs, l ∈ ls := fun l hl => by
        rw [hrs] at hl
        unfold restTo at hl
        rw [List.take_length] at hl
        exact (List.mem_filter.1 hl).1
      have HTR := Lib.hid (show ∀ l ∈ rs, l.2.2.all termOk = true from fun l hl => HT.out l (hsub l hl))
      have htr : totL rs ≤ totL ls := by
        have : rs.Sublist ls := by
          rw [hrs]
          unfold restTo
          rw [List.take_length]
          exact List.filter_sublist
        exact totL_sub this
      have hrn : rs.length ≤ 1048576 := by rw [hrs]; omega
      have HRR := Lib.hid (show R = triedTo gs rs B B.length by rw [HR.out, hrs, hB]; rfl)
      have hbn := HBK.out.2
      have HO1 := Lib.hid ((HO0.out.below HAT.out.below (by have := HSA.out; omega)).mono (lo' := w.heap.size) (hi' := w1.heap.size) (Nat.le_refl _) (by have := HSA.out; have := HAT.out.below.size; omega))
      rw [← hB, ← hrs]
      clear hB hrs hsub hrl
      go_wp2_with fail
      go_loopw [5, 14] (fun vo vk wr => ∃ (k : Nat) (Ao : Option Addr) (co : Nat), k ≤ B.length ∧ vk = .int .i64 k ∧ vo = .slice Ao (triedTo gs rs B k).length co ∧ WkRows wr w.heap.size wr.heap.size (.slice Ao (triedTo gs rs B k).length co) (triedTo gs rs B k) ∧ Below w1.heap.size w1 wr) (fun _ vk _ => B.length - (intOf vk).toNat)
      case atStart => exact ⟨0, _, 0, Nat.zero_le _, rfl, rfl, HO1.out, Below.refl _ _⟩
      case round =>
        obtain ⟨q, Ao, co, hq, rfl, rfl, hout, hbe⟩ := hrel
        have hszA := HAT.out.below.size
        have hsz := hbe.size
        by_cases hltq : q < B.length
        · obtain ⟨gb, A7, c7, rfl, hgb, r0, o7⟩ := (HBB.out.below hbe (Nat.le_refl _)).get hltq
          have hbok := HBK.out.1 _ (List.getElem_mem hltq)
          have HB4 := Lib.hid (bindOk_len hbok)
          have hb4l : B[q].length ≤ 1048576 := by have := HB4.out; omega
          obtain ⟨bo, hbo⟩ : ∃ bo, bo = (rs.all fun l => litHolds gs l B[q]) := ⟨_, rfl⟩
          have CT := Lib.hid (l3Try_any (.slice A gs.length c) (.slice Ar rs.length cr) (.slice A7 B[q].length c7) gs rs B[q] bo hbo wr (H.out.on (bthen HAT.out.below hbe)) (HRS.out.on hbe) (o7.rd.more (by omega)) HB4.out HTR.out hn ht hrn (by omega))
          obtain ⟨T, hTe⟩ : ∃ T, T = triedTo gs rs B q := ⟨_, rfl⟩
          have hTn : T.length ≤ 65536 := by
            have hup := (triedTo_is gs rs B q hq).1
            rw [hTe]
            exact binds_len hup.nodup fun b hb => HBK.out.1 b (triedTo_sub hq b hb)
          have hTl : ∀ s ∈ T, s.length ≤ 1048576 := fun s hs => by
            rw [hTe] at hs
            rw [bindOk_len (HBK.out.1 s (triedTo_sub hq s hs))]
            decide
          have HOUT := Lib.hid (show WkRows wr w.heap.size wr.heap.size (.slice Ao T.length co) T by rw [hTe]; exact hout)
          have HO7 := Lib.hid (show OwnInts wr w.heap.size wr.heap.size (.slice A7 B[q].length c7) B[q] from o7.mono (by omega) (by omega))
          have HBE := Lib.hid hbe
          have HTL := Lib.hid hTl
          have HTE := Lib.hid hTe
          rw [← hTe]
          clear o7 hbe hout hTl hTe hbok
          cases bo
          · have HE := Lib.hid (triedTo_no hltq hbo.symm)
            clear hbo
            go_wp2_with (go_at_call 161; refine CT.out.mono ?_; rintro e w2 ⟨rfl, hb2⟩; have HB2 := Lib.hid hb2; clear hb2)
            go_roundw
            case rel => exact ⟨q + 1, Ao, co, by omega, by go_num, by rw [HE.out, HTE.out], by rw [HE.out, ← HTE.out]; exact (HOUT.out.below HB2.out (Nat.le_refl _)).mono (Nat.le_refl _) HB2.out.size, bthen HBE.out HB2.out⟩
            case measure => simp [intOf]; omega
          · have HE := Lib.hid (triedTo_yes hltq hbo.symm)
            clear hbo
            obtain ⟨T2, hT2⟩ : ∃ T2, T2 = putB T B[q] := ⟨_, rfl⟩
            have HT2 := Lib.hid hT2
            have HPUT := Lib.hid (show ∀ W, Below wr.heap.size wr W → Calls Tryz.prog 162 #[.slice Ao T.length co, .slice A7 B[q].length c7] W fun e w' => ∃ A c, e = .returned (.slice A T2.length c) ∧ WkRows w' w.heap.size w'.heap.size (.slice A T2.length c) T2 ∧ Below W.heap.size W w' from fun W hW =>
              l3Put_any _ _ T B[q] T2 hT2 w.heap.size wr.heap.size W (HOUT.out.below hW (Nat.le_refl _)) (HO7.out.below hW (Nat.le_refl _)) hW.size (by have := hW.size; omega) (by omega) HTL.out (by omega))
            clear hT2
            have r0' : ∀ W, Below wr.heap.size wr W → W.cell? ⟨gb, q, none⟩ = some (.slice A7 B[q].length c7) := fun W hW => (hW.cell (p := ⟨gb, q, none⟩) hgb).trans r0
            have HR0 := Lib.hid r0'
            clear r0'
            go_wp2_with (first
              | (go_at_call 161; refine CT.out.mono ?_; rintro e w2 ⟨rfl, hb2⟩
                 have r2 := HR0.out w2 hb2
                 have HB2 := Lib.hid hb2
                 clear hb2)
              | (go_at_call 162; refine (HPUT.out _ HB2.out).mono ?_; rintro e w3 ⟨A8, c8, rfl, o8, b8⟩
                 have HO8 := Lib.hid (And.intro o8 b8)
                 clear o8 b8))
            go_roundw
            case rel => exact ⟨q + 1, A8, c8, by omega, by go_num, by rw [HE.out, ← HTE.out, ← HT2.out], by rw [HE.out, ← HTE.out, ← HT2.out]; exact HO8.out.1, bthen HBE.out (bthen HB2.out HO8.out.2)⟩
            case measure => simp [intOf]; omega
        · have HF := Lib.hid (show WkRows wr w.heap.size wr.heap.size (.slice Ao R.length co) R ∧ triedTo gs rs B q = R by
            have : q = B.length := by omega
            rw [this] at hout ⊢
            rw [HRR.out]
            exact ⟨hout, rfl⟩)
          have HBE := Lib.hid (bthen hBA.out (bthen HAT.out.below hbe))
          rw [HF.out.2]
          clear hout hbe
          go_wp2_with fail
          go_ret
          exact ⟨_, _, rfl, HF.out.1, HBE.out⟩

end Go.Proofs.YtokmmloakahkhaaGreatDoor
/-
  The specification's l4Of, l4All: the heads of rules.
-/
namespace Go.Proofs.YtokmmloakahkhaaGreatDoor
open Go.RowKit

/-- The heads for the first k lists. -/
def headsTo (a : LFact) (S : List (List Int)) : Nat → List LFact
  | 0 => []
  | k + 1 => if headOk a (S.getD k []) then factsWith (headsTo a S k) (headOf a (S.getD k [])) else headsTo a S k
theorem headsTo_yes {a : LFact} {S : List (List Int)} {k : Nat} (h : k < S.length) (e : headOk a S[k] = true) : headsTo a S (k + 1) = factsWith (headsTo a S k) (headOf a S[k]) := by
  have hd : S.getD k [] = S[k] := by simp [h]
  show (if _ then _ else _) = _
  rw [hd, if_pos e]
theorem headsTo_no {a : LFact} {S : List (List Int)} {k : Nat} (h : k < S.length) (e : headOk a S[k] = false) : headsTo a S (k + 1) = headsTo a S k := by
  have hd : S.getD k [] = S[k] := by simp [h]
  show (if _ then _ else _) = _
  rw [hd, if_neg (by rw [e]; simp)]
theorem headsTo_bound {a : LFact} {S : List (List Int)} (ha : a.2.length ≤ 2) : ∀ k, (headsTo a S k).length ≤ k ∧ tot (headsTo a S k) ≤ k * 2
  | 0 => ⟨Nat.le_refl _, Nat.le_refl _⟩
  | k + 1 => by
    have ih := headsTo_bound (S := S) ha k
    show List.length (if _ then _ else _) ≤ _ ∧ tot (if _ then _ else _) ≤ _
    split
    · have hb := factsWith_bound (headsTo a S k) (headOf a (S.getD k []))
      have hl := headOf_length a (S.getD k [])
      omega
    · omega
/-- The heads of a rule. -/
def headsL (r : LRule) (gs : List LFact) : List LFact := headsTo r.1 (solsOf gs r.2) (solsOf gs r.2).length

set_option maxHeartbeats 8000000 in
set_option maxRecDepth 100000 in
theorem l4Of_any (v v2 : Value) (r : LRule) (gs : List LFact) (w : World) (h : RdRule w w.heap.size v r) (h2 : RdFacts w w.heap.size v2 gs) (hn : gs.length ≤ 1048576) (ht : tot gs ≤ 1048576) (hl : r.2.length + totL r.2 ≤ 1048576)
    (hc : ∀ f ∈ gs, f.2.all constOk = true) (hnd : gs.Nodup) (hT : ∀ l ∈ r.2, l.2.2.all termOk = true) (ha : r.1.2.length ≤ 2) :
    Calls Tryz.prog 82 #[v, v2] w fun e w' => ∃ A c, e = .returned (.slice A (headsL r gs).length c) ∧ OwnFacts w' w.heap.size w'.heap.size (.slice A (headsL r gs).length c) (headsL r gs) ∧ Below w.heap.size w w' := by
  obtain ⟨a, b, rfl, h, h3⟩ := h
  have H := Lib.hid h
  have H2 := Lib.hid h2
  have H3 := Lib.hid h3
  obtain ⟨A, c, rfl, hcA, _⟩ := h
  obtain ⟨A2, c2, rfl, hc2, _⟩ := h2
  obtain ⟨A3, c3, rfl, hc3, _⟩ := h3
  obtain ⟨S, hS⟩ : ∃ S, S = solsOf gs r.2 := ⟨_, rfl⟩
  have HOKS := Lib.hid (show (∀ s ∈ S, bindOk s = true) ∧ S.length ≤ 65536 from by
    obtain ⟨h1, h2⟩ := bindsTo_ok hc hnd hT (Nat.le_refl _)
    rw [hS]
    have hup := (triedTo_is gs (restTo r.2 r.2.length) (bindsTo gs r.2 r.2.length) _ (Nat.le_refl _)).1
    have hok : ∀ s ∈ solsOf gs r.2, bindOk s = true := fun s hs => h1 s (triedTo_sub (Nat.le_refl _) s hs)
    exact ⟨hok, binds_len hup.nodup hok⟩)
  have CL := Lib.hid (fun W (hW : Below w.heap.size w W) => l3Solutions_any (.slice A2 gs.length c2) (.slice A3 r.2.length c3) gs r.2 S hS W (H2.out.on hW) (H3.out.on hW) hn ht hl hc hnd hT)
  have HR := Lib.hid (show headsL r gs = headsTo r.1 S S.length by rw [hS]; rfl)
  clear hc hnd hT hS
  go_enter Tryz.func82, Tryz.ntmps82
  go_upto_region 1 with fail
  obtain ⟨w1, hw1⟩ : ∃ w1, w1 = w.alloc (Obj.cells #[Value.int IntKind.i64 r.1.1, Value.slice A r.1.2.length c, Value.slice A3 r.2.length c3] 38) := ⟨_, rfl⟩
  have X1 : Blk w1 w.heap.size 38 #[.int .i64 r.1.1, .slice A r.1.2.length c, .slice A3 r.2.length c3] := by rw [hw1]; exact Blk.new _ _ _
  have B1 : Below w.heap.size w w1 := by rw [hw1]; exact below1 _ _
  rw [← hw1]
  clear hw1
  go_upto_region 2 with fail
  obtain ⟨w2, hw2⟩ : ∃ w2, w2 = w1.alloc (Obj.cells #[] 41) := ⟨_, rfl⟩
  have b2 : Below w1.heap.size w1 w2 := by rw [hw2]; exact below1 _ _
  have HO2 := Lib.hid (show OwnFacts w2 w1.heap.size w2.heap.size (.slice (some ⟨w1.heap.size, 0, none⟩) 0 0) [] by rw [hw2]; exact (ColRel.empty w1).own.own)
  rw [← hw2]
  clear hw2
  have X2 := X1.below b2 X1.lt
  have B2 := bthen B1 b2
  have hs12 := b2.size
  have hs01 := B1.size
  have x0 : w2.cell? ⟨w.heap.size, 0, none⟩ = some (.int .i64 r.1.1) := X2.cell 0
  have x1 : w2.cell? ⟨w.heap.size, 1, none⟩ = some (.slice A r.1.2.length c) := X2.cell 1
  have x2 : w2.cell? ⟨w.heap.size, 2, none⟩ = some (.slice A3 r.2.length c3) := X2.cell 2
  clear X1 b2 B1
  go_wp2_with (go_at_call 127; refine (CL.out _ B2).mono ?_; rintro e w3 ⟨A4, c4, rfl, o4, b4⟩; have H4 := Lib.hid (And.intro o4 b4); clear o4 b4)
  obtain ⟨o4, b4⟩ := H4.out
  have HX3 := Lib.hid (X2.below b4 X2.lt)
  have HS3 := Lib.hid o4
  have B3 := bthen B2 b4
  have hs23 := b4.size
  have HO3 := Lib.hid ((HO2.out.below b4 (Nat.le_refl _)).mono (show w.heap.size ≤ w1.heap.size by omega) (show w2.heap.size ≤ w3.heap.size by omega))
  have H1 := Lib.hid (H.out.on B3)
  have hXl : w.heap.size < w3.heap.size := HX3.out.lt
  clear o4 b4 H4 x0 x1 x2 X2 CL HO2
  go_loopw [5, 7] (fun vo vi wr => ∃ (k : Nat) (Ao : Option Addr) (co : Nat), k ≤ S.length ∧ vi = .int .i64 k ∧ vo = .slice Ao (headsTo r.1 S k).length co ∧ OwnFacts wr w.heap.size wr.heap.size (.slice Ao (headsTo r.1 S k).length co) (headsTo r.1 S k) ∧ Below w3.heap.size w3 wr) (fun _ vi _ => S.length - (intOf vi).toNat)
  case atStart => exact ⟨0, _, 0, Nat.zero_le _, rfl, rfl, HO3.out, Below.refl _ _⟩
  case round =>
    obtain ⟨k, Ao, co, hk, rfl, rfl, hout, hbe⟩ := hrel
    by_cases hlt : k < S.length
    · obtain ⟨g, A7, c7, rfl, hgl, r0, o7⟩ := (HS3.out.below hbe (Nat.le_refl _)).get hlt
      have hsz := hbe.size
      have hb4 := Lib.hid (HOKS.out.1 _ (List.getElem_mem hlt))
      have hb5 : S[k].length ≤ 1048576 := by rw [bindOk_len hb4.out]; decide
      obtain ⟨F, hF⟩ : ∃ F, F = headOf r.1 S[k] := ⟨_, rfl⟩
      obtain ⟨ok, hok⟩ : ∃ ok, ok = headOk r.1 S[k] := ⟨_, rfl⟩
      have HM := Lib.hid (show ∀ W, Below wr.heap.size wr W → Calls Tryz.prog 128 #[.agg #[.int .i64 r.1.1, .slice A r.1.2.length c], .slice A7 S[k].length c7] W fun e w' => ∃ A' c', e = .returned (.tuple #[.agg #[.int .i64 F.1, .slice A' F.2.length c'], .bool ok]) ∧ OwnInts w' W.heap.size w'.heap.size (.slice A' F.2.length c') F.2 ∧ Below W.heap.size W w' from fun W hW => by
        rw [hF, hok]
        exact specHeadOf_any _ _ r.1 S[k] W ⟨_, rfl, (H1.out.on hbe).on hW⟩ ((o7.below hW (by omega)).rd.more (by have := hW.size; omega)) (by omega) hb5)
      have HF := Lib.hid (And.intro hF hok)
      have HOUT := Lib.hid hout
      have HBE := Lib.hid hbe
      have q0 : wr.cell? ⟨w.heap.size, 0, none⟩ = some (.int .i64 r.1.1) := (HX3.out.below hbe hXl).cell 0
      have q1 : wr.cell? ⟨w.heap.size, 1, none⟩ = some (.slice A r.1.2.length c) := (HX3.out.below hbe hXl).cell 1
      clear o7 hF hok hout hbe
      obtain ⟨SS, hSS⟩ : ∃ SS : World → Prop, SS = (fun W => Below wr.heap.size wr W ∧ W.cell? ⟨w.heap.size, 0, none⟩ = some (.int .i64 r.1.1) ∧ W.cell? ⟨w.heap.size, 1, none⟩ = some (.slice A r.1.2.length c) ∧ W.cell? ⟨g, k, none⟩ = some (.slice A7 S[k].length c7)) := ⟨_, rfl⟩
      have HB := Lib.hid (show ∀ W, SS W → (Below wr.heap.size wr W ∧ W.cell? ⟨w.heap.size, 0, none⟩ = some (.int .i64 r.1.1) ∧ W.cell? ⟨w.heap.size, 1, none⟩ = some (.slice A r.1.2.length c) ∧ W.cell? ⟨g, k, none⟩ = some (.slice A7 S[k].length c7)) from by rw [hSS]; exact fun W hW => hW)
      have HS := Lib.hid (show ∀ W, Below wr.heap.size wr W → SS W from by
        rw [hSS]
        exact fun W hW => ⟨hW, (hW.cell (World.block_lt_of_cell? _ _ q0)).trans q0, (hW.cell (World.block_lt_of_cell? _ _ q1)).trans q1, (hW.cell (World.block_lt_of_cell? _ _ r0)).trans r0⟩)
      clear hSS
      go_upto_region 6 with fail
      go_cut [8, 9] (fun s8 s9 wx => ∃ (gb : Nat) (A' : Option Addr) (c' : Nat), s8 = .pointer (some ⟨gb, 0, none⟩) ∧ s9 = .bool ok ∧ Blk wx gb 41 #[.int .i64 F.1, .slice A' F.2.length c'] ∧ OwnInts wx wr.heap.size wx.heap.size (.slice A' F.2.length c') F.2 ∧ Below wr.heap.size wr wx)
      case first =>
          have BB : Below wr.heap.size wr wr.drew := (Below.refl _ _).drew
          have SB := HS.out _ BB
          refine wp_region_rel SS 11 13 (by kernel_rfl) rfl ?_
          refine wpAnyR_pure (i := 0) (oi := _) ?v0 rfl rfl (by kernel_rfl) (by decide) (fun _ _ _ h => h) rfl ?hy0 (fun _ => SB) ?rest0
          case hy0 => (intro W; go_simp; (try with_reducible rfl))
          try simp only [List.setIfInBounds_toArray, List.set_cons_zero, List.set_cons_succ]
          refine wpAnyR_take (i := 1) (oi := _) ?v1 rfl rfl (by kernel_rfl) (fun _ _ _ h => h) rfl ?hy1 SB ?rest1
          case hy1 => (intro W hW; obtain ⟨_, e0, e1, e2⟩ := HB.out W hW; go_simp; (try with_reducible rfl))
          try simp only [List.setIfInBounds_toArray, List.set_cons_zero, List.set_cons_succ]
          refine wpAnyR_pure (i := 2) (oi := _) ?v2 rfl rfl (by kernel_rfl) (by decide) (fun _ _ _ h => h) rfl ?hy2 (fun _ => SB) ?rest2
          case hy2 => (intro W; go_simp; (try with_reducible rfl))
          try simp only [List.setIfInBounds_toArray, List.set_cons_zero, List.set_cons_succ]
          refine wpAnyR_pure (i := 3) (oi := _) ?v3 rfl rfl (by kernel_rfl) (by decide) (fun _ _ _ h => h) rfl ?hy3 (fun _ => SB) ?rest3
          case hy3 => (intro W; go_simp; (try with_reducible rfl))
          try simp only [List.setIfInBounds_toArray, List.set_cons_zero, List.set_cons_succ]
          refine wpAnyR_pure (i := 4) (oi := _) ?v4 rfl rfl (by kernel_rfl) (by decide) (fun _ _ _ h => h) rfl ?hy4 (fun _ => SB) ?rest4
          case hy4 => (intro W; go_simp; (try with_reducible rfl))
          try simp only [List.setIfInBounds_toArray, List.set_cons_zero, List.set_cons_succ]
          refine wpAnyR_take (i := 5) (oi := _) ?v5 rfl rfl (by kernel_rfl) (fun _ _ _ h => h) rfl ?hy5 SB ?rest5
          case hy5 => (intro W hW; obtain ⟨_, e0, e1, e2⟩ := HB.out W hW; go_simp; (try with_reducible rfl))
          try simp only [List.setIfInBounds_toArray, List.set_cons_zero, List.set_cons_succ]
          refine wpAnyR_two (i := 6) (j := 10) (by kernel_rfl) rfl rfl (fun K hK => ?_) (fun K hK => ?_)
          · try rw [if_pos (show Region.wanted _ _ = true from rfl)]
            go_simp
            refine (HM.out _ BB).mono ?_
            rintro e W6 ⟨A', c', rfl, ho6, hb6⟩
            have BB6 := bthen BB hb6
            have SB := HS.out _ BB6
            refine hK.out _ _ (fun _ => SB) ?_
            clear hK K
            try simp only [List.setIfInBounds_toArray, List.set_cons_zero, List.set_cons_succ, Act.put]
            refine wpAnyR_pure (i := 7) (oi := _) ?v7 rfl rfl (by kernel_rfl) (by decide) (fun _ _ _ h => h) rfl ?hy7 (fun _ => SB) ?rest7
            case hy7 => (intro W; go_simp; (try with_reducible rfl))
            try simp only [List.setIfInBounds_toArray, List.set_cons_zero, List.set_cons_succ]
            refine wpAnyR_pure (i := 8) (oi := _) ?v8 rfl rfl (by kernel_rfl) (by decide) (fun _ _ _ h => h) rfl ?hy8 (fun _ => SB) ?rest8
            case hy8 => (intro W; go_simp; (try with_reducible rfl))
            try simp only [List.setIfInBounds_toArray, List.set_cons_zero, List.set_cons_succ]
            refine wpAnyR_pure (i := 9) (oi := _) ?v9 rfl rfl (by kernel_rfl) (by decide) (fun _ _ _ h => h) rfl ?hy9 (fun _ => SB) ?rest9
            case hy9 => (intro W; go_simp; (try with_reducible rfl))
            try simp only [List.setIfInBounds_toArray, List.set_cons_zero, List.set_cons_succ]
            refine wpAnyR_one (i := 10) (by kernel_rfl) rfl (fun K hK => ?_)
            try rw [if_pos (show Region.wanted _ _ = true from rfl)]
            go_simp
            obtain ⟨W7, hW7⟩ : ∃ W7, W7 = W6.alloc (Obj.cells #[Value.int IntKind.i64 0, Value.slice none 0 0] 41) := ⟨_, rfl⟩
            rw [← hW7]
            have b67 : Below W6.heap.size W6 W7 := by rw [hW7]; exact below1 _ _
            have BB7 := bthen BB6 b67
            have X7 : Blk W7 W6.heap.size 41 #[.int .i64 0, .slice none 0 0] := by rw [hW7]; exact Blk.new _ _ _
            have H67 := BB6.size
            have HO7 := ho6.below b67 (Nat.le_refl _)
            have SB := HS.out _ BB7
            refine hK.out _ _ (fun _ => SB) ?_
            clear hK K hW7 ho6 hb6
            try simp only [List.setIfInBounds_toArray, List.set_cons_zero, List.set_cons_succ, Act.put]
            refine wpAnyR_one (i := 11) (by kernel_rfl) rfl (fun K hK => ?_)
            try rw [if_pos (show Region.wanted _ _ = true from rfl)]
            have y0 := X7.cell 0
            have y1 := X7.cell 1
            have z0 := X7.frozen 0
            have z1 := X7.frozen 1
            simp at y0 y1
            go_simp
            refine hK.out _ _ (fun hf => absurd hf (by decide)) ?_
            clear hK K y0 y1 z0 z1
            refine wpAnyR_one (i := 12) (by kernel_rfl) rfl (fun K hK => ?_)
            go_simp
            refine hK.out _ _ (fun hf => absurd hf (by decide)) ?_
            clear hK K
            refine wpAnyR_done (by kernel_rfl) ?_
            go_wp2_with (fail)
            go_meet
            have b6x := ((show Below W6.heap.size W6 W7 from b67).setCell (p := ⟨W6.heap.size, 0, none⟩) (Nat.le_refl _) (Value.int .i64 F.1)).setCell (p := ⟨W6.heap.size, 1, none⟩) (Nat.le_refl _) (Value.slice A' F.2.length c')
            exact ⟨W6.heap.size, A', c', rfl, rfl, by simpa using (X7.set_ 0 (.int .i64 F.1)).set_ 1 (.slice A' F.2.length c'), ((HO7.set (p := ⟨W6.heap.size, 0, none⟩) (.inr (Nat.le_refl _)) (Value.int .i64 F.1)).set (p := ⟨W6.heap.size, 1, none⟩) (.inr (Nat.le_refl _)) (Value.slice A' F.2.length c')).mono (Nat.le_refl _) b6x.size, bthen BB6 b6x⟩
          · try rw [if_pos (show Region.wanted _ _ = true from rfl)]
            go_simp
            obtain ⟨W5, hW5⟩ : ∃ W5, W5 = wr.drew.alloc (Obj.cells #[Value.int IntKind.i64 0, Value.slice none 0 0] 41) := ⟨_, rfl⟩
            try rw [show (wr.alloc (Obj.cells #[Value.int IntKind.i64 0, Value.slice none 0 0] 41)).drew = wr.drew.alloc (Obj.cells #[Value.int IntKind.i64 0, Value.slice none 0 0] 41) from rfl]
            rw [← hW5]
            have b45 : Below wr.drew.heap.size wr.drew W5 := by rw [hW5]; exact below1 _ _
            have BB5 := bthen BB b45
            have X5 : Blk W5 wr.heap.size 41 #[.int .i64 0, .slice none 0 0] := by rw [hW5]; exact Blk.new _ _ _
            have SB := HS.out _ BB5
            refine hK.out _ _ (fun _ => SB) ?_
            clear hK K hW5
            try simp only [List.setIfInBounds_toArray, List.set_cons_zero, List.set_cons_succ, Act.put]
            refine wpAnyR_one (i := 6) (by kernel_rfl) rfl (fun K hK => ?_)
            try rw [if_pos (show Region.wanted _ _ = true from rfl)]
            go_simp
            refine (HM.out _ BB5).mono ?_
            rintro e W6 ⟨A', c', rfl, ho6, hb6⟩
            have hs5 := X5.lt
            have X6 := X5.below hb6 hs5
            have BB6 := bthen BB5 hb6
            have hs6 := hb6.size
            have SB := HS.out _ BB6
            refine hK.out _ _ (fun _ => SB) ?_
            clear hK K
            try simp only [List.setIfInBounds_toArray, List.set_cons_zero, List.set_cons_succ, Act.put]
            refine wpAnyR_pure (i := 7) (oi := _) ?v7b rfl rfl (by kernel_rfl) (by decide) (fun _ _ _ h => h) rfl ?hy7b (fun _ => SB) ?rest7b
            case hy7b => (intro W; go_simp; (try with_reducible rfl))
            try simp only [List.setIfInBounds_toArray, List.set_cons_zero, List.set_cons_succ]
            refine wpAnyR_pure (i := 8) (oi := _) ?v8b rfl rfl (by kernel_rfl) (by decide) (fun _ _ _ h => h) rfl ?hy8b (fun _ => SB) ?rest8b
            case hy8b => (intro W; go_simp; (try with_reducible rfl))
            try simp only [List.setIfInBounds_toArray, List.set_cons_zero, List.set_cons_succ]
            refine wpAnyR_pure (i := 9) (oi := _) ?v9b rfl rfl (by kernel_rfl) (by decide) (fun _ _ _ h => h) rfl ?hy9b (fun _ => SB) ?rest9b
            case hy9b => (intro W; go_simp; (try with_reducible rfl))
            try simp only [List.setIfInBounds_toArray, List.set_cons_zero, List.set_cons_succ]
            refine wpAnyR_one (i := 11) (by kernel_rfl) rfl (fun K hK => ?_)
            try rw [if_pos (show Region.wanted _ _ = true from rfl)]
            have y0 := X6.cell 0
            have y1 := X6.cell 1
            have z0 := X6.frozen 0
            have z1 := X6.frozen 1
            simp at y0 y1
            go_simp
            refine hK.out _ _ (fun hf => absurd hf (by decide)) ?_
            clear hK K y0 y1 z0 z1
            refine wpAnyR_one (i := 12) (by kernel_rfl) rfl (fun K hK => ?_)
            go_simp
            refine hK.out _ _ (fun hf => absurd hf (by decide)) ?_
            clear hK K
            refine wpAnyR_done (by kernel_rfl) ?_
            go_wp2_with (fail)
            go_meet
            have b6x := ((Below.refl wr.heap.size W6).setCell (p := ⟨wr.heap.size, 0, none⟩) (Nat.le_refl _) (Value.int .i64 F.1)).setCell (p := ⟨wr.heap.size, 1, none⟩) (Nat.le_refl _) (Value.slice A' F.2.length c')
            exact ⟨wr.heap.size, A', c', rfl, rfl, by simpa using (X6.set_ 0 (.int .i64 F.1)).set_ 1 (.slice A' F.2.length c'), ((ho6.set (p := ⟨wr.heap.size, 0, none⟩) (.inl hs5) (Value.int .i64 F.1)).set (p := ⟨wr.heap.size, 1, none⟩) (.inl hs5) (Value.slice A' F.2.length c')).mono (Nat.le_of_lt hs5) b6x.size, BB6.trans b6x⟩
      case rest =>
        obtain ⟨gb, A', c', rfl, rfl, X, ox, bx⟩ := hcut
        have HOX := Lib.hid ((HOUT.out.below bx (Nat.le_refl _)).mono (Nat.le_refl _) bx.size)
        have HBX := Lib.hid (bthen HBE.out bx)
        obtain ⟨hF, hok⟩ := HF.out
        have hbd := headsTo_bound (S := S) ha k
        have hS5 := HOKS.out.2
        have hFl : F.2.length ≤ 2 := by rw [hF]; exact Nat.le_trans (headOf_length _ _) ha
        have c0 : World.cell? _ ⟨gb, 0, none⟩ = some (.int .i64 F.1) := X.cell 0
        have c1 : World.cell? _ ⟨gb, 1, none⟩ = some (.slice A' F.2.length c') := X.cell 1
        have HCW := Lib.hid (specFactsWith_any (.slice Ao (headsTo r.1 S k).length co) (.agg #[.int .i64 F.1, .slice A' F.2.length c']) (headsTo r.1 S k) F _ HOX.out.rd ⟨_, rfl, ox.rd⟩ (by omega) (by omega) (by omega))
        have HXB := Lib.hid (And.intro hF hok)
        clear HF hF hok HS HB HM ox X
        by_cases hb : ok = true
        · have HE := Lib.hid (show headsTo r.1 S (k + 1) = factsWith (headsTo r.1 S k) F from by rw [headsTo_yes hlt (by rw [← HXB.out.2]; exact hb), HXB.out.1])
          subst hb
          go_wp2_with (first
            | (go_at_call 126; refine HCW.out.mono ?_; rintro e w5 ⟨A8, c8, rfl, o8, b8⟩; have H8 := Lib.hid (And.intro o8 b8); clear o8 b8))
          go_roundw
          case rel => exact ⟨k + 1, A8, c8, by omega, by go_num, by rw [HE.out], by rw [HE.out]; exact H8.out.1.mono (by have := HBX.out.size; omega) (Nat.le_refl _), bthen HBX.out H8.out.2⟩
          case measure => simp [intOf]; omega
        · have hb : ok = false := by simpa using hb
          have HE := Lib.hid (show headsTo r.1 S (k + 1) = headsTo r.1 S k from headsTo_no hlt (by rw [← HXB.out.2]; exact hb))
          subst hb
          go_wp2_with (fail)
          go_roundw
          case rel => exact ⟨k + 1, Ao, co, by omega, by go_num, by rw [HE.out], by rw [HE.out]; exact HOX.out, HBX.out⟩
          case measure => simp [intOf]; omega
    · obtain rfl : k = S.length := by omega
      go_wp2_with (fail)
      go_ret
      refine ⟨Ao, co, by rw [HR.out]; rfl, ?_, bthen B3 hbe⟩
      rw [HR.out]
      exact hout

end Go.Proofs.YtokmmloakahkhaaGreatDoor
/-
  The walks of FactsOf: the program's and the specification's.
-/
namespace Go.Proofs.YtokmmloakahkhaaGreatDoor
open Go.RowKit

def factsOf (fs : List LFact) (p : Int) : List LFact := fs.filter fun f => f.1 == p
theorem factsOf_yes {fs : List LFact} {p : Int} {k : Nat} (h : k < fs.length) (e : fs[k].1 = p) : factsOf (fs.take (k + 1)) p = factsOf (fs.take k) p ++ [fs[k]] := by
  unfold factsOf
  rw [take_snoc fs k h, List.filter_append]
  congr 1
  simp [e]
theorem factsOf_no {fs : List LFact} {p : Int} {k : Nat} (h : k < fs.length) (e : fs[k].1 ≠ p) : factsOf (fs.take (k + 1)) p = factsOf (fs.take k) p := by
  unfold factsOf
  rw [take_snoc fs k h, List.filter_append, List.filter_cons_of_neg (by simpa using e)]
  simp
theorem factsOf_length (fs : List LFact) (p : Int) (k : Nat) : (factsOf (fs.take k) p).length ≤ k := by
  have h1 := List.length_filter_le (fun f : LFact => f.1 == p) (fs.take k)
  have h2 : (fs.take k).length ≤ k := by rw [List.length_take]; omega
  unfold factsOf
  omega

end Go.Proofs.YtokmmloakahkhaaGreatDoor
/-
  What FactsWith and FactsOf leave, plain mathematics.
-/
namespace Go.Proofs.YtokmmloakahkhaaGreatDoor
open Go.RowKit

theorem withStep_mem (f : LFact) : ∀ (l : List LFact) (out : List LFact) (b : Bool), (b = true → f ∈ out) → ∀ x, x ∈ endW f (l.foldl (withStep f) (out, b)) ↔ x ∈ out ∨ x ∈ l ∨ x = f
  | [], out, b, hb, x => by
    cases b
    · simp [endW]
    · have := hb rfl
      simp only [List.foldl_nil, endW, if_true, List.not_mem_nil, false_or]
      constructor
      · exact .inl
      · rintro (h | rfl) <;> assumption
  | g :: l, out, b, hb, x => by
    rw [List.foldl_cons]
    have e : withStep f (out, b) g = ((withStep f (out, b) g).1, (withStep f (out, b) g).2) := rfl
    rw [e, withStep_mem f l _ _ ?_ x]
    · unfold withStep
      cases b
      · rcases Int.lt_trichotomy (factOrder f g) 0 with h1 | h1 | h1
        · simp [show factOrder f g ≤ 0 by omega, show factOrder f g ≠ 0 by omega]
          grind
        · have e2 := order_eq h1
          subst e2
          simp [order_refl]
          grind
        · simp [show ¬ factOrder f g ≤ 0 by omega, show factOrder f g ≠ 0 by omega]
          grind
      · have hf := hb rfl
        by_cases h1 : factOrder f g = 0
        · have e2 := order_eq h1
          subst e2
          simp [order_refl]
          grind
        · simp [h1]
          grind
    · intro hb2
      unfold withStep at hb2 ⊢
      cases b
      · have h1 : factOrder f g ≤ 0 := by simpa using hb2
        simp [h1]
      · exact List.mem_append_left _ (by simpa using hb rfl)
theorem factsWith_mem (fs : List LFact) (f x : LFact) : x ∈ factsWith fs f ↔ x ∈ fs ∨ x = f := by
  have := withStep_mem f fs [] false (by simp) x
  unfold endW at this
  unfold factsWith withTo
  rw [List.take_length]
  simpa using this
theorem has_mem (ys : List LFact) (f : LFact) : factsHas ys f = decide (f ∈ ys) := by
  unfold factsHas
  by_cases h : f ∈ ys
  · rw [decide_eq_true h]
    exact List.any_eq_true.2 ⟨f, h, by rw [order_refl]; rfl⟩
  · rw [decide_eq_false h]
    refine List.any_eq_false.2 fun g hg e => h ?_
    have e0 : factOrder g f = 0 := by simpa using e
    rw [← order_eq e0]
    exact hg
theorem with_has_new (fs : List LFact) (f : LFact) : factsHas (factsWith fs f) f = true := by
  rw [has_mem]
  exact decide_eq_true ((factsWith_mem fs f f).2 (.inr rfl))
theorem with_has_old (fs : List LFact) (f : LFact) {k : Nat} (h : k < fs.length) : factsHas (factsWith fs f) fs[k] = true := by
  rw [has_mem]
  exact decide_eq_true ((factsWith_mem fs f _).2 (.inl (List.getElem_mem h)))
theorem factsOf_few (fs : List LFact) (p : Int) : (factsOf fs p).length ≤ fs.length ∧ tot (factsOf fs p) ≤ tot fs := by
  refine ⟨List.length_filter_le _ _, ?_⟩
  unfold factsOf
  induction fs with
  | nil => simp
  | cons g fs ih =>
    rw [List.filter_cons, tot_cons]
    split
    · rw [tot_cons]; omega
    · omega

end Go.Proofs.YtokmmloakahkhaaGreatDoor
/-
  The heads of all rules: how many they are, and the specification's l4All.
-/
namespace Go.Proofs.YtokmmloakahkhaaGreatDoor
open Go.RowKit

theorem place_short {ar : List Int} {p : Int} {n : Nat} (ha : arityOk ar = true) (h : 0 ≤ p ∧ p < ar.length ∧ (n : Int) = ar.getD p.toNat 0) : n ≤ 2 := by
  obtain ⟨h0, h1, h2⟩ := h
  simp only [arityOk, Bool.and_eq_true, List.all_eq_true] at ha
  have hlt : p.toNat < ar.length := by omega
  have hp := ha.2 _ (List.getElem_mem hlt)
  simp only [placeOk, decide_eq_true_eq] at hp
  have hd : ar.getD p.toNat 0 = ar[p.toNat] := by simp [hlt]
  rw [hd] at h2
  omega
theorem fits_parts {ar : List Int} {f : LFact} (h : factFits ar f = true) : (0 ≤ f.1 ∧ f.1 < ar.length ∧ (f.2.length : Int) = ar.getD f.1.toNat 0) ∧ f.2.all constOk = true := by
  simp only [factFits, Bool.and_eq_true, decide_eq_true_eq] at h
  exact h
theorem fits_short {ar : List Int} {f : LFact} (ha : arityOk ar = true) (h : factFits ar f = true) : f.2.length ≤ 2 := place_short ha (fits_parts h).1
/-- A fact's number. -/
def encF (f : LFact) : Nat := f.1.toNat * 64 + (match f.2 with | [] => 0 | [x] => x.toNat + 1 | x :: y :: _ => x.toNat + 1 + 7 * (y.toNat + 1))
theorem const_range {x : Int} (h : constOk x = true) : 0 ≤ x ∧ x ≤ 5 := by simpa [constOk] using h
theorem encF_lt {ar : List Int} {f : LFact} (ha : arityOk ar = true) (h : factFits ar f = true) : encF f < 1536 := by
  have hs := fits_short ha h
  obtain ⟨⟨h0, h1, _⟩, h2⟩ := fits_parts h
  have hl : ar.length ≤ 24 := by simp only [arityOk, Bool.and_eq_true, decide_eq_true_eq] at ha; exact ha.1
  obtain ⟨p, xs⟩ := f
  rcases xs with _ | ⟨x, _ | ⟨y, _ | ⟨z, xs⟩⟩⟩
  · simp only [encF] at *; omega
  · simp only [List.all_cons, Bool.and_eq_true] at h2
    have := const_range h2.1
    simp only [encF] at *; omega
  · simp only [List.all_cons, Bool.and_eq_true] at h2
    have := const_range h2.1
    have := const_range h2.2.1
    simp only [encF] at *; omega
  · simp at hs
theorem split64 {a b c d : Nat} (e : a * 64 + c = b * 64 + d) (hc : c < 64) (hd : d < 64) : a = b ∧ c = d := by omega
theorem split7 {a b c d : Nat} (e : a + 1 + 7 * (c + 1) = b + 1 + 7 * (d + 1)) (ha : a < 6) (hb : b < 6) : a = b ∧ c = d := by omega
theorem encF_inj {ar : List Int} {f g : LFact} (ha : arityOk ar = true) (hf : factFits ar f = true) (hg : factFits ar g = true) (e : encF f = encF g) : f = g := by
  have hs := fits_short ha hf
  have hs' := fits_short ha hg
  obtain ⟨⟨h0, _, _⟩, h2⟩ := fits_parts hf
  obtain ⟨⟨h0', _, _⟩, h2'⟩ := fits_parts hg
  obtain ⟨p, xs⟩ := f
  obtain ⟨q, ys⟩ := g
  rcases xs with _ | ⟨x, _ | ⟨y, _ | ⟨z, xs⟩⟩⟩ <;> rcases ys with _ | ⟨x', _ | ⟨y', _ | ⟨z', ys⟩⟩⟩ <;> (try (simp at hs; done)) <;> (try (simp at hs'; done)) <;>
    simp only [List.all_cons, List.all_nil, Bool.and_eq_true, and_true] at h2 h2' <;> simp only [encF] at e h0 h0'
  · obtain ⟨e1, _⟩ := split64 e (by omega) (by omega); simp; omega
  · have := const_range h2'; obtain ⟨_, e2⟩ := split64 e (by omega) (by omega); omega
  · have := const_range h2'.1; have := const_range h2'.2; obtain ⟨_, e2⟩ := split64 e (by omega) (by omega); omega
  · have := const_range h2; obtain ⟨_, e2⟩ := split64 e (by omega) (by omega); omega
  · have := const_range h2; have := const_range h2'; obtain ⟨e1, e2⟩ := split64 e (by omega) (by omega); simp; omega
  · have := const_range h2; have := const_range h2'.1; have := const_range h2'.2; obtain ⟨_, e2⟩ := split64 e (by omega) (by omega); omega
  · have := const_range h2.1; have := const_range h2.2; obtain ⟨_, e2⟩ := split64 e (by omega) (by omega); omega
  · have := const_range h2.1; have := const_range h2.2; have := const_range h2'; obtain ⟨_, e2⟩ := split64 e (by omega) (by omega); omega
  · have := const_range h2.1; have := const_range h2.2; have := const_range h2'.1; have := const_range h2'.2
    obtain ⟨e1, e2⟩ := split64 e (by omega) (by omega)
    obtain ⟨e3, e4⟩ := split7 e2 (by omega) (by omega)
    simp; omega
theorem tot_short : ∀ {l : List LFact}, (∀ f ∈ l, f.2.length ≤ 2) → tot l ≤ l.length * 2
  | [], _ => by simp [tot]
  | f :: l, h => by
    have h1 := h f (List.mem_cons_self ..)
    have h2 := tot_short fun g hg => h g (List.mem_cons_of_mem _ hg)
    rw [tot_cons, List.length_cons]
    omega
/-- Facts that fit, no two alike: few. -/
theorem facts_few {ar : List Int} {l : List LFact} (ha : arityOk ar = true) (hn : l.Nodup) (h : ∀ f ∈ l, factFits ar f = true) : l.length ≤ 1536 ∧ tot l ≤ 3072 := by
  have h1 := nodup_len 1536 (l.map encF) (by
    unfold List.Nodup
    rw [List.pairwise_map]
    exact List.Pairwise.imp_of_mem (fun {a b} hx hy hne e => hne (encF_inj ha (h a hx) (h b hy) e)) hn) fun x hx => by
      obtain ⟨b, hb, rfl⟩ := List.mem_map.1 hx
      exact encF_lt ha (h b hb)
  rw [List.length_map] at h1
  have h2 := tot_short fun f hf => fits_short ha (h f hf)
  omega

theorem headOf_fits {ar : List Int} {a : LFact} {bs : List Int} (ha : atomFits ar a = true) (e : headOk a bs = true) : factFits ar (headOf a bs) = true := by
  rw [headOf_yes e]
  simp only [atomFits, Bool.and_eq_true, decide_eq_true_eq] at ha
  simp only [headOk, Bool.and_eq_true] at e
  simp only [factFits, Bool.and_eq_true, decide_eq_true_eq, List.length_map]
  exact ⟨ha.1, e.2⟩
theorem headsTo_asc (a : LFact) (S : List (List Int)) : ∀ k, Asc (headsTo a S k)
  | 0 => List.Pairwise.nil
  | k + 1 => by
    have ih := headsTo_asc a S k
    show Asc (if _ then _ else _)
    split
    · exact (foldWith [headOf a (S.getD k [])] _ ih).1
    · exact ih
theorem headsTo_fits {ar : List Int} {a : LFact} {S : List (List Int)} (ha : atomFits ar a = true) : ∀ k, ∀ f ∈ headsTo a S k, factFits ar f = true
  | 0 => fun f hf => by cases hf
  | k + 1 => by
    have ih := headsTo_fits (S := S) ha k
    intro f hf
    have hf : f ∈ (if headOk a (S.getD k []) then factsWith (headsTo a S k) (headOf a (S.getD k [])) else headsTo a S k) := hf
    split at hf
    · rename_i e
      rcases (factsWith_mem _ _ _).1 hf with h | rfl
      · exact ih f h
      · exact headOf_fits ha e
    · exact ih f hf
theorem headsL_fits {ar : List Int} {r : LRule} (gs : List LFact) (h : ruleFits ar r = true) : ∀ f ∈ headsL r gs, factFits ar f = true := by
  simp only [ruleFits, Bool.and_eq_true] at h
  exact headsTo_fits h.1 _
theorem headsL_few {ar : List Int} {r : LRule} (gs : List LFact) (ha : arityOk ar = true) (h : ruleFits ar r = true) : (headsL r gs).length ≤ 1536 ∧ tot (headsL r gs) ≤ 3072 :=
  facts_few ha (asc_nodup (headsTo_asc _ _ _)) (headsL_fits gs h)
/-- The heads of rules. -/
def headsAll (rs : List LRule) (gs : List LFact) : List LFact := setOf (rs.flatMap fun r => headsL r gs)
theorem setOf_more (xs ys : List LFact) : setOf (setOf xs ++ ys) = setOf (xs ++ ys) :=
  (setOf_asc _).unique (setOf_asc _) fun f => by rw [setOf_mem, setOf_mem, List.mem_append, List.mem_append, setOf_mem]
theorem headsAll_snoc (rs : List LRule) (gs : List LFact) (k : Nat) (h : k < rs.length) : headsAll (rs.take (k + 1)) gs = setOf (headsAll (rs.take k) gs ++ headsL rs[k] gs) := by
  unfold headsAll
  rw [take_snoc rs k h, List.flatMap_append, setOf_more]
  simp
theorem headsAll_fits {ar : List Int} {rs : List LRule} (gs : List LFact) (h : ∀ r ∈ rs, ruleFits ar r = true) : ∀ f ∈ headsAll rs gs, factFits ar f = true := by
  intro f hf
  obtain ⟨r, hr, hm⟩ := List.mem_flatMap.1 ((setOf_mem _ _).1 hf)
  exact headsL_fits gs (h r hr) f hm
theorem headsAll_few {ar : List Int} {rs : List LRule} (gs : List LFact) (ha : arityOk ar = true) (h : ∀ r ∈ rs, ruleFits ar r = true) : (headsAll rs gs).length ≤ 1536 ∧ tot (headsAll rs gs) ≤ 3072 :=
  facts_few ha (asc_nodup (setOf_asc _)) (headsAll_fits gs h)
theorem lit_terms {ar : List Int} {l : LLit} (h : litFits ar l = true) : l.2.2.all termOk = true := by
  unfold litFits at h
  split at h
  · simp only [atomFits, Bool.and_eq_true] at h; exact h.2
  · split at h
    · simp only [Bool.and_eq_true] at h; exact h.2
    · cases h

set_option maxHeartbeats 4000000 in
set_option maxRecDepth 100000 in
theorem l4All_any (v v2 : Value) (ar : List Int) (rs : List LRule) (gs : List LFact) (w : World) (h : RdRules w w.heap.size v rs) (h2 : RdFacts w w.heap.size v2 gs) (har : arityOk ar = true) (hfit : ∀ r ∈ rs, ruleFits ar r = true) (hsz : totR rs ≤ 1048576) (hrl : rs.length ≤ 1048576)
    (hn : gs.length ≤ 1048576) (ht : tot gs ≤ 1048576) (hc : ∀ f ∈ gs, f.2.all constOk = true) (hnd : gs.Nodup) :
    Calls Tryz.prog 35 #[v, v2] w fun e w' => ∃ A c, e = .returned (.slice A (headsAll rs gs).length c) ∧ OwnFacts w' w.heap.size w'.heap.size (.slice A (headsAll rs gs).length c) (headsAll rs gs) ∧ Below w.heap.size w w' := by
  have H := Lib.hid h
  have H2 := Lib.hid h2
  obtain ⟨A, c, rfl, hcA, _⟩ := h
  obtain ⟨A2, c2, rfl, hc2, _⟩ := h2
  have HFIT := Lib.hid hfit
  clear hfit
  go_enter Tryz.func35, Tryz.ntmps35
  go_wp2_with (fail)
  go_loopw [5, 6] (fun o i wr => ∃ (k : Nat) (A' : Option Addr) (c' : Nat), k ≤ rs.length ∧ i = .int .i64 k ∧ o = .slice A' (headsAll (rs.take k) gs).length c' ∧ OwnFacts wr w.heap.size wr.heap.size (.slice A' (headsAll (rs.take k) gs).length c') (headsAll (rs.take k) gs) ∧ Below w.heap.size w wr) (fun _ i _ => rs.length - (intOf i).toNat)
  case atStart => exact ⟨0, _, 0, Nat.zero_le _, rfl, rfl, (ColRel.empty w).own.own.mono (Nat.le_refl _) (Nat.le_refl _), below1 _ _⟩
  case round =>
    obtain ⟨k, A', c', hk, rfl, rfl, ho, hbe⟩ := hrel
    have HO := Lib.hid ho
    have HBE := Lib.hid hbe
    by_cases hlt : k < rs.length
    · obtain ⟨b, o, u0, u1, u2, rfl, hbB, k0, k1, k2, rfl, q1, q2⟩ := (H.out.on hbe).get hlt
      obtain ⟨A3, c3, rfl, _⟩ := id q1
      obtain ⟨A4, c4, rfl, _⟩ := id q2
      have hfk := HFIT.out _ (List.getElem_mem hlt)
      have HW := Lib.hid hfk
      have hparts := hfk
      simp only [ruleFits, atomFits, Bool.and_eq_true, decide_eq_true_eq] at hparts
      have ha2 := place_short har hparts.1.1
      have hsk := sz_le_totR rs k hlt
      unfold szR at hsk
      have HOF := Lib.hid (l4Of_any (.agg #[.int .i64 rs[k].1.1, .slice A3 rs[k].1.2.length c3, .slice A4 rs[k].2.length c4]) (.slice A2 gs.length c2) rs[k] gs _ ⟨_, _, rfl, q1, q2⟩ (H2.out.on hbe) hn ht (by omega) hc hnd (fun l hl => lit_terms (List.all_eq_true.1 hparts.2.2.1 l hl)) ha2)
      have h1 := headsAll_few gs har (rs := rs.take k) (fun r hr => HFIT.out r (List.mem_of_mem_take hr))
      have h2 := headsL_few gs har HW.out
      have HN := Lib.hid (And.intro h1 h2)
      have HE := Lib.hid (headsAll_snoc rs gs k hlt)
      clear ho hbe q1 q2 h1 h2 hparts hfk hsk
      go_wp2_with (first
        | (go_at_call 82; refine HOF.out.mono ?_; rintro e w1 ⟨A5, c5, rfl, o5, b5⟩; have H5 := Lib.hid (And.intro o5 b5); clear o5 b5)
        | (go_at_call 81
           refine (specFactsEither_any _ _ (headsAll (rs.take k) gs) (headsL rs[k] gs) w1 ((HO.out.below H5.out.2 (Nat.le_refl _)).rd.more H5.out.2.size) H5.out.1.rd (by have := HN.out; omega) (by have := HN.out; omega)).mono ?_
           rintro e w2 ⟨A6, c6, rfl, o6, b6⟩; have H6 := Lib.hid (And.intro o6 b6); clear o6 b6))
      go_roundw
      case rel =>
        refine ⟨k + 1, A6, c6, by omega, by go_num, by rw [HE.out], ?_, bthen HBE.out (bthen H5.out.2 H6.out.2)⟩
        rw [HE.out]
        exact H6.out.1.mono (by have := HBE.out.size; have := H5.out.2.size; omega) (Nat.le_refl _)
      case measure => simp [intOf]; omega
    · obtain rfl : k = rs.length := by omega
      have HR := Lib.hid (show rs.take rs.length = rs from List.take_length)
      clear ho hbe
      go_wp2_with (fail)
      go_ret
      have ho := HO.out
      rw [HR.out] at ho ⊢
      exact ⟨A', c', rfl, ho, HBE.out⟩

end Go.Proofs.YtokmmloakahkhaaGreatDoor
/-
  The walks of FactsOk: the program's and the specification's.
-/
namespace Go.Proofs.YtokmmloakahkhaaGreatDoor
open Go.RowKit

def roundOk (ar : List Int) (fs : List LFact) (k : Nat) : Bool := factFits ar (fs.getD k (0, [])) && (decide (k = 0) || decide (factOrder (fs.getD (k - 1) (0, [])) (fs.getD k (0, [])) < 0))
def factsOk (ar : List Int) (fs : List LFact) : Bool := arityOk ar && (List.range fs.length).all (roundOk ar fs)
def OkTo (ar : List Int) (fs : List LFact) (k : Nat) : Prop := (List.range k).all (roundOk ar fs) = true
theorem OkTo.step {ar : List Int} {fs : List LFact} {k : Nat} (h : OkTo ar fs k) (e : roundOk ar fs k = true) : OkTo ar fs (k + 1) := by
  unfold OkTo at h ⊢
  rw [List.range_succ, List.all_append, h]
  simp [e]
theorem round_not {ar : List Int} {fs : List LFact} {k : Nat} (hk : k < fs.length) (e : roundOk ar fs k = false) : factsOk ar fs = false := by
  unfold factsOk
  have : (List.range fs.length).all (roundOk ar fs) = false := by
    rw [List.all_eq_false]
    exact ⟨k, List.mem_range.2 hk, by simp [e]⟩
  rw [this, Bool.and_false]
theorem getD_at {α : Type} {l : List α} {k : Nat} (h : k < l.length) {d : α} : l.getD k d = l[k] := by simp [h]
theorem round_first {ar : List Int} {fs : List LFact} {k : Nat} (hk : k < fs.length) (h : factFits ar fs[k] = true) (h0 : k = 0) : roundOk ar fs k = true := by
  unfold roundOk
  rw [getD_at hk, h]
  simp [h0]
theorem round_next {ar : List Int} {fs : List LFact} {j : Nat} (hk : j + 1 < fs.length) (hj : j < fs.length) (h : factFits ar fs[j + 1] = true) : roundOk ar fs (j + 1) = decide (factOrder fs[j] fs[j + 1] < 0) := by
  unfold roundOk
  rw [getD_at hk, h, Nat.add_sub_cancel, getD_at hj]
  simp
theorem round_unfit {ar : List Int} {fs : List LFact} {k : Nat} (hk : k < fs.length) (h : factFits ar fs[k] = false) : roundOk ar fs k = false := by
  unfold roundOk
  rw [getD_at hk, h]
  simp
theorem later_fact {w0 : World} {v : Value} {f : LFact} (h : RdFact w0 w0.heap.size v f) (x : Later w0) : RdFact x.val x.val.heap.size v f := h.on x.2
theorem later_ints {w0 : World} {v : Value} {f : List Int} (h : RdInts w0 w0.heap.size v f) (x : Later w0) : RdInts x.val x.val.heap.size v f := h.on x.2

set_option maxHeartbeats 1000000 in
set_option maxRecDepth 100000 in
theorem specFactsOk_any (v v2 : Value) (ar : List Int) (fs : List LFact) (w : World) (h : RdInts w w.heap.size v ar) (h2 : RdFacts w w.heap.size v2 fs) (hr : ar.length ≤ 1048576) (hn : fs.length ≤ 1048576) (ht : tot fs ≤ 1048576) :
    Calls Tryz.prog 34 #[v, v2] w fun e w' => e = .returned (.bool (factsOk ar fs)) ∧ Below w.heap.size w w' := by
  have H := Lib.hid h
  have H2 := Lib.hid h2
  obtain ⟨A, c, rfl, hc, _⟩ := h
  obtain ⟨A2, c2, rfl, hc2, _⟩ := h2
  go_enter Tryz.func34, Tryz.ntmps34
  go_wp2_with (fail)
  go_loopw [5] (fun i wr => ∃ k : Nat, k ≤ fs.length ∧ i = .int .i64 k ∧ OkTo ar fs k ∧ Below w.heap.size w wr) (fun i _ => fs.length - (intOf i).toNat)
  case atStart => exact ⟨0, Nat.zero_le _, rfl, by simp [OkTo], Below.refl _ _⟩
  case round =>
    obtain ⟨k, hk, rfl, hs, hbe⟩ := hrel
    by_cases hlt : k < fs.length
    · obtain ⟨b, o, A3, c3, rfl, hbB, k1, k2, k3⟩ := (H2.out.on hbe).get hlt
      have K3 := Lib.hid (show RdFact wr wr.heap.size (.agg #[.int .i64 fs[k].1, .slice A3 fs[k].2.length c3]) fs[k] from ⟨_, rfl, k3⟩)
      have hln := len_le_tot fs k hlt
      have L1 := later_cell k1
      have L2 := later_cell k2
      clear k1 k2 k3
      by_cases hfo : factOk ar fs[k] = true
      · have CF := Lib.hid (fun x : Later wr => (specFactOk_any _ _ ar fs[k] x.val ((H.out.on hbe).on x.2) (K3.out.on x.2) hr (by omega)).mono fun e w' (hh : e = .returned (.bool (factOk ar fs[k])) ∧ Below x.val.heap.size x.val w') => (⟨by rw [hh.1, hfo], hh.2⟩ : e = .returned (.bool true) ∧ Below x.val.heap.size x.val w'))
        have hff : factFits ar fs[k] = true := by
          unfold factOk at hfo
          exact (Bool.and_eq_true _ _ ▸ hfo).2
        have HA := Lib.hid (show arityOk ar = true by
          unfold factOk at hfo
          exact (Bool.and_eq_true _ _ ▸ hfo).1)
        clear hfo
        rcases Nat.eq_zero_or_pos k with hk0 | hk0
        · have hd : decide (0 < k) = false := by simp [hk0]
          have HS := Lib.hid (hs.step (round_first hlt hff hk0) : OkTo ar fs (k + 1))
          clear hs hk0 hff
          go_wp2_with (fail)
          refine wp_region_later (by kernel_rfl) (by kernel_rfl) ?_
          repeat (go_big_quiet_step ((go_at_call 79; exact later_of (CF.out _))))
          refine wpQuiet_nil ?_
          rintro _ ⟨xq, rfl⟩
          go_wp2_with (fail)
          go_roundw
          case rel => exact ⟨k + 1, by omega, by go_num, HS.out, bthen hbe xq.2⟩
          case measure => simp [intOf]; omega
        · obtain ⟨j, rfl⟩ : ∃ j, k = j + 1 := ⟨k - 1, by omega⟩
          have hltj : j < fs.length := by omega
          obtain ⟨b', o', A4, c4, e4, hbB', m1, m2, m3⟩ := (H2.out.on hbe).get hltj
          simp only [Option.some.injEq, Addr.mk.injEq, and_true] at e4
          obtain ⟨rfl, rfl⟩ := e4
          have K4 := Lib.hid (show RdFact wr wr.heap.size (.agg #[.int .i64 fs[j].1, .slice A4 fs[j].2.length c4]) fs[j] from ⟨_, rfl, m3⟩)
          have hlnj := len_le_tot fs j hltj
          have M1 := later_cell m1
          have M2 := later_cell m2
          have CO := Lib.hid (fun x : Later wr => specFactOrder_any _ _ fs[j] fs[j + 1] x.val (K4.out.on x.2) (K3.out.on x.2) (by omega) (by omega))
          clear m1 m2 m3
          by_cases hlo : factOrder fs[j] fs[j + 1] < 0
          · have hd : decide (0 ≤ factOrder fs[j] fs[j + 1]) = false := by simp; omega
            have HS := Lib.hid (hs.step (by rw [round_next hlt hltj hff]; simp [hlo]) : OkTo ar fs (j + 1 + 1))
            clear hs hff
            go_wp2_with (fail)
            refine wp_region_later (by kernel_rfl) (by kernel_rfl) ?_
            repeat (go_big_quiet_step (first | (go_at_call 79; exact later_of (CF.out _)) | (go_at_call 80; exact later_of (CO.out _))))
            refine wpQuiet_nil ?_
            rintro _ ⟨xq, rfl⟩
            go_wp2_with (fail)
            go_roundw
            case rel => exact ⟨j + 1 + 1, by omega, by go_num, HS.out, bthen hbe xq.2⟩
            case measure => simp [intOf]; omega
          · have hd : decide (0 ≤ factOrder fs[j] fs[j + 1]) = true := by simp; omega
            have HE := Lib.hid (show factsOk ar fs = false from round_not hlt (by rw [round_next hlt hltj hff]; simp [hlo]))
            clear hs hff
            go_wp2_with (fail)
            refine wp_region_later (by kernel_rfl) (by kernel_rfl) ?_
            repeat (go_big_quiet_step (first | (go_at_call 79; exact later_of (CF.out _)) | (go_at_call 80; exact later_of (CO.out _))))
            refine wpQuiet_nil ?_
            rintro _ ⟨xq, rfl⟩
            go_wp2_with (fail)
            go_ret
            exact ⟨ret_bool HE.out.symm, bthen hbe xq.2⟩
      · have CF := Lib.hid (fun x : Later wr => (specFactOk_any _ _ ar fs[k] x.val ((H.out.on hbe).on x.2) (K3.out.on x.2) hr (by omega)).mono fun e w' (hh : e = .returned (.bool (factOk ar fs[k])) ∧ Below x.val.heap.size x.val w') => (⟨by rw [hh.1, show factOk ar fs[k] = false by simpa using hfo], hh.2⟩ : e = .returned (.bool false) ∧ Below x.val.heap.size x.val w'))
        have HE := Lib.hid (show factsOk ar fs = false by
          by_cases ha : arityOk ar = true
          · exact round_not hlt (round_unfit hlt (by simpa [factOk, ha] using hfo))
          · simp [factsOk, ha])
        clear hs hfo
        go_wp2_with (fail)
        refine wp_region_later (by kernel_rfl) (by kernel_rfl) ?_
        repeat (go_big_quiet_step ((go_at_call 79; exact later_of (CF.out _))))
        refine wpQuiet_nil ?_
        rintro _ ⟨xq, rfl⟩
        go_wp2_with (fail)
        go_ret
        exact ⟨ret_bool HE.out.symm, bthen hbe xq.2⟩
    · have hkn : k = fs.length := by omega
      have HE := Lib.hid (show factsOk ar fs = arityOk ar by unfold factsOk; unfold OkTo at hs; rw [← hkn, hs, Bool.and_true])
      clear hkn hs
      go_wp2_with (fail)
      refine (specArityOk_any _ ar _ (H.out.on hbe) (by omega)).mono ?_
      rintro e w2 ⟨rfl, rfl⟩
      go_wp2_with (fail)
      go_ret
      exact ⟨ret_bool HE.out.symm, hbe⟩

end Go.Proofs.YtokmmloakahkhaaGreatDoor
/-
  The specification's l1Pick, FactsBoth and FactsLess.
-/
namespace Go.Proofs.YtokmmloakahkhaaGreatDoor
open Go.RowKit

theorem filter_tot_le (p : LFact → Bool) : ∀ l : List LFact, tot (l.filter p) ≤ tot l
  | [] => by simp [tot]
  | f :: l => by
    have := filter_tot_le p l
    by_cases h : p f = true <;> simp [h, tot_cons] <;> omega

/-- The facts of a list that another has, or has not. -/
def pickL (xs ys : List LFact) (b : Bool) : List LFact := setOf (xs.filter fun f => factsHas ys f == b)
theorem pickL_bound (xs ys : List LFact) (b : Bool) : (pickL xs ys b).length ≤ xs.length ∧ tot (pickL xs ys b) ≤ tot xs := by
  have h := setOf_bound (xs.filter fun f => factsHas ys f == b)
  have h1 := List.length_filter_le (fun f => factsHas ys f == b) xs
  have h2 := filter_tot_le (fun f => factsHas ys f == b) xs
  unfold pickL
  omega
theorem pickL_yes {xs ys : List LFact} {b : Bool} {k : Nat} (h : k < xs.length) (e : factsHas ys xs[k] = b) : pickL (xs.take (k + 1)) ys b = factsWith (pickL (xs.take k) ys b) xs[k] := by
  unfold pickL
  rw [take_snoc xs k h, List.filter_append, ← setOf_snoc]
  simp [e]
theorem pickL_no {xs ys : List LFact} {b : Bool} {k : Nat} (h : k < xs.length) (e : factsHas ys xs[k] ≠ b) : pickL (xs.take (k + 1)) ys b = pickL (xs.take k) ys b := by
  unfold pickL
  rw [take_snoc xs k h, List.filter_append]
  simp [e]

end Go.Proofs.YtokmmloakahkhaaGreatDoor
/-
  The specification's Consequences and Closed.
-/
namespace Go.Proofs.YtokmmloakahkhaaGreatDoor
open Go.RowKit

/-- The heads that follow. -/
def consL (p : LProg) (fs : List LFact) : List LFact := if progOk p && factsOk p.1 fs then headsAll p.2 fs else []
def closedL (p : LProg) (fs : List LFact) : Bool := progOk p && (factsOk p.1 fs && decide ((pickL (headsAll p.2 fs) fs false).length = 0))

theorem factsOk_parts {ar : List Int} {fs : List LFact} (h : factsOk ar fs = true) : arityOk ar = true ∧ (∀ f ∈ fs, factFits ar f = true) ∧ Asc fs := by
  simp only [factsOk, Bool.and_eq_true, List.all_eq_true, List.mem_range] at h
  obtain ⟨h1, h2⟩ := h
  refine ⟨h1, fun f hf => ?_, ?_⟩
  · obtain ⟨k, hk, rfl⟩ := List.getElem_of_mem hf
    have := h2 k hk
    unfold roundOk at this
    rw [getD_at hk, Bool.and_eq_true] at this
    exact this.1
  · have hs : ∀ k (h0 : k + 1 < fs.length), factOrder (fs[k]'(by omega)) fs[k + 1] < 0 := fun k h0 => by
      have := h2 (k + 1) h0
      unfold roundOk at this
      rw [getD_at h0, Nat.add_sub_cancel, getD_at (show k < fs.length by omega), Bool.and_eq_true] at this
      simpa using this.2
    have hd : ∀ d k (h0 : k + d + 1 < fs.length), factOrder (fs[k]'(by omega)) fs[k + d + 1] < 0 := fun d => by
      induction d with
      | zero => intro k h0; exact hs k h0
      | succ d ih =>
        intro k h0
        exact order_less (ih k (by omega)) (hs (k + d + 1) h0)
    unfold Asc
    rw [List.pairwise_iff_getElem]
    intro i j hi hj hij
    obtain ⟨d, rfl⟩ : ∃ d, j = i + d + 1 := ⟨j - i - 1, by omega⟩
    exact hd d i hj
theorem prog_parts {p : LProg} (h : progOk p = true) : arityOk p.1 = true ∧ p.2.length ≤ 60 ∧ ∀ r ∈ p.2, ruleFits p.1 r = true := by
  simp only [progOk, Bool.and_eq_true, decide_eq_true_eq, List.all_eq_true] at h
  exact ⟨h.1, h.2.1, h.2.2⟩

end Go.Proofs.YtokmmloakahkhaaGreatDoor
/-
  The heads of a rule by its solutions: plain mathematics.
-/
namespace Go.Proofs.YtokmmloakahkhaaGreatDoor
open Go.RowKit

theorem safeTo_or {a b y : Nat} (h : safeTo (a ||| b) y 4 = true) : safeTo b y 4 = true := by
  rw [safeTo_iff] at h ⊢
  intro v hv hb
  exact h v hv (by rw [Nat.testBit_or, hb, Bool.or_true])
/-- A rule that fits has a body that can be asked. -/
theorem fits_body {ar : List Int} {r : LRule} (h : ruleFits ar r = true) : bodySafe r.2 = true := by
  simp only [ruleFits, Bool.and_eq_true, decide_eq_true_eq] at h
  obtain ⟨_, h4, hl, hs⟩ := h
  unfold bodySafe
  rw [Bool.and_eq_true, Bool.and_eq_true, decide_eq_true_eq, List.all_eq_true]
  refine ⟨⟨fun l hm => ?_, h4⟩, ?_⟩
  · have hf := List.all_eq_true.1 hl l hm
    refine litFine_yes ?_ (lit_terms hf)
    unfold litFits at hf
    split at hf
    · omega
    · split at hf
      · omega
      · cases hf
  · rw [ruleSafe_eq] at hs ⊢
    rw [ruleMask_body]
    exact safeTo_or hs
/-- The variables of the head stand in an atom that is to hold. -/
theorem fits_head {ar : List Int} {r : LRule} (h : ruleFits ar r = true) : ∀ v, v < 4 → (maskOf r.1.2).testBit v = true → ∃ l ∈ r.2, l.1 = 0 ∧ (maskOf l.2.2).testBit v = true := by
  simp only [ruleFits, Bool.and_eq_true, decide_eq_true_eq] at h
  obtain ⟨_, _, _, hs⟩ := h
  rw [ruleSafe_eq, safeTo_iff] at hs
  intro v hv hm
  have := hs v hv (by unfold ruleMask; rw [Nat.testBit_or, hm, Bool.true_or])
  unfold yesMask at this
  rw [yesMask_bit] at this
  simpa using this
/-- A solution makes a head. -/
theorem sols_head {ar : List Int} {r : LRule} {fs : List LFact} {S : List (List Int)} (h : ruleFits ar r = true) (hS : IsSols (questL fs r.2) S) : ∀ b ∈ S, headOk r.1 b = true := by
  intro b hb
  obtain ⟨h1, h2, _⟩ := (hS.2 b).1 hb
  have hf := h
  simp only [ruleFits, atomFits, Bool.and_eq_true, decide_eq_true_eq] at hf
  refine headOk_yes h1 hf.1.2 (List.all_eq_true.2 fun x hx => ?_)
  obtain ⟨t, ht, rfl⟩ := List.mem_map.1 hx
  have htk : termOk t = true := List.all_eq_true.1 hf.1.2 t ht
  have hbd := termVal_bounds h1 htk
  rcases term_cases htk with h' | ⟨v, hv, rfl⟩
  · rw [termVal_const h'.1]
    simp [constOk]
    exact h'
  · have hm : (maskOf r.1.2).testBit v = true := by unfold maskOf; rw [maskFrom_bit hv]; exact .inr ht
    obtain ⟨l, hl, _, hlm⟩ := fits_head h v hv hm
    have hne := (h2 v hv).2 ⟨(l, fs), List.mem_map.2 ⟨l, hl, rfl⟩, hlm⟩
    rw [termVal_v] at hbd ⊢
    unfold constOk
    exact decide_eq_true (by omega)
theorem headsTo_mem (a : LFact) (S : List (List Int)) (f : LFact) : ∀ k, k ≤ S.length → (f ∈ headsTo a S k ↔ ∃ b ∈ S.take k, headOk a b = true ∧ f = headOf a b)
  | 0, _ => by simp [headsTo]
  | k + 1, hk => by
    have ih := headsTo_mem a S f k (by omega)
    have hlt : k < S.length := by omega
    rw [take_snoc S k hlt]
    cases e : headOk a S[k]
    · rw [headsTo_no hlt e, ih]
      constructor
      · rintro ⟨b, hb, h⟩; exact ⟨b, List.mem_append_left _ hb, h⟩
      · rintro ⟨b, hb, h⟩
        rcases List.mem_append.1 hb with hb | hb
        · exact ⟨b, hb, h⟩
        · obtain rfl : b = S[k] := by simpa using hb
          rw [e] at h; cases h.1
    · rw [headsTo_yes hlt e, factsWith_mem, ih]
      constructor
      · rintro (⟨b, hb, h⟩ | rfl)
        · exact ⟨b, List.mem_append_left _ hb, h⟩
        · exact ⟨S[k], List.mem_append_right _ (List.mem_singleton_self _), e, rfl⟩
      · rintro ⟨b, hb, h⟩
        rcases List.mem_append.1 hb with hb | hb
        · exact .inl ⟨b, hb, h⟩
        · obtain rfl : b = S[k] := by simpa using hb
          exact .inr h.2
/-- The heads, by whatever list of the solutions. -/
theorem headsL_mem {ar : List Int} {r : LRule} {fs : List LFact} {S : List (List Int)} (h : ruleFits ar r = true) (hS : IsSols (questL fs r.2) S) (hc : ∀ f ∈ fs, f.2.all constOk = true) (hn : fs.Nodup) (f : LFact) :
    f ∈ headsL r fs ↔ ∃ b ∈ S, f = (r.1.1, r.1.2.map (termVal b)) := by
  obtain ⟨_, h2⟩ := solsOf_is (fs := fs) (gs := fs) (SafeB.of (fits_body h)) hc hn (fun _ => Iff.rfl)
  unfold headsL
  rw [headsTo_mem _ _ _ _ (Nat.le_refl _), List.take_length]
  constructor
  · rintro ⟨b, hb, e, rfl⟩
    exact ⟨b, (hS.2 b).2 ((h2.2 b).1 hb), headOf_yes e⟩
  · rintro ⟨b, hb, rfl⟩
    have e := sols_head h hS b hb
    exact ⟨b, (h2.2 b).2 ((hS.2 b).1 hb), e, (headOf_yes e).symm⟩

end Go.Proofs.YtokmmloakahkhaaGreatDoor
/-
  Consequences as the heads of all rules for all solutions, put together one by one. Plain mathematics.
-/
namespace Go.Proofs.YtokmmloakahkhaaGreatDoor
open Go.RowKit

theorem setOf_same {l : List LFact} (h : Asc l) : setOf l = l := (setOf_asc l).unique h (setOf_mem l)
theorem with_same {l : List LFact} (h : Asc l) (f : LFact) : Asc (factsWith l f) ∧ ∀ x, x ∈ factsWith l f ↔ x ∈ l ∨ x = f := by
  have := foldWith [f] l h
  simpa using this
/-- What is got behind some rules, and some solutions of the next one. -/
def GotTo (rs : List LRule) (gs : List LFact) (k j : Nat) (G : List LFact) : Prop :=
  Asc G ∧ ∀ f, f ∈ G ↔ (∃ r ∈ rs.take k, f ∈ headsL r gs) ∨ ∃ h : k < rs.length, f ∈ headsTo rs[k].1 (solsOf gs rs[k].2) j
theorem GotTo.start (rs : List LRule) (gs : List LFact) : GotTo rs gs 0 0 [] := by
  refine ⟨List.Pairwise.nil, fun f => ?_⟩
  simp [headsTo]
theorem GotTo.step {rs : List LRule} {gs : List LFact} {k j : Nat} {G : List LFact} (h : GotTo rs gs k j G) (hk : k < rs.length) (hj : j < (solsOf gs rs[k].2).length) (ho : headOk rs[k].1 (solsOf gs rs[k].2)[j] = true) : GotTo rs gs k (j + 1) (factsWith G (headOf rs[k].1 (solsOf gs rs[k].2)[j])) := by
  obtain ⟨h1, h2⟩ := h
  obtain ⟨h3, h4⟩ := with_same h1 (headOf rs[k].1 (solsOf gs rs[k].2)[j])
  refine ⟨h3, fun f => ?_⟩
  rw [h4, h2]
  have m1 := headsTo_mem rs[k].1 (solsOf gs rs[k].2) f (j + 1) (by omega)
  have m0 := headsTo_mem rs[k].1 (solsOf gs rs[k].2) f j (by omega)
  rw [List.take_succ_eq_append_getElem hj] at m1
  constructor
  · rintro ((h5 | ⟨_, h5⟩) | rfl)
    · exact .inl h5
    · obtain ⟨b, hb, h6⟩ := m0.1 h5
      exact .inr ⟨hk, m1.2 ⟨b, List.mem_append_left _ hb, h6⟩⟩
    · exact .inr ⟨hk, m1.2 ⟨_, List.mem_append_right _ (List.mem_singleton.2 rfl), ho, rfl⟩⟩
  · rintro (h5 | ⟨_, h5⟩)
    · exact .inl (.inl h5)
    · obtain ⟨b, hb, h6, h7⟩ := m1.1 h5
      rcases List.mem_append.1 hb with hb | hb
      · exact .inl (.inr ⟨hk, m0.2 ⟨b, hb, h6, h7⟩⟩)
      · rw [List.mem_singleton.1 hb] at h7
        exact .inr h7
theorem GotTo.next {rs : List LRule} {gs : List LFact} {k : Nat} {G : List LFact} (hk : k < rs.length) (h : GotTo rs gs k (solsOf gs rs[k].2).length G) : GotTo rs gs (k + 1) 0 G := by
  obtain ⟨h1, h2⟩ := h
  refine ⟨h1, fun f => ?_⟩
  rw [h2, List.take_succ_eq_append_getElem hk]
  constructor
  · rintro (⟨r, hr, h5⟩ | ⟨_, h5⟩)
    · exact .inl ⟨r, List.mem_append_left _ hr, h5⟩
    · exact .inl ⟨rs[k], List.mem_append_right _ (List.mem_singleton.2 rfl), h5⟩
  · rintro (⟨r, hr, h5⟩ | ⟨_, h5⟩)
    · rcases List.mem_append.1 hr with hr | hr
      · exact .inl ⟨r, hr, h5⟩
      · rw [List.mem_singleton.1 hr] at h5
        exact .inr ⟨hk, h5⟩
    · simp [headsTo] at h5
theorem GotTo.done {rs : List LRule} {gs : List LFact} {G : List LFact} (h : GotTo rs gs rs.length 0 G) : G = headsAll rs gs := by
  obtain ⟨h1, h2⟩ := h
  unfold headsAll
  refine h1.unique (setOf_asc _) fun f => ?_
  rw [h2, setOf_mem, List.mem_flatMap, List.take_length]
  constructor
  · rintro (h3 | ⟨h3, _⟩)
    · exact h3
    · omega
  · exact .inl
theorem got_head {rs : List LRule} {gs : List LFact} {k j : Nat} (hk : k < rs.length) (hj : j < (solsOf gs rs[k].2).length) (ho : headOk rs[k].1 (solsOf gs rs[k].2)[j] = true) : headOf rs[k].1 (solsOf gs rs[k].2)[j] ∈ headsAll rs gs := by
  unfold headsAll
  rw [setOf_mem, List.mem_flatMap]
  refine ⟨rs[k], List.getElem_mem _, ?_⟩
  unfold headsL
  rw [headsTo_mem _ _ _ _ (Nat.le_refl _), List.take_length]
  exact ⟨_, List.getElem_mem hj, ho, rfl⟩
theorem GotTo.sub {rs : List LRule} {gs : List LFact} {k j : Nat} {G : List LFact} (h : GotTo rs gs k j G) (hj : ∀ h : k < rs.length, j ≤ (solsOf gs rs[k].2).length) : ∀ f ∈ G, f ∈ headsAll rs gs := fun f hf => by
  unfold headsAll
  rw [setOf_mem, List.mem_flatMap]
  rcases (h.2 f).1 hf with ⟨r, hr, h5⟩ | ⟨hk, h5⟩
  · exact ⟨r, List.mem_of_mem_take hr, h5⟩
  · refine ⟨rs[k], List.getElem_mem _, ?_⟩
    unfold headsL
    rw [headsTo_mem _ _ _ _ (hj hk)] at h5
    rw [headsTo_mem _ _ _ _ (Nat.le_refl _), List.take_length]
    obtain ⟨b, hb, h6⟩ := h5
    exact ⟨b, List.mem_of_mem_take hb, h6⟩
/-- What is got is little. -/
theorem GotTo.few {p : LProg} (hp : progOk p = true) {gs : List LFact} {k j : Nat} {G : List LFact} (h : GotTo p.2 gs k j G) (hj : ∀ h : k < p.2.length, j ≤ (solsOf gs p.2[k].2).length) : G.length ≤ 1536 ∧ tot G ≤ 3072 := by
  obtain ⟨ha, _, hf⟩ := prog_parts hp
  exact facts_few ha (asc_nodup h.1) fun f hf' => headsAll_fits gs hf f (h.sub hj f hf')
/-- A rule's solutions are those that Solutions tells. -/
theorem rule_sols {p : LProg} (hp : progOk p = true) {fs : List LFact} (hf : factsOk p.1 fs = true) {k : Nat} (hk : k < p.2.length) : solsL fs p.2[k].2 = solsOf fs p.2[k].2 ∧ (∀ b ∈ solsOf fs p.2[k].2, headOk p.2[k].1 b = true) ∧ ∀ b ∈ solsOf fs p.2[k].2, b.length = 4 := by
  obtain ⟨ha, _, hr⟩ := prog_parts hp
  obtain ⟨_, hfit, hasc⟩ := factsOk_parts hf
  have hrk := hr _ (List.getElem_mem hk)
  have hb := fits_body hrk
  have hc : constsL fs = true := List.all_eq_true.2 fun f hf' => (fits_parts (hfit f hf')).2
  have hS := (solsOf_is (SafeB.of hb) (consts_of hc) (asc_nodup hasc) (fun f => Iff.rfl)).2
  refine ⟨?_, sols_head hrk hS, fun b hb' => bindOk_len (hS.ok b hb')⟩
  unfold solsL
  rw [hb, hc, setOf_same hasc]
  rfl

end Go.Proofs.YtokmmloakahkhaaGreatDoor
