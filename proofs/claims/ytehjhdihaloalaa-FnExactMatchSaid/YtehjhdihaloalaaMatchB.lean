/-
  Both Match.
-/
import Derived.Test.YtehjhdihaloalaaSpecMatch
import Derived.Test.YtehjhdihaloalaaConsts
import Derived.Test.YtehjhdihaloalaaMatched
import Derived.Test.YtehjhdihaloalaaImplHead
namespace Go.Proofs.Ytehjhdihaloalaa
open Go.RowKit

def matchOk (a f : LFact) (bs : List Int) : Bool := (bindOk bs && a.2.all termOk) && f.2.all constOk
def matchO (a f : LFact) (bs : List Int) : Option (List Int) := if matchOk a f bs then matchL a f bs else none
def matchR (a f : LFact) (bs : List Int) : List Int := (matchO a f bs).getD []
def matchB (a f : LFact) (bs : List Int) : Bool := (matchO a f bs).isSome
theorem matchO_no {a f : LFact} {bs : List Int} (h : matchOk a f bs = false) : matchO a f bs = none := by unfold matchO; rw [h]; rfl
theorem matchO_yes {a f : LFact} {bs : List Int} (h : matchOk a f bs = true) : matchO a f bs = matchL a f bs := by unfold matchO; rw [h]; rfl
theorem matchOk_bind {a f : LFact} {bs : List Int} (h : bindOk bs = false) : matchOk a f bs = false := by unfold matchOk; rw [h]; rfl
theorem matchOk_terms {a f : LFact} {bs : List Int} (h : a.2.all termOk = false) : matchOk a f bs = false := by unfold matchOk; rw [h, Bool.and_false]; rfl
theorem matchOk_consts {a f : LFact} {bs : List Int} (h : f.2.all constOk = false) : matchOk a f bs = false := by unfold matchOk; rw [h, Bool.and_false]
theorem matchOk_yes {a f : LFact} {bs : List Int} (h1 : bindOk bs = true) (h2 : a.2.all termOk = true) (h3 : f.2.all constOk = true) : matchOk a f bs = true := by unfold matchOk; rw [h1, h2, h3]; rfl
theorem matchTo_ok {bs xs ys : List Int} (hb : bindOk bs = true) (hy : ys.all constOk = true) : ∀ {k : Nat} {b : List Int}, k ≤ ys.length → matchTo bs xs ys k = some b → bindOk b = true
  | 0, b, _, e => by
    injection e with e
    rwa [← e]
  | k + 1, b, hk, e => by
    have e' : (matchTo bs xs ys k).bind (fun b => stepM b (xs.getD k 0) (ys.getD k 0)) = some b := e
    obtain ⟨c, h1, h2⟩ := Option.bind_eq_some_iff.1 e'
    refine stepM_ok (matchTo_ok hb hy (by omega) h1) ?_ h2
    have hlt : k < ys.length := by omega
    have := List.all_eq_true.1 hy _ (List.getElem_mem hlt)
    simp [constOk] at this
    simp [hlt]
    omega
theorem matchL_ok {a f : LFact} {bs b : List Int} (hb : bindOk bs = true) (hy : f.2.all constOk = true) (e : matchL a f bs = some b) : bindOk b = true := by
  unfold matchL at e
  split at e
  · rename_i h
    exact matchTo_ok hb hy (by omega) e
  · cases e
theorem matchR_length (a f : LFact) (bs : List Int) : (matchR a f bs).length ≤ 4 := by
  unfold matchR
  cases h : matchO a f bs with
  | none => simp
  | some b =>
    unfold matchO at h
    split at h
    · rename_i hok
      unfold matchOk at hok
      simp only [Bool.and_eq_true] at hok
      have := bindOk_len (matchL_ok hok.1.1 hok.2 h)
      simp [this]
    · cases h
theorem constsL_one (f : LFact) : constsL [f] = f.2.all constOk := by simp [constsL]

/-- A slice of one fact that a call lays. -/
theorem rdFacts_one {W : World} {A : Option Addr} {c : Nat} {f : LFact} (h : RdInts W W.heap.size (.slice A f.2.length c) f.2) (T : TypeId) :
    RdFacts (W.alloc (.cells #[.int .i64 f.1, .slice A f.2.length c] T)) (W.alloc (.cells #[.int .i64 f.1, .slice A f.2.length c] T)).heap.size (.slice (some ⟨W.heap.size, 0, none⟩) 1 1) [f] := by
  have hb := Blk.new W T #[.int .i64 f.1, .slice A f.2.length c]
  refine ⟨_, 1, rfl, by simp, fun _ => ⟨W.heap.size, 0, rfl, by simp, fun k hk => ?_⟩⟩
  match k, hk with
  | 0, _ => exact ⟨_, hb.cell 0, hb.cell 1, h.on (below1 _ _)⟩

set_option maxHeartbeats 2000000 in
set_option maxRecDepth 100000 in
theorem specMatch_any (v v2 v3 : Value) (a f : LFact) (bs : List Int) (w : World) (h : RdFact w w.heap.size v a) (h2 : RdFact w w.heap.size v2 f) (h3 : RdInts w w.heap.size v3 bs) (hr : a.2.length ≤ 1048576) (hr2 : f.2.length ≤ 1048576) (hr3 : bs.length ≤ 1048576) :
    Calls Try.prog 39 #[v, v2, v3] w fun e w' => ∃ A' c', e = .returned (.tuple #[.slice A' (matchR a f bs).length c', .bool (matchB a f bs)]) ∧ OwnInts w' w.heap.size w'.heap.size (.slice A' (matchR a f bs).length c') (matchR a f bs) ∧ Below w.heap.size w w' := by
  obtain ⟨pa, xs⟩ := a
  obtain ⟨pf, ys⟩ := f
  obtain ⟨u, rfl, h⟩ := h
  obtain ⟨u2, rfl, h2⟩ := h2
  have H := Lib.hid h
  have H2 := Lib.hid h2
  have H3 := Lib.hid h3
  obtain ⟨A, c, rfl, hc, _⟩ := h
  obtain ⟨A2, c2, rfl, hc2, _⟩ := h2
  obtain ⟨A3, c3, rfl, hc3, _⟩ := h3
  simp only at hc hc2 hr hr2
  obtain ⟨R, hR⟩ : ∃ R, R = matchR (pa, xs) (pf, ys) bs := ⟨_, rfl⟩
  obtain ⟨ok, hok⟩ : ∃ ok, ok = matchB (pa, xs) (pf, ys) bs := ⟨_, rfl⟩
  rw [← hR, ← hok]
  have HO := Lib.hid (And.intro hR hok)
  clear hR hok
  have HNo := Lib.hid (show matchOk (pa, xs) (pf, ys) bs = false → R = [] ∧ ok = false from fun e => ⟨by rw [HO.out.1]; unfold matchR; rw [matchO_no e]; rfl, by rw [HO.out.2]; unfold matchB; rw [matchO_no e]; rfl⟩)
  have x0 := (Blk.new w 49 #[.int .i64 pa, .slice A xs.length c]).alloc (Obj.cells #[.int .i64 pf, .slice A2 ys.length c2] 28)
  have x1 : Blk ((w.alloc (Obj.cells #[.int .i64 pa, .slice A xs.length c] 49)).alloc (Obj.cells #[.int .i64 pf, .slice A2 ys.length c2] 28)) (w.heap.size + 1) 28 #[.int .i64 pf, .slice A2 ys.length c2] := by simpa using Blk.new (w.alloc (Obj.cells #[.int .i64 pa, .slice A xs.length c] 49)) 28 #[.int .i64 pf, .slice A2 ys.length c2]
  obtain ⟨w2, hw2⟩ : ∃ w2, w2 = ((w.alloc (Obj.cells #[Value.int IntKind.i64 pa, Value.slice A xs.length c] 49)).alloc (Obj.cells #[Value.int IntKind.i64 pf, Value.slice A2 ys.length c2] 28)) := ⟨_, rfl⟩
  have B2 : Below w.heap.size w w2 := by rw [hw2]; exact below2 _ _ _
  have HW := Lib.hid hw2
  rw [← hw2] at x0 x1
  clear hw2
  have q00 : w2.cell? ⟨w.heap.size, 0, none⟩ = some (.int .i64 pa) := x0.cell 0
  have q01 : w2.cell? ⟨w.heap.size, 1, none⟩ = some (.slice A xs.length c) := x0.cell 1
  have q10 : w2.cell? ⟨w.heap.size + 1, 0, none⟩ = some (.int .i64 pf) := x1.cell 0
  have q11 : w2.cell? ⟨w.heap.size + 1, 1, none⟩ = some (.slice A2 ys.length c2) := x1.cell 1
  by_cases hb : bindOk bs = true
  · have L1 := Lib.hid (l3Bind_is hb (.slice A3 bs.length c3) w2.heap.size w2 (H3.out.on B2) hr3)
    by_cases ht : xs.all termOk = true
    · have L2 := Lib.hid (l2Terms_is ht (.slice A xs.length c) w2.heap.size w2 (H.out.on B2) hr)
      have F1 := Lib.hid (rdFacts_one (f := (pf, ys)) (H2.out.on B2) 28)
      have htot : tot [(pf, ys)] ≤ 1048576 := by simp [tot]; exact hr2
      by_cases hf : ys.all constOk = true
      · have L3 := Lib.hid (l3Consts_is (fs := [(pf, ys)]) (b := true) (by rw [constsL_one]; exact hf) _ _ _ F1.out (by simp) htot)
        have hRL : R = (matchL (pa, xs) (pf, ys) bs).getD [] := by rw [HO.out.1]; unfold matchR; rw [matchO_yes (matchOk_yes hb ht hf)]
        have hOL : ok = (matchL (pa, xs) (pf, ys) bs).isSome := by rw [HO.out.2]; unfold matchB; rw [matchO_yes (matchOk_yes hb ht hf)]
        have B3 : Below w2.heap.size w2 (w2.alloc (Obj.cells #[Value.int IntKind.i64 pf, Value.slice A2 ys.length c2] 28)) := below1 _ _
        have L4 := Lib.hid (l3Match_n (.agg #[.int .i64 pa, .slice A xs.length c]) (.agg #[.int .i64 pf, .slice A2 ys.length c2]) (.slice A3 bs.length c3) (pa, xs) (pf, ys) bs R ok hRL hOL (w2.alloc (Obj.cells #[Value.int IntKind.i64 pf, Value.slice A2 ys.length c2] 28)) hb ⟨_, rfl, H.out.on (bthen B2 B3)⟩ ⟨_, rfl, H2.out.on (bthen B2 B3)⟩ (H3.out.on (bthen B2 B3)) ht hf hr hr2)
        have B23 := Lib.hid (bthen B2 B3)
        have hs23 : w.heap.size ≤ (w2.alloc (Obj.cells #[Value.int IntKind.i64 pf, Value.slice A2 ys.length c2] 28)).heap.size := B23.out.size
        have HS23 := Lib.hid hs23
        clear hRL hOL B3 hb ht hf hs23
        have r0 : (w2.alloc (Obj.cells #[Value.int IntKind.i64 pf, Value.slice A2 ys.length c2] 28)).cell? ⟨w.heap.size, 0, none⟩ = some (.int .i64 pa) := (x0.alloc _).cell 0
        have r1 : (w2.alloc (Obj.cells #[Value.int IntKind.i64 pf, Value.slice A2 ys.length c2] 28)).cell? ⟨w.heap.size, 1, none⟩ = some (.slice A xs.length c) := (x0.alloc _).cell 1
        have r2 : (w2.alloc (Obj.cells #[Value.int IntKind.i64 pf, Value.slice A2 ys.length c2] 28)).cell? ⟨w.heap.size + 1, 0, none⟩ = some (.int .i64 pf) := (x1.alloc _).cell 0
        have r3 : (w2.alloc (Obj.cells #[Value.int IntKind.i64 pf, Value.slice A2 ys.length c2] 28)).cell? ⟨w.heap.size + 1, 1, none⟩ = some (.slice A2 ys.length c2) := (x1.alloc _).cell 1
        go_enter Try.func39, Try.ntmps39
        go_wp2_with (fail)
        rw [← HW.out]
        refine L1.out.mono ?_
        rintro e w' ⟨rfl, rfl⟩
        go_wp2_with (fail)
        refine L2.out.mono ?_
        rintro e w' ⟨rfl, rfl⟩
        go_wp2_with (fail)
        refine L3.out.mono ?_
        rintro e w' ⟨rfl, rfl⟩
        go_wp2_with (fail)
        refine L4.out.mono ?_
        rintro e w4 ⟨A', c', rfl, ho, hb4⟩
        have HQ := Lib.hid (And.intro ho hb4)
        clear ho hb4
        go_wp2_with (fail)
        go_ret2
        exact ⟨A', c', rfl, HQ.out.1.mono HS23.out (Nat.le_refl _), bthen B23.out HQ.out.2⟩
      · have hf' : ys.all constOk = false := by simpa using hf
        have L3 := Lib.hid (l3Consts_is (fs := [(pf, ys)]) (b := false) (by rw [constsL_one]; exact hf') _ _ _ F1.out (by simp) htot)
        have HN := Lib.hid (HNo.out (matchOk_consts hf'))
        clear hb ht hf hf'
        go_enter Try.func39, Try.ntmps39
        go_wp2_with (fail)
        rw [← HW.out]
        refine L1.out.mono ?_
        rintro e w' ⟨rfl, rfl⟩
        go_wp2_with (fail)
        refine L2.out.mono ?_
        rintro e w' ⟨rfl, rfl⟩
        go_wp2_with (fail)
        refine L3.out.mono ?_
        rintro e w' ⟨rfl, rfl⟩
        go_wp2_with (fail)
        go_ret2
        rw [HN.out.1, HN.out.2]
        exact ⟨none, 0, rfl, zeroI _ _ _, bthen B2 (below1 _ _)⟩
    · have ht' : xs.all termOk = false := by simpa using ht
      have L2 := Lib.hid (l2Terms_is ht' (.slice A xs.length c) w2.heap.size w2 (H.out.on B2) hr)
      have HN := Lib.hid (HNo.out (matchOk_terms ht'))
      clear hb ht ht'
      go_enter Try.func39, Try.ntmps39
      go_wp2_with (fail)
      rw [← HW.out]
      refine L1.out.mono ?_
      rintro e w' ⟨rfl, rfl⟩
      go_wp2_with (fail)
      refine L2.out.mono ?_
      rintro e w' ⟨rfl, rfl⟩
      go_wp2_with (fail)
      go_ret2
      rw [HN.out.1, HN.out.2]
      exact ⟨none, 0, rfl, zeroI _ _ _, B2⟩
  · have hb' : bindOk bs = false := by simpa using hb
    have L1 := Lib.hid (l3Bind_is hb' (.slice A3 bs.length c3) w2.heap.size w2 (H3.out.on B2) hr3)
    have HN := Lib.hid (HNo.out (matchOk_bind hb'))
    clear hb hb'
    go_enter Try.func39, Try.ntmps39
    go_wp2_with (fail)
    rw [← HW.out]
    refine L1.out.mono ?_
    rintro e w' ⟨rfl, rfl⟩
    go_wp2_with (fail)
    go_ret2
    rw [HN.out.1, HN.out.2]
    exact ⟨none, 0, rfl, zeroI _ _ _, B2⟩

set_option maxHeartbeats 2000000 in
set_option maxRecDepth 100000 in
theorem implMatch_any (v v2 v3 : Value) (a f : LFact) (bs : List Int) (w : World) (h : RdFact w w.heap.size v a) (h2 : RdFact w w.heap.size v2 f) (h3 : RdInts w w.heap.size v3 bs) (hr : a.2.length ≤ 1048576) (hr2 : f.2.length ≤ 1048576) (hr3 : bs.length ≤ 1048576) :
    Calls Try.prog 41 #[v, v2, v3] w fun e w' => ∃ A' c', e = .returned (.tuple #[.slice A' (matchR a f bs).length c', .bool (matchB a f bs)]) ∧ OwnInts w' w.heap.size w'.heap.size (.slice A' (matchR a f bs).length c') (matchR a f bs) ∧ Below w.heap.size w w' := by
  obtain ⟨pa, xs⟩ := a
  obtain ⟨pf, ys⟩ := f
  obtain ⟨u, rfl, h⟩ := h
  obtain ⟨u2, rfl, h2⟩ := h2
  have H := Lib.hid h
  have H2 := Lib.hid h2
  have H3 := Lib.hid h3
  obtain ⟨A, c, rfl, hc, _⟩ := h
  obtain ⟨A2, c2, rfl, hc2, _⟩ := h2
  obtain ⟨A3, c3, rfl, hc3, _⟩ := h3
  simp only at hc hc2 hr hr2
  obtain ⟨R, hR⟩ : ∃ R, R = matchR (pa, xs) (pf, ys) bs := ⟨_, rfl⟩
  obtain ⟨ok, hok⟩ : ∃ ok, ok = matchB (pa, xs) (pf, ys) bs := ⟨_, rfl⟩
  rw [← hR, ← hok]
  have HO := Lib.hid (And.intro hR hok)
  clear hR hok
  have HNo := Lib.hid (show matchOk (pa, xs) (pf, ys) bs = false → R = [] ∧ ok = false from fun e => ⟨by rw [HO.out.1]; unfold matchR; rw [matchO_no e]; rfl, by rw [HO.out.2]; unfold matchB; rw [matchO_no e]; rfl⟩)
  have x0 := (Blk.new w 49 #[.int .i64 pa, .slice A xs.length c]).alloc (Obj.cells #[.int .i64 pf, .slice A2 ys.length c2] 28)
  have x1 : Blk ((w.alloc (Obj.cells #[.int .i64 pa, .slice A xs.length c] 49)).alloc (Obj.cells #[.int .i64 pf, .slice A2 ys.length c2] 28)) (w.heap.size + 1) 28 #[.int .i64 pf, .slice A2 ys.length c2] := by simpa using Blk.new (w.alloc (Obj.cells #[.int .i64 pa, .slice A xs.length c] 49)) 28 #[.int .i64 pf, .slice A2 ys.length c2]
  obtain ⟨w2, hw2⟩ : ∃ w2, w2 = ((w.alloc (Obj.cells #[Value.int IntKind.i64 pa, Value.slice A xs.length c] 49)).alloc (Obj.cells #[Value.int IntKind.i64 pf, Value.slice A2 ys.length c2] 28)) := ⟨_, rfl⟩
  have B2 : Below w.heap.size w w2 := by rw [hw2]; exact below2 _ _ _
  have HW := Lib.hid hw2
  rw [← hw2] at x0 x1
  clear hw2
  have q00 : w2.cell? ⟨w.heap.size, 0, none⟩ = some (.int .i64 pa) := x0.cell 0
  have q01 : w2.cell? ⟨w.heap.size, 1, none⟩ = some (.slice A xs.length c) := x0.cell 1
  have q10 : w2.cell? ⟨w.heap.size + 1, 0, none⟩ = some (.int .i64 pf) := x1.cell 0
  have q11 : w2.cell? ⟨w.heap.size + 1, 1, none⟩ = some (.slice A2 ys.length c2) := x1.cell 1
  by_cases hb : bindOk bs = true
  · have L1 := Lib.hid (bindingOf_yes hb (.slice A3 bs.length c3) w2.heap.size w2 (H3.out.on B2))
    obtain ⟨m, hm⟩ : ∃ m, m = encB bs := ⟨_, rfl⟩
    rw [← hm] at L1
    have HM := Lib.hid hm
    clear hm
    by_cases ht : xs.all termOk = true
    · have L2 := Lib.hid (areTerms_is ht (.slice A xs.length c) w2.heap.size w2 (H.out.on B2) hr)
      by_cases hf : ys.all constOk = true
      · have L3 := Lib.hid (areConstants_is hf (.slice A2 ys.length c2) w2.heap.size w2 (H2.out.on B2) hr2)
        have HRL := Lib.hid (show R = (matchL (pa, xs) (pf, ys) bs).getD [] ∧ ok = (matchL (pa, xs) (pf, ys) bs).isSome from ⟨by rw [HO.out.1]; unfold matchR; rw [matchO_yes (matchOk_yes hb ht hf)], by rw [HO.out.2]; unfold matchB; rw [matchO_yes (matchOk_yes hb ht hf)]⟩)
        have L4 := Lib.hid (matched_n (.agg #[.int .i64 pa, .slice A xs.length c]) (.agg #[.int .i64 pf, .slice A2 ys.length c2]) (pa, xs) (pf, ys) bs (encO (matchL (pa, xs) (pf, ys) bs)) (matchL (pa, xs) (pf, ys) bs).isSome rfl rfl w2 hb ⟨_, rfl, H.out.on B2⟩ ⟨_, rfl, H2.out.on B2⟩ ht hf hr hr2)
        rw [← HM.out] at L4
        have HMO := Lib.hid (show ∀ b, matchL (pa, xs) (pf, ys) bs = some b → bindOk b = true from fun b e => matchL_ok hb hf e)
        clear hb ht hf
        go_enter Try.func41, Try.ntmps41
        go_wp2_with (fail)
        rw [← HW.out]
        refine L1.out.mono ?_
        rintro e w' ⟨rfl, rfl⟩
        go_wp2_with (fail)
        refine L2.out.mono ?_
        rintro e w' ⟨rfl, rfl⟩
        go_wp2_with (fail)
        refine L3.out.mono ?_
        rintro e w' ⟨rfl, rfl⟩
        go_wp2_with (fail)
        refine L4.out.mono ?_
        rintro e w3 ⟨rfl, hb3⟩
        have B3 := bthen B2 hb3
        rcases ho : matchL (pa, xs) (pf, ys) bs with _ | b
        · have HN := Lib.hid (show R = [] ∧ ok = false from ⟨by rw [HRL.out.1, ho]; rfl, by rw [HRL.out.2, ho]; rfl⟩)
          have hsn : (none : Option (List Int)).isSome = false := rfl
          clear ho
          go_wp2_with (fail)
          go_ret2
          rw [HN.out.1, HN.out.2]
          exact ⟨none, 0, rfl, zeroI _ _ _, B3⟩
        · have hbb := HMO.out b ho
          have HN := Lib.hid (show R = b ∧ ok = true from ⟨by rw [HRL.out.1, ho]; rfl, by rw [HRL.out.2, ho]; rfl⟩)
          have hsn : (some b).isSome = true := rfl
          have hen : encO (some b) = encB b := rfl
          have LN := Lib.hid (numbers_any b hbb w3)
          rw [hen]
          clear ho hen hbb
          generalize encB b = z at LN
          go_wp2_with (fail)
          refine LN.out.mono ?_
          rintro e w4 ⟨A', c', rfl, ho, hb4⟩
          have HQ := Lib.hid (And.intro ho (bthen B3 hb4))
          have hs3 := B3.size
          clear ho hb4
          go_wp2_with (fail)
          go_ret2
          rw [HN.out.1, HN.out.2]
          exact ⟨A', c', rfl, HQ.out.1.mono hs3 (Nat.le_refl _), HQ.out.2⟩
      · have hf' : ys.all constOk = false := by simpa using hf
        have L3 := Lib.hid (areConstants_is hf' (.slice A2 ys.length c2) w2.heap.size w2 (H2.out.on B2) hr2)
        have HN := Lib.hid (HNo.out (matchOk_consts hf'))
        clear hb ht hf hf'
        go_enter Try.func41, Try.ntmps41
        go_wp2_with (fail)
        rw [← HW.out]
        refine L1.out.mono ?_
        rintro e w' ⟨rfl, rfl⟩
        go_wp2_with (fail)
        refine L2.out.mono ?_
        rintro e w' ⟨rfl, rfl⟩
        go_wp2_with (fail)
        refine L3.out.mono ?_
        rintro e w' ⟨rfl, rfl⟩
        go_wp2_with (fail)
        go_ret2
        rw [HN.out.1, HN.out.2]
        exact ⟨none, 0, rfl, zeroI _ _ _, B2⟩
    · have ht' : xs.all termOk = false := by simpa using ht
      have L2 := Lib.hid (areTerms_is ht' (.slice A xs.length c) w2.heap.size w2 (H.out.on B2) hr)
      have HN := Lib.hid (HNo.out (matchOk_terms ht'))
      clear hb ht ht'
      go_enter Try.func41, Try.ntmps41
      go_wp2_with (fail)
      rw [← HW.out]
      refine L1.out.mono ?_
      rintro e w' ⟨rfl, rfl⟩
      go_wp2_with (fail)
      refine L2.out.mono ?_
      rintro e w' ⟨rfl, rfl⟩
      go_wp2_with (fail)
      go_ret2
      rw [HN.out.1, HN.out.2]
      exact ⟨none, 0, rfl, zeroI _ _ _, B2⟩
  · have hb' : bindOk bs = false := by simpa using hb
    have L1 := Lib.hid (bindingOf_no hb' (.slice A3 bs.length c3) w2.heap.size w2 (H3.out.on B2) hr3)
    have HN := Lib.hid (HNo.out (matchOk_bind hb'))
    clear hb hb'
    go_enter Try.func41, Try.ntmps41
    go_wp2_with (fail)
    rw [← HW.out]
    refine L1.out.mono ?_
    rintro e w' ⟨rfl, rfl⟩
    go_wp2_with (fail)
    go_ret2
    rw [HN.out.1, HN.out.2]
    exact ⟨none, 0, rfl, zeroI _ _ _, B2⟩

end Go.Proofs.Ytehjhdihaloalaa
