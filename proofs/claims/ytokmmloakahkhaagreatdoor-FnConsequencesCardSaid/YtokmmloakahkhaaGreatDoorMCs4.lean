/-
  Texts that the claim's last one imports, laid together: part 4 of 13. No condition of its own.
-/
import Derived.Deep.DeepCutAuto
import Derived.Deep.RegionHeld3
import Derived.Test.YtokmmloakahkhaaGreatDoorMCs1
import Derived.Test.YtokmmloakahkhaaGreatDoorMCs3
/-
  The program's RuleSafe.
-/
namespace Go.Proofs.YtokmmloakahkhaaGreatDoor
open Go.RowKit

set_option maxHeartbeats 400000 in
theorem implRuleSafe_any (v : Value) (r : LRule) (w : World) (h : RdRule w w.heap.size v r) (hr : szR r ≤ 1048576) :
    Calls Tryz.prog 85 #[v] w fun e w' => e = .returned (.bool (ruleSafe r)) ∧ Below w.heap.size w w' := by
  obtain ⟨a, b, rfl, h, h2⟩ := h
  obtain ⟨w1, hw1⟩ : ∃ w1, w1 = w.alloc (Obj.cells #[Value.int IntKind.i64 r.1.1, a, b] 38) := ⟨_, rfl⟩
  have B1 : Below w.heap.size w w1 := by rw [hw1]; exact below1 _ _
  have C1 := Lib.hid (fun x : Later w1 => later_of (ruleVars_any _ r x.val ⟨a, b, rfl, (h.on B1).on x.2, (h2.on B1).on x.2⟩ hr))
  have C2 := Lib.hid (fun x : Later w1 => later_of (yesVars_any b r.2 x.val ((h2.on B1).on x.2) (by unfold szR at hr; omega) (by unfold szR at hr; omega)))
  obtain ⟨A, c, rfl, hc, _⟩ := h
  obtain ⟨A2, c2, rfl, hc2, _⟩ := h2
  have x1 : Blk w1 w.heap.size 38 #[.int .i64 r.1.1, .slice A r.1.2.length c, .slice A2 r.2.length c2] := by rw [hw1]; exact Blk.new w _ _
  have M0 := later_cell (x1.cell 0 : w1.cell? ⟨w.heap.size, 0, none⟩ = some (.int .i64 r.1.1))
  have M1 := later_cell (x1.cell 1 : w1.cell? ⟨w.heap.size, 1, none⟩ = some (.slice A r.1.2.length c))
  have M2 := later_cell (x1.cell 2 : w1.cell? ⟨w.heap.size, 2, none⟩ = some (.slice A2 r.2.length c2))
  go_enter Tryz.func85, Tryz.ntmps85
  go_wp2_with (fail)
  rw [← hw1]
  clear hw1
  refine wp_region_later (by kernel_rfl) (by kernel_rfl) ?_
  repeat (go_big_quiet_step (first | (go_at_call 130; exact C1.out _) | (go_at_call 90; exact C2.out _)))
  refine wpQuiet_nil ?_
  rintro _ ⟨xq, rfl⟩
  go_wp2_with (fail)
  go_ret
  exact ⟨rfl, bthen B1 xq.2⟩

end Go.Proofs.YtokmmloakahkhaaGreatDoor
/-
  The walks of ruleFits and of both RuleOk.
-/
namespace Go.Proofs.YtokmmloakahkhaaGreatDoor
open Go.RowKit

def ruleFits (ar : List Int) (r : LRule) : Bool := atomFits ar r.1 && (decide (r.2.length ≤ 4) && (r.2.all (litFits ar) && ruleSafe r))
def ruleOk (ar : List Int) (r : LRule) : Bool := arityOk ar && ruleFits ar r

set_option maxHeartbeats 1000000 in
set_option maxRecDepth 100000 in
theorem ruleFits_any (v v2 : Value) (ar : List Int) (r : LRule) (w : World) (h : RdInts w w.heap.size v ar) (h2 : RdRule w w.heap.size v2 r) (hs : szR r ≤ 1048576) :
    Calls Tryz.prog 37 #[v, v2] w fun e w' => e = .returned (.bool (ruleFits ar r)) ∧ Below w.heap.size w w' := by
  have H := Lib.hid h
  have HR := Lib.hid h2
  have hsz := hs
  unfold szR at hs
  obtain ⟨A, c, rfl, hc, _⟩ := h
  obtain ⟨a, b, rfl, h2, h3⟩ := h2
  have H2 := Lib.hid h2
  have H3 := Lib.hid h3
  obtain ⟨A2, c2, rfl, hc2, _⟩ := h2
  obtain ⟨A3, c3, rfl, hc3, _⟩ := h3
  go_enter Tryz.func37, Tryz.ntmps37
  go_wp2_with (fail)
  refine (atomFits_any _ _ ar r.1 _ (H.out.on (below1 _ _)) ⟨_, rfl, H2.out.on (below1 _ _)⟩ (by omega)).mono ?_
  rintro e w2 ⟨rfl, hb2⟩
  have B2 := bthen (below1 _ _) hb2
  have x2 : Blk w2 w.heap.size 38 #[.int .i64 r.1.1, .slice A2 r.1.2.length c2, .slice A3 r.2.length c3] := (Blk.new w _ _).below hb2 (by simp)
  have q2 : w2.cell? ⟨w.heap.size, 2, none⟩ = some (.slice A3 r.2.length c3) := x2.cell 2
  by_cases hf : atomFits ar r.1 = true
  · rw [hf]
    have HF := Lib.hid hf
    clear hf hb2
    by_cases hl : r.2.length ≤ 4
    · have hd : decide ((4 : Int) < (r.2.length : Int)) = false := by simp; omega
      have HL := Lib.hid (show ruleFits ar r = (r.2.all (litFits ar) && ruleSafe r) by simp [ruleFits, HF.out, hl])
      go_wp2_with (fail)
      go_loopw [6, 21] (fun _ i wr => ∃ k : Nat, k ≤ r.2.length ∧ i = .int .i64 k ∧ AllTo (litFits ar) r.2 k ∧ Below w2.heap.size w2 wr) (fun _ i _ => r.2.length - (intOf i).toNat)
      case atStart => exact ⟨0, Nat.zero_le _, rfl, AllTo.start, Below.refl _ _⟩
      case round =>
        obtain ⟨k, hk, rfl, hs, hbe⟩ := hrel
        have BW := bthen B2 hbe
        have xr := x2.below hbe x2.lt
        have p0 : wr.cell? ⟨w.heap.size, 0, none⟩ = some (.int .i64 r.1.1) := xr.cell 0
        have p1 : wr.cell? ⟨w.heap.size, 1, none⟩ = some (.slice A2 r.1.2.length c2) := xr.cell 1
        have p2 : wr.cell? ⟨w.heap.size, 2, none⟩ = some (.slice A3 r.2.length c3) := xr.cell 2
        clear q2
        by_cases hlt : k < r.2.length
        · obtain ⟨b, o, u0, u1, u2, rfl, hbB, k0, k1, k2, rfl, rfl, p3⟩ := (H3.out.on BW).get hlt
          have HA := Lib.hid p3
          obtain ⟨A4, c4, rfl, hc4, _⟩ := p3
          have hle := len_le_totL r.2 k hlt
          go_wp2_with (fail)
          refine (litFits_any _ _ ar r.2[k] _ ((H.out.on BW).on (below1 _ _)) ⟨_, rfl, HA.out.on (below1 _ _)⟩ (by omega)).mono ?_
          rintro e w4 ⟨rfl, hb4⟩
          have B4 := bthen hbe (bthen (below1 _ _) hb4)
          by_cases he : litFits ar r.2[k] = true
          · rw [he]
            have HS := Lib.hid (hs.step hlt he)
            clear hs he
            go_wp2_with (fail)
            go_roundw
            case rel => exact ⟨k + 1, by omega, by go_num, HS.out, B4⟩
            case measure => simp [intOf]; omega
          · have he' : litFits ar r.2[k] = false := by simpa using he
            rw [he']
            have HE := Lib.hid (show ruleFits ar r = false by rw [HL.out, all_not hlt he']; rfl)
            clear hs he he'
            go_wp2_with (fail)
            go_ret
            exact ⟨ret_bool HE.out.symm, bthen B2 B4⟩
        · have HE := Lib.hid (show ruleFits ar r = ruleSafe r by rw [HL.out, hs.done (by omega), Bool.true_and])
          clear hs
          go_wp2_with (fail)
          refine (implRuleSafe_any _ r _ (HR.out.on BW) hsz).mono ?_
          rintro e w5 ⟨rfl, hb5⟩
          go_wp2_with (fail)
          go_ret
          exact ⟨ret_bool HE.out.symm, bthen BW hb5⟩
    · have hd : decide ((4 : Int) < (r.2.length : Int)) = true := by simp; omega
      have HE := Lib.hid (show ruleFits ar r = false by simp [ruleFits, hl])
      go_wp2_with (fail)
      go_ret
      exact ⟨ret_bool HE.out.symm, B2⟩
  · have hf' : atomFits ar r.1 = false := by simpa using hf
    rw [hf']
    have HE := Lib.hid (show ruleFits ar r = false by simp [ruleFits, hf'])
    clear hf hf'
    go_wp2_with (fail)
    go_ret
    exact ⟨ret_bool HE.out.symm, B2⟩

theorem ruleOk_spec (ar : List Int) (r : LRule) : ruleOk ar r = (r.2.all (litOk ar) && (atomOk ar r.1 && (decide (r.2.length ≤ 4) && ruleSafe r))) := by
  unfold ruleOk ruleFits atomOk
  by_cases ha : arityOk ar = true
  · have : r.2.all (litOk ar) = r.2.all (litFits ar) := by
      congr 1
      funext l
      unfold litOk
      rw [ha, Bool.true_and]
    rw [this, ha]
    cases atomFits ar r.1 <;> cases r.2.all (litFits ar) <;> cases decide (r.2.length ≤ 4) <;> rfl
  · have ha' : arityOk ar = false := by simpa using ha
    rw [ha']
    simp

set_option maxHeartbeats 1000000 in
set_option maxRecDepth 100000 in
theorem specRuleOk_any (v v2 : Value) (ar : List Int) (r : LRule) (w : World) (h : RdInts w w.heap.size v ar) (h2 : RdRule w w.heap.size v2 r) (hr : ar.length ≤ 1048576) (hs : szR r ≤ 1048576) :
    Calls Tryz.prog 38 #[v, v2] w fun e w' => e = .returned (.bool (ruleOk ar r)) ∧ Below w.heap.size w w' := by
  have H := Lib.hid h
  have HR := Lib.hid h2
  have hsz := hs
  unfold szR at hs
  have HP := Lib.hid (ruleOk_spec ar r)
  obtain ⟨A, c, rfl, hc, _⟩ := h
  obtain ⟨a, b, rfl, h2, h3⟩ := h2
  have H2 := Lib.hid h2
  have H3 := Lib.hid h3
  obtain ⟨A2, c2, rfl, hc2, _⟩ := h2
  obtain ⟨A3, c3, rfl, hc3, _⟩ := h3
  go_enter Tryz.func38, Tryz.ntmps38
  go_wp2_with (fail)
  obtain ⟨w2, hw2⟩ : ∃ w2, w2 = w.alloc (Obj.cells #[Value.int IntKind.i64 r.1.1, Value.slice A2 r.1.2.length c2, Value.slice A3 r.2.length c3] 38) := ⟨_, rfl⟩
  have B2 : Below w.heap.size w w2 := by rw [hw2]; exact below1 _ _
  have x2 : Blk w2 w.heap.size 38 #[.int .i64 r.1.1, .slice A2 r.1.2.length c2, .slice A3 r.2.length c3] := by rw [hw2]; exact Blk.new _ _ _
  rw [← hw2]
  clear hw2
  go_loopw [5] (fun i wr => ∃ k : Nat, k ≤ r.2.length ∧ i = .int .i64 k ∧ AllTo (litOk ar) r.2 k ∧ Below w2.heap.size w2 wr) (fun i _ => r.2.length - (intOf i).toNat)
  case atStart => exact ⟨0, Nat.zero_le _, rfl, AllTo.start, Below.refl _ _⟩
  case round =>
    obtain ⟨k, hk, rfl, hs, hbe⟩ := hrel
    have BW := bthen B2 hbe
    have xr := x2.below hbe x2.lt
    have p0 : wr.cell? ⟨w.heap.size, 0, none⟩ = some (.int .i64 r.1.1) := xr.cell 0
    have p1 : wr.cell? ⟨w.heap.size, 1, none⟩ = some (.slice A2 r.1.2.length c2) := xr.cell 1
    have p2 : wr.cell? ⟨w.heap.size, 2, none⟩ = some (.slice A3 r.2.length c3) := xr.cell 2
    by_cases hlt : k < r.2.length
    · obtain ⟨b, o, u0, u1, u2, rfl, hbB, k0, k1, k2, rfl, rfl, p3⟩ := (H3.out.on BW).get hlt
      have HA := Lib.hid p3
      obtain ⟨A4, c4, rfl, hc4, _⟩ := p3
      have hle := len_le_totL r.2 k hlt
      go_wp2_with (fail)
      refine (specLitOk_any _ _ ar r.2[k] _ (H.out.on BW) ⟨_, rfl, HA.out⟩ hr (by omega)).mono ?_
      rintro e w4 ⟨rfl, hb4⟩
      have B4 := bthen hbe hb4
      by_cases he : litOk ar r.2[k] = true
      · rw [he]
        have HS := Lib.hid (hs.step hlt he)
        clear hs he
        go_wp2_with (fail)
        go_roundw
        case rel => exact ⟨k + 1, by omega, by go_num, HS.out, B4⟩
        case measure => simp [intOf]; omega
      · have he' : litOk ar r.2[k] = false := by simpa using he
        rw [he']
        have HE := Lib.hid (show ruleOk ar r = false by rw [HP.out, all_not hlt he']; rfl)
        clear hs he he'
        go_wp2_with (fail)
        go_ret
        exact ⟨ret_bool HE.out.symm, bthen B2 B4⟩
    · have HE := Lib.hid (show ruleOk ar r = (atomOk ar r.1 && (decide (r.2.length ≤ 4) && ruleSafe r)) by rw [HP.out, hs.done (by omega), Bool.true_and])
      clear hs
      go_wp2_with (fail)
      refine (specAtomOk_any _ _ ar r.1 _ (H.out.on BW) ⟨_, rfl, H2.out.on BW⟩ hr (by omega)).mono ?_
      rintro e w5 ⟨rfl, hb5⟩
      have B5 := bthen BW hb5
      have x5 := xr.below hb5 xr.lt
      have p0 : w5.cell? ⟨w.heap.size, 0, none⟩ = some (.int .i64 r.1.1) := x5.cell 0
      have p1 : w5.cell? ⟨w.heap.size, 1, none⟩ = some (.slice A2 r.1.2.length c2) := x5.cell 1
      have p2 : w5.cell? ⟨w.heap.size, 2, none⟩ = some (.slice A3 r.2.length c3) := x5.cell 2
      by_cases hf : atomOk ar r.1 = true
      · rw [hf]
        by_cases hl : r.2.length ≤ 4
        · have hd : decide ((r.2.length : Int) ≤ 4) = true := by simp; omega
          have HE2 := Lib.hid (show ruleOk ar r = ruleSafe r by rw [HE.out, hf]; simp [hl])
          clear hf
          go_wp2_with (fail)
          refine (specRuleSafe_any _ r _ (HR.out.on B5) hsz).mono ?_
          rintro e w6 ⟨rfl, hb6⟩
          go_wp2_with (fail)
          go_ret
          exact ⟨ret_bool HE2.out.symm, bthen B5 hb6⟩
        · have hd : decide ((r.2.length : Int) ≤ 4) = false := by simp; omega
          have HE2 := Lib.hid (show ruleOk ar r = false by rw [HE.out]; simp [hl])
          clear hf
          go_wp2_with (fail)
          go_ret
          exact ⟨ret_bool HE2.out.symm, B5⟩
      · have hf' : atomOk ar r.1 = false := by simpa using hf
        rw [hf']
        have HE2 := Lib.hid (show ruleOk ar r = false by rw [HE.out, hf']; rfl)
        clear hf hf'
        go_wp2_with (fail)
        go_ret
        exact ⟨ret_bool HE2.out.symm, B5⟩

end Go.Proofs.YtokmmloakahkhaaGreatDoor
/-
  The walks of both ProgramOk, of l2Has, and of both Positive.
-/
namespace Go.Proofs.YtokmmloakahkhaaGreatDoor
open Go.RowKit

def progOk (p : LProg) : Bool := arityOk p.1 && (decide (p.2.length ≤ 60) && p.2.all (ruleFits p.1))
theorem progOk_spec (p : LProg) : progOk p = (p.2.all (ruleOk p.1) && (arityOk p.1 && decide (p.2.length ≤ 60))) := by
  unfold progOk
  by_cases ha : arityOk p.1 = true
  · have : p.2.all (ruleOk p.1) = p.2.all (ruleFits p.1) := by
      congr 1
      funext r
      unfold ruleOk
      rw [ha, Bool.true_and]
    rw [this, ha]
    cases p.2.all (ruleFits p.1) <;> cases decide (p.2.length ≤ 60) <;> rfl
  · have ha' : arityOk p.1 = false := by simpa using ha
    rw [ha']
    simp

set_option maxHeartbeats 1000000 in
set_option maxRecDepth 100000 in
theorem implProgramOk_any (v : Value) (p : LProg) (w : World) (h : RdProg w w.heap.size v p) (hs : szP p ≤ 1048576) :
    Calls Tryz.prog 9 #[v] w fun e w' => e = .returned (.bool (progOk p)) ∧ Below w.heap.size w w' := by
  unfold szP at hs
  obtain ⟨a, b, rfl, h, h2⟩ := h
  have H := Lib.hid h
  have H2 := Lib.hid h2
  obtain ⟨A, c, rfl, hc, _⟩ := h
  obtain ⟨A2, c2, rfl, hc2, _⟩ := h2
  go_enter Tryz.func9, Tryz.ntmps9
  go_wp2_with (fail)
  refine (arityOk_any _ p.1 _ (H.out.on (below1 _ _)) (by omega)).mono ?_
  rintro e w2 ⟨rfl, hb2⟩
  have B2 := bthen (below1 _ _) hb2
  have x2 : Blk w2 w.heap.size 26 #[.slice A p.1.length c, .slice A2 p.2.length c2] := (Blk.new w _ _).below hb2 (by simp)
  have q1 : w2.cell? ⟨w.heap.size, 1, none⟩ = some (.slice A2 p.2.length c2) := x2.cell 1
  by_cases hf : arityOk p.1 = true
  · rw [hf]
    have HF := Lib.hid hf
    clear hf hb2
    by_cases hl : p.2.length ≤ 60
    · have hd : decide ((60 : Int) < (p.2.length : Int)) = false := by simp; omega
      have HL := Lib.hid (show progOk p = p.2.all (ruleFits p.1) by simp [progOk, HF.out, hl])
      go_wp2_with (fail)
      go_loopw [18] (fun i wr => ∃ k : Nat, k ≤ p.2.length ∧ i = .int .i64 k ∧ AllTo (ruleFits p.1) p.2 k ∧ Below w2.heap.size w2 wr) (fun i _ => p.2.length - (intOf i).toNat)
      case atStart => exact ⟨0, Nat.zero_le _, rfl, AllTo.start, Below.refl _ _⟩
      case round =>
        obtain ⟨k, hk, rfl, hs, hbe⟩ := hrel
        have BW := bthen B2 hbe
        have xr := x2.below hbe x2.lt
        clear q1
        by_cases hlt : k < p.2.length
        · obtain ⟨b, o, u0, u1, u2, rfl, hbB, k0, k1, k2, rfl, p3, p4⟩ := (H2.out.on BW).get hlt
          have HA := Lib.hid p3
          have HB := Lib.hid p4
          obtain ⟨A4, c4, rfl, hc4, _⟩ := p3
          obtain ⟨A5, c5, rfl, hc5, _⟩ := p4
          have hle := sz_le_totR p.2 k hlt
          have q0 : ∀ O, (wr.alloc O).cell? ⟨w.heap.size, 0, none⟩ = some (.slice A p.1.length c) := fun O => (xr.alloc O).cell 0
          go_wp2_with (fail)
          refine (ruleFits_any _ _ p.1 p.2[k] _ ((H.out.on BW).on (below1 _ _)) ⟨_, _, rfl, HA.out.on (below1 _ _), HB.out.on (below1 _ _)⟩ (by omega)).mono ?_
          rintro e w4 ⟨rfl, hb4⟩
          have B4 := bthen hbe (bthen (below1 _ _) hb4)
          by_cases he : ruleFits p.1 p.2[k] = true
          · rw [he]
            have HS := Lib.hid (hs.step hlt he)
            clear hs he
            go_wp2_with (fail)
            go_roundw
            case rel => exact ⟨k + 1, by omega, by go_num, HS.out, B4⟩
            case measure => simp [intOf]; omega
          · have he' : ruleFits p.1 p.2[k] = false := by simpa using he
            rw [he']
            have HE := Lib.hid (show progOk p = false by rw [HL.out, all_not hlt he'])
            clear hs he he'
            go_wp2_with (fail)
            go_ret
            exact ⟨ret_bool HE.out.symm, bthen B2 B4⟩
        · have HE := Lib.hid (show progOk p = true by rw [HL.out, hs.done (by omega)])
          clear hs
          go_wp2_with (fail)
          go_ret
          exact ⟨ret_bool HE.out.symm, BW⟩
    · have hd : decide ((60 : Int) < (p.2.length : Int)) = true := by simp; omega
      have HE := Lib.hid (show progOk p = false by simp [progOk, hl])
      go_wp2_with (fail)
      go_ret
      exact ⟨ret_bool HE.out.symm, B2⟩
  · have hf' : arityOk p.1 = false := by simpa using hf
    rw [hf']
    have HE := Lib.hid (show progOk p = false by simp [progOk, hf'])
    clear hf hf'
    go_wp2_with (fail)
    go_ret
    exact ⟨ret_bool HE.out.symm, B2⟩

set_option maxHeartbeats 1000000 in
set_option maxRecDepth 100000 in
theorem specProgramOk_any (v : Value) (p : LProg) (w : World) (h : RdProg w w.heap.size v p) (hs : szP p ≤ 1048576) :
    Calls Tryz.prog 10 #[v] w fun e w' => e = .returned (.bool (progOk p)) ∧ Below w.heap.size w w' := by
  unfold szP at hs
  obtain ⟨a, b, rfl, h, h2⟩ := h
  have H := Lib.hid h
  have H2 := Lib.hid h2
  have HP := Lib.hid (progOk_spec p)
  obtain ⟨A, c, rfl, hc, _⟩ := h
  obtain ⟨A2, c2, rfl, hc2, _⟩ := h2
  go_enter Tryz.func10, Tryz.ntmps10
  go_wp2_with (fail)
  obtain ⟨w2, hw2⟩ : ∃ w2, w2 = w.alloc (Obj.cells #[Value.slice A p.1.length c, Value.slice A2 p.2.length c2] 26) := ⟨_, rfl⟩
  have B2 : Below w.heap.size w w2 := by rw [hw2]; exact below1 _ _
  have x2 : Blk w2 w.heap.size 26 #[.slice A p.1.length c, .slice A2 p.2.length c2] := by rw [hw2]; exact Blk.new _ _ _
  rw [← hw2]
  clear hw2
  go_loopw [3] (fun i wr => ∃ k : Nat, k ≤ p.2.length ∧ i = .int .i64 k ∧ AllTo (ruleOk p.1) p.2 k ∧ Below w2.heap.size w2 wr) (fun i _ => p.2.length - (intOf i).toNat)
  case atStart => exact ⟨0, Nat.zero_le _, rfl, AllTo.start, Below.refl _ _⟩
  case round =>
    obtain ⟨k, hk, rfl, hs, hbe⟩ := hrel
    have BW := bthen B2 hbe
    have xr := x2.below hbe x2.lt
    have q0 : wr.cell? ⟨w.heap.size, 0, none⟩ = some (.slice A p.1.length c) := xr.cell 0
    have q1 : wr.cell? ⟨w.heap.size, 1, none⟩ = some (.slice A2 p.2.length c2) := xr.cell 1
    by_cases hlt : k < p.2.length
    · obtain ⟨b, o, u0, u1, u2, rfl, hbB, k0, k1, k2, rfl, p3, p4⟩ := (H2.out.on BW).get hlt
      have HA := Lib.hid p3
      have HB := Lib.hid p4
      obtain ⟨A4, c4, rfl, hc4, _⟩ := p3
      obtain ⟨A5, c5, rfl, hc5, _⟩ := p4
      have hle := sz_le_totR p.2 k hlt
      have L0 := later_cell k0
      have L1 := later_cell k1
      have L2 := later_cell k2
      have L3 := later_cell q0
      have L4 := later_cell q1
      by_cases he : ruleOk p.1 p.2[k] = true
      · have CF := Lib.hid (fun x : Later wr => (specRuleOk_any (.slice A p.1.length c) (.agg #[.int .i64 p.2[k].1.1, .slice A4 p.2[k].1.2.length c4, .slice A5 p.2[k].2.length c5]) p.1 p.2[k] x.val ((H.out.on BW).on x.2) ⟨_, _, rfl, HA.out.on x.2, HB.out.on x.2⟩ (by omega) (by omega)).mono fun e w' (hh : e = .returned (.bool (ruleOk p.1 p.2[k])) ∧ Below x.val.heap.size x.val w') => (⟨by rw [hh.1, he], hh.2⟩ : e = .returned (.bool true) ∧ Below x.val.heap.size x.val w'))
        have HS := Lib.hid (hs.step hlt he)
        clear hs he
        go_wp2_with (fail)
        clear k0 k1 k2 q0 q1
        refine wp_region_later (by kernel_rfl) (by kernel_rfl) ?_
        repeat (go_big_quiet_step ((go_at_call 38; exact later_of (CF.out _))))
        refine wpQuiet_nil ?_
        rintro _ ⟨xq, rfl⟩
        go_wp2_with (fail)
        go_roundw
        case rel => exact ⟨k + 1, by omega, by go_num, HS.out, bthen hbe xq.2⟩
        case measure => simp [intOf]; omega
      · have he' : ruleOk p.1 p.2[k] = false := by simpa using he
        have CF := Lib.hid (fun x : Later wr => (specRuleOk_any (.slice A p.1.length c) (.agg #[.int .i64 p.2[k].1.1, .slice A4 p.2[k].1.2.length c4, .slice A5 p.2[k].2.length c5]) p.1 p.2[k] x.val ((H.out.on BW).on x.2) ⟨_, _, rfl, HA.out.on x.2, HB.out.on x.2⟩ (by omega) (by omega)).mono fun e w' (hh : e = .returned (.bool (ruleOk p.1 p.2[k])) ∧ Below x.val.heap.size x.val w') => (⟨by rw [hh.1, he'], hh.2⟩ : e = .returned (.bool false) ∧ Below x.val.heap.size x.val w'))
        have HE := Lib.hid (show progOk p = false by rw [HP.out, all_not hlt he']; rfl)
        clear hs he he'
        go_wp2_with (fail)
        clear k0 k1 k2 q0 q1
        refine wp_region_later (by kernel_rfl) (by kernel_rfl) ?_
        repeat (go_big_quiet_step ((go_at_call 38; exact later_of (CF.out _))))
        refine wpQuiet_nil ?_
        rintro _ ⟨xq, rfl⟩
        go_wp2_with (fail)
        go_ret
        exact ⟨ret_bool HE.out.symm, bthen BW xq.2⟩
    · have HE := Lib.hid (show progOk p = (arityOk p.1 && decide (p.2.length ≤ 60)) by rw [HP.out, hs.done (by omega), Bool.true_and])
      clear hs
      go_wp2_with (fail)
      refine (specArityOk_any _ p.1 _ (H.out.on BW) (by omega)).mono ?_
      rintro e w' ⟨rfl, rfl⟩
      by_cases hf : arityOk p.1 = true
      · rw [hf]
        by_cases hl : p.2.length ≤ 60
        · have hd : decide ((p.2.length : Int) ≤ 60) = true := by simp; omega
          have HE2 := Lib.hid (show progOk p = true by rw [HE.out, hf]; simp [hl])
          clear hf
          go_wp2_with (fail)
          go_ret
          exact ⟨ret_bool (by rw [HE2.out]), BW⟩
        · have hd : decide ((p.2.length : Int) ≤ 60) = false := by simp; omega
          have HE2 := Lib.hid (show progOk p = false by rw [HE.out]; simp [hl])
          clear hf
          go_wp2_with (fail)
          go_ret
          exact ⟨ret_bool (by rw [HE2.out]), BW⟩
      · have hf' : arityOk p.1 = false := by simpa using hf
        rw [hf']
        have HE2 := Lib.hid (show progOk p = false by rw [HE.out, hf']; rfl)
        clear hf hf'
        go_wp2_with (fail)
        go_ret
        exact ⟨ret_bool HE2.out.symm, BW⟩

end Go.Proofs.YtokmmloakahkhaaGreatDoor
/-
  The walk of the program's RulesOf.
-/
namespace Go.Proofs.YtokmmloakahkhaaGreatDoor
open Go.RowKit

end Go.Proofs.YtokmmloakahkhaaGreatDoor
/-
  The specification's renaming: the walks of l2Number and l2Atom.
-/
namespace Go.Proofs.YtokmmloakahkhaaGreatDoor
open Go.RowKit

/-- Block g is a row that holds what the variables have become. -/
def ToAt (w : World) (g : Nat) (s : Ren) : Prop := ∃ a b c d : Int, s.1 = [a, b, c, d] ∧ Blk w g 3 #[.int .i64 a, .int .i64 b, .int .i64 c, .int .i64 d]
theorem ToAt.lt {w : World} {g : Nat} {s : Ren} (h : ToAt w g s) : g < w.heap.size := by
  obtain ⟨_, _, _, _, _, hx⟩ := h
  exact hx.lt
theorem ToAt.below {w w' : World} {g B : Nat} {s : Ren} (h : ToAt w g s) (hb : Below B w w') (hg : g < B) : ToAt w' g s := by
  obtain ⟨a, b, c, d, e, hx⟩ := h
  exact ⟨a, b, c, d, e, hx.below hb hg⟩
theorem ToAt.rd {w : World} {g : Nat} {s : Ren} (h : ToAt w g s) : RdInts w w.heap.size (.slice (some ⟨g, 0, none⟩) 4 4) s.1 := by
  obtain ⟨a, b, c, d, e, hx⟩ := h
  rw [e]
  refine ⟨_, 4, rfl, Nat.le_refl _, fun _ => ⟨g, 0, rfl, hx.lt, fun k hk => ?_⟩⟩
  simp at hk
  match k, hk with
  | 0, _ => exact hx.cell 0
  | 1, _ => exact hx.cell 1
  | 2, _ => exact hx.cell 2
  | 3, _ => exact hx.cell 3
/-- The cell of a variable. -/
theorem ToAt.cell {w : World} {g : Nat} {s : Ren} (h : ToAt w g s) {v : Nat} (hv : v < 4) : w.cell? ⟨g, v, none⟩ = some (.int .i64 (s.1.getD v 0)) ∧ w.frozen? ⟨g, v, none⟩ = false := by
  obtain ⟨a, b, c, d, e, hx⟩ := h
  rw [e]
  refine ⟨?_, hx.frozen v⟩
  match v, hv with
  | 0, _ => exact hx.cell 0
  | 1, _ => exact hx.cell 1
  | 2, _ => exact hx.cell 2
  | 3, _ => exact hx.cell 3
theorem ToAt.store {w : World} {g m m' : Nat} {ts : List Int} (h : ToAt w g (ts, m)) {v : Nat} (hv : v < 4) (y : Int) : ToAt (w.setCell ⟨g, v, none⟩ (.int .i64 y)) g (ts.set v y, m') := by
  obtain ⟨a, b, c, d, e, hx⟩ := h
  simp only at e
  subst e
  match v, hv with
  | 0, _ => exact ⟨y, b, c, d, rfl, by simpa using hx.set_ 0 (.int .i64 y)⟩
  | 1, _ => exact ⟨a, y, c, d, rfl, by simpa using hx.set_ 1 (.int .i64 y)⟩
  | 2, _ => exact ⟨a, b, y, d, rfl, by simpa using hx.set_ 2 (.int .i64 y)⟩
  | 3, _ => exact ⟨a, b, c, y, rfl, by simpa using hx.set_ 3 (.int .i64 y)⟩

theorem renList_big : ∀ (xs : List Int) (s : Ren), (renList s xs).2 ≤ s.2 + xs.length
  | [], s => by simp [renList]
  | t :: xs, s => by
    have h1 := renList_big xs (renStep s t)
    have h2 : (renStep s t).2 ≤ s.2 + 1 := by
      unfold renStep
      split <;> simp
    show (renList (renStep s t) xs).2 ≤ _
    simp only [List.length_cons]
    omega
theorem renStep_yes {ts : List Int} {m v : Nat} {t : Int} (hv : v < 4) (ht : t = -1 - (v : Int)) (h : ts.getD v 0 = 0) : renStep (ts, m) t = (ts.set v (-1 - (m : Int)), m + 1) := by
  have e : (-1 - t).toNat = v := by omega
  have hb : isVarB t = true := by simp [isVarB]; omega
  unfold renStep
  rw [hb, e]
  simp only [h]
  rfl
theorem renStep_skip {ts : List Int} {m v : Nat} {t : Int} (ht : t = -1 - (v : Int)) (h : ts.getD v 0 ≠ 0) : renStep (ts, m) t = (ts, m) := by
  have e : (-1 - t).toNat = v := by omega
  unfold renStep
  rw [e]
  split
  · rename_i hc
    simp only [Bool.and_eq_true, beq_iff_eq] at hc
    exact absurd hc.2 h
  · rfl
theorem term_casesN {t : Int} (h : termOk t = true) : 0 ≤ t ∨ t = -1 ∨ t = -2 ∨ t = -3 ∨ t = -4 := by simp [termOk] at h; omega

/-- What holds at l2Atom's loop: k terms are renamed. -/
structure AtRel (w wr : World) (p : Int) (A : Option Addr) (n c : Nat) (ys : List Int) (A' : Option Addr) (c' : Nat) : Prop where
  below : Below w.heap.size w wr
  src : Blk wr w.heap.size 35 #[.int .i64 p, .slice A n c]
  res : Blk wr (w.heap.size + 1) 35 #[.int .i64 0, .slice none 0 0]
  out : Blk wr (w.heap.size + 2) 35 #[.int .i64 p, .slice A' ys.length c']
  own : wr.ownsRow (w.heap.size + 3) 3 1 (.slice A' ys.length c') ys.length (ys.map (Value.int .i64))
theorem blk_ne_own {w : World} {base n size g : Nat} {e t : TypeId} {v : Value} {xs : List Value} {cs : Array Value} (h : w.ownsRow base e size v n xs) (hb : Blk w g t cs) (hne : e ≠ t) : v.ownBlock ≠ some g := by
  rcases h.2 with ⟨rfl, _⟩ | ⟨g', cap, cur, rfl, _, hh, _⟩
  · simp [Value.ownBlock]
  · intro he
    have : g' = g := by simpa [Value.ownBlock] using he
    subst this
    unfold Blk at hb
    rw [hh] at hb
    injection hb with hb
    injection hb with _ hb
    exact hne hb
theorem AtRel.start (w : World) (p : Int) (A : Option Addr) (n c : Nat) : AtRel w (((w.alloc (Obj.cells #[Value.int IntKind.i64 p, Value.slice A n c] 35)).alloc (Obj.cells #[Value.int IntKind.i64 0, Value.slice none 0 0] 35)).alloc (Obj.cells #[Value.int IntKind.i64 p, Value.slice none 0 0] 35)) p A n c [] none 0 :=
  ⟨below3 _ _ _ _, ((Blk.new w _ _).alloc _).alloc _, by simpa using (Blk.new (w.alloc (Obj.cells #[Value.int IntKind.i64 p, Value.slice A n c] 35)) 35 #[.int .i64 0, .slice none 0 0]).alloc (Obj.cells #[Value.int IntKind.i64 p, Value.slice none 0 0] 35),
    by simpa using Blk.new ((w.alloc (Obj.cells #[Value.int IntKind.i64 p, Value.slice A n c] 35)).alloc (Obj.cells #[Value.int IntKind.i64 0, Value.slice none 0 0] 35)) 35 #[.int .i64 p, .slice none 0 0],
    by simpa using World.ownsRow_nil _ _ _ _⟩
theorem AtRel.step {w wr w2 : World} {p : Int} {A A' : Option Addr} {n c c' g cap : Nat} {ys : List Int} {y : Int} {o : Obj} (hr : AtRel w wr p A n c ys A' c') (hg : (wr.alloc o).grownBy w2 (Value.slice A' ys.length c').ownBlock)
    (hown : w2.ownsRow (w.heap.size + 3) 3 1 (.slice (some ⟨g, 0, none⟩) (ys.length + 1) cap) (ys.length + 1) (ys.map (Value.int .i64) ++ [.int .i64 y])) :
    AtRel w (w2.setCell ⟨w.heap.size + 2, 1, none⟩ (.slice (some ⟨g, 0, none⟩) (ys.length + 1) cap)) p A n c (ys ++ [y]) (some ⟨g, 0, none⟩) cap := by
  obtain ⟨h1, h2, h3, h4, h5⟩ := hr
  have hg' := grown_from_alloc hg
  have keep : ∀ {b : Nat} {cs : Array Value}, Blk wr b 35 cs → Blk w2 b 35 cs := fun hb => (hg'.block _ hb.lt (fun e => blk_ne_own h5 hb (by decide) e.symm)).trans hb
  have hl : (ys ++ [y]).length = ys.length + 1 := by simp
  have hs := h4.lt
  refine ⟨(h1.grown hg' h1.size (fun b hb => by have := (h5.lt b hb).1; omega)).setCell (by show w.heap.size ≤ w.heap.size + 2; omega) _, (keep h2).far (by show w.heap.size ≠ w.heap.size + 2; omega) _, (keep h3).far (by show w.heap.size + 1 ≠ w.heap.size + 2; omega) _, ?_, ?_⟩
  · rw [hl]
    exact (keep h4).set_ 1 _
  · rw [hl, List.map_append]
    exact ownsRow_only hown (fun b hb => Below.heap_setCell _ _ _ _ (fun e => blk_ne_own hown (keep h4) (by decide) (by rw [hb, e])))

end Go.Proofs.YtokmmloakahkhaaGreatDoor
/-
  Marks on results, read again: the numbers lie in cells that a list names, each once. The words, and the walks of markIntS, heldIntS over such lists.
-/
namespace Go.Proofs.YtokmmloakahkhaaGreatDoor
open Go.RowKit

/-- The cells ps hold k, k + 1, .. -/
def HoldsFrom (w : World) (k : Int) (ps : List Addr) : Prop := ∀ i (h : i < ps.length), w.cell? ps[i] = some (.int .i64 (k + (i : Int)))
/-- The cells ps hold k, k + 1, ..; the others are as they were. -/
structure SeqAt (lo hi : Nat) (k : Int) (ps : List Addr) (w w' : World) : Prop where
  marked : Marked lo hi w w'
  holds : HoldsFrom w' k ps
  other : ∀ p : Addr, p.block < w.heap.size → p ∉ ps → w'.cell? p = w.cell? p

section
variable {lo hi : Nat} {w w1 w' : World} {k : Int} {ps qs : List Addr}
theorem HoldsFrom.nil : HoldsFrom w k [] := fun i h => absurd h (by simp)
theorem HoldsFrom.left (h : HoldsFrom w k (ps ++ qs)) : HoldsFrom w k ps := fun i hi => by
  have := h i (by simp; omega)
  rwa [List.getElem_append_left hi] at this
theorem HoldsFrom.right (h : HoldsFrom w k (ps ++ qs)) : HoldsFrom w (k + (ps.length : Int)) qs := fun i hi => by
  have := h (ps.length + i) (by simp; omega)
  rw [List.getElem_append_right (by omega)] at this
  simp only [Nat.add_sub_cancel_left] at this
  rw [this]
  congr 2
  omega
theorem HoldsFrom.append (h : HoldsFrom w k ps) (h2 : HoldsFrom w (k + (ps.length : Int)) qs) : HoldsFrom w k (ps ++ qs) := fun i hi => by
  by_cases hl : i < ps.length
  · rw [List.getElem_append_left hl]
    exact h i hl
  · rw [List.getElem_append_right (by omega)]
    simp at hi
    rw [h2 (i - ps.length) (by omega)]
    congr 2
    omega
theorem HoldsFrom.lt (h : HoldsFrom w k ps) {p : Addr} (hp : p ∈ ps) : p.block < w.heap.size := by
  obtain ⟨i, hi, rfl⟩ := List.getElem_of_mem hp
  exact World.block_lt_of_cell? _ _ (h i hi)
theorem HoldsFrom.kept (h : HoldsFrom w k ps) (hc : ∀ p ∈ ps, w'.cell? p = w.cell? p) : HoldsFrom w' k ps := fun i hi => (hc _ (List.getElem_mem hi)).trans (h i hi)
theorem HoldsFrom.below (h : HoldsFrom w k ps) (hb : Below w.heap.size w w') : HoldsFrom w' k ps := h.kept fun _ hp => hb.cell (h.lt hp)
theorem SeqAt.below (h : Below w.heap.size w w') : SeqAt lo hi k [] w w' := ⟨Marked.of_below h, HoldsFrom.nil, fun _ hp _ => h.cell hp⟩
theorem SeqAt.store {p : Addr} {x : Int} (hp : lo ≤ p.block ∧ p.block < hi) (hc : w.cell? p = some (.int .i64 x)) (k : Int) : SeqAt lo hi k [p] w (w.setCell p (.int .i64 k)) := by
  refine ⟨Marked.store hp hc k, fun i hi => ?_, fun q _ hq => World.cell?_setCell_other _ _ _ _ (fun e => hq (by simp [e]))⟩
  obtain rfl : i = 0 := by simpa using hi
  simpa using World.cell?_setCell_same _ _ (.int .i64 k) hc
theorem SeqAt.append (h : SeqAt lo hi k ps w w1) (h2 : SeqAt lo hi (k + (ps.length : Int)) qs w1 w') (hd : ∀ p ∈ ps, p ∉ qs) : SeqAt lo hi k (ps ++ qs) w w' := by
  refine ⟨h.marked.trans h2.marked, (h.holds.kept fun p hp => h2.other p (h.holds.lt hp) (hd p hp)).append h2.holds, fun p hp hq => ?_⟩
  simp only [List.mem_append, not_or] at hq
  exact (h2.other p (Nat.lt_of_lt_of_le hp h.marked.only.size) hq.2).trans (h.other p hp hq.1)
theorem SeqAt.then_below (h : SeqAt lo hi k ps w w1) (hb : Below w1.heap.size w1 w') : SeqAt lo hi k ps w w' := by
  have := h.append (qs := []) (SeqAt.below (lo := lo) (hi := hi) hb) (fun _ _ hq => by simp at hq)
  simpa using this
theorem SeqAt.below_then (hb : Below w.heap.size w w1) (h : SeqAt lo hi k ps w1 w') : SeqAt lo hi k ps w w' := by
  have h0 : SeqAt lo hi k [] w w1 := SeqAt.below hb
  have := h0.append (by simpa using h) (fun _ hp => by simp at hp)
  simpa using this
end

/-- The first j groups of leaves. -/
def preL (el : Nat → List Addr) (j : Nat) : List Addr := ((List.range j).map el).flatten
theorem preL_zero (el : Nat → List Addr) : preL el 0 = [] := rfl
theorem preL_succ (el : Nat → List Addr) (j : Nat) : preL el (j + 1) = preL el j ++ el j := by
  unfold preL
  rw [List.range_succ, List.map_append, List.flatten_append]
  simp
theorem preL_split (el : Nat → List Addr) : ∀ n j, j ≤ n → ∃ rest, preL el n = preL el j ++ rest
  | 0, j, h => ⟨[], by rw [show j = 0 by omega]; rfl⟩
  | n + 1, j, h => by
    by_cases e : j = n + 1
    · exact ⟨[], by rw [e]; simp⟩
    · obtain ⟨r, hr⟩ := preL_split el n j (by omega)
      exact ⟨r ++ el n, by rw [preL_succ, hr, List.append_assoc]⟩
theorem preL_nodup {el : Nat → List Addr} {n j : Nat} (h : (preL el n).Nodup) (hj : j < n) : (preL el j ++ el j).Nodup := by
  obtain ⟨r, hr⟩ := preL_split el n (j + 1) hj
  rw [hr, List.nodup_append] at h
  rw [← preL_succ]
  exact h.1
theorem preL_holds {w : World} {k : Int} {el : Nat → List Addr} {n j : Nat} (h : HoldsFrom w k (preL el n)) (hj : j < n) : HoldsFrom w (k + ((preL el j).length : Int)) (el j) := by
  obtain ⟨r, hr⟩ := preL_split el n (j + 1) hj
  rw [hr] at h
  have := h.left
  rw [preL_succ] at this
  exact this.right
theorem mem_preL {el : Nat → List Addr} : ∀ {n : Nat} {p : Addr}, p ∈ preL el n ↔ ∃ j, j < n ∧ p ∈ el j
  | 0, p => by simp [preL]
  | n + 1, p => by
    rw [preL_succ, List.mem_append, mem_preL]
    constructor
    · rintro (⟨j, hj, hp⟩ | hp)
      · exact ⟨j, by omega, hp⟩
      · exact ⟨n, by omega, hp⟩
    · rintro ⟨j, hj, hp⟩
      by_cases e : j = n
      · exact .inr (e ▸ hp)
      · exact .inl ⟨j, by omega, hp⟩
/-- Groups that are once each and apart from each other. -/
theorem preL_nodup_of {el : Nat → List Addr} : ∀ {n : Nat}, (∀ j, j < n → (el j).Nodup) → (∀ i j, i < j → j < n → ∀ p ∈ el i, p ∉ el j) → (preL el n).Nodup
  | 0, _, _ => by simp [preL]
  | n + 1, h1, h2 => by
    rw [preL_succ, List.nodup_append]
    refine ⟨preL_nodup_of (fun j hj => h1 j (by omega)) (fun i j hij hj => h2 i j hij (by omega)), h1 n (by omega), fun a ha b hb e => ?_⟩
    obtain ⟨j, hj, hp⟩ := mem_preL.1 ha
    exact h2 j n hj (by omega) a hp (e ▸ hb)
theorem preL_length_le {el : Nat → List Addr} {n j : Nat} (h : j ≤ n) : (preL el j).length ≤ (preL el n).length := by
  obtain ⟨r, hr⟩ := preL_split el n j h
  rw [hr]
  simp

/-- A slice of n numbers in blocks from lo on and below hi that may be written; ps are its cells. -/
def LvInts (w : World) (lo hi : Nat) (v : Value) (n : Nat) (ps : List Addr) : Prop :=
  ∃ A c, v = .slice A n c ∧ n ≤ c ∧ ps.length = n ∧ (0 < n → ∃ b o, A = some ⟨b, o, none⟩ ∧ lo ≤ b ∧ b < hi ∧ ps = (List.range n).map (fun k => ⟨b, o + k, none⟩) ∧
    ∀ k, k < n → w.frozen? ⟨b, o + k, none⟩ = false ∧ ∃ x, w.cell? ⟨b, o + k, none⟩ = some (.int .i64 x))
theorem LvInts.marked {w w' : World} {lo hi lo' hi' n : Nat} {v : Value} {ps : List Addr} (h : LvInts w lo hi v n ps) (hm : Marked lo' hi' w w') : LvInts w' lo hi v n ps := by
  obtain ⟨A, c, rfl, hcc, hl, h⟩ := h
  refine ⟨A, c, rfl, hcc, hl, fun hn => ?_⟩
  obtain ⟨b, o, rfl, h1, h2, hp, hx⟩ := h hn
  refine ⟨b, o, rfl, h1, h2, hp, fun k hk => ?_⟩
  obtain ⟨hf, x, hc⟩ := hx k hk
  exact ⟨(hm.frozen _ (World.block_lt_of_cell? _ _ hc)).trans hf, hm.int hc⟩
theorem LvInts.mono {w : World} {lo hi lo' hi' n : Nat} {v : Value} {ps : List Addr} (h : LvInts w lo hi v n ps) (h1 : lo' ≤ lo) (h2 : hi ≤ hi') : LvInts w lo' hi' v n ps := by
  obtain ⟨A, c, rfl, hcc, hl, h⟩ := h
  refine ⟨A, c, rfl, hcc, hl, fun hn => ?_⟩
  obtain ⟨b, o, rfl, h3, h4, hp, hx⟩ := h hn
  exact ⟨b, o, rfl, by omega, by omega, hp, hx⟩
theorem LvInts.block {w : World} {lo hi n : Nat} {v : Value} {ps : List Addr} (h : LvInts w lo hi v n ps) {p : Addr} (hp : p ∈ ps) : lo ≤ p.block ∧ p.block < hi := by
  obtain ⟨A, c, rfl, _, hl, h⟩ := h
  have hn : 0 < n := by rw [← hl]; exact List.length_pos_of_mem hp
  obtain ⟨b, o, rfl, h1, h2, rfl, _⟩ := h hn
  simp only [List.mem_map, List.mem_range] at hp
  obtain ⟨k, _, rfl⟩ := hp
  exact ⟨h1, h2⟩
theorem LvInts.nodup {w : World} {lo hi n : Nat} {v : Value} {ps : List Addr} (h : LvInts w lo hi v n ps) : ps.Nodup := by
  obtain ⟨A, c, rfl, _, hl, h⟩ := h
  rcases Nat.eq_zero_or_pos n with h0 | hn
  · rw [h0] at hl
    rw [List.eq_nil_of_length_eq_zero hl]
    exact List.nodup_nil
  · obtain ⟨b, o, rfl, h1, h2, rfl, _⟩ := h hn
    rw [List.nodup_iff_pairwise_ne, List.pairwise_map]
    exact List.Pairwise.imp (fun {a b} hab e => by injection e with _ e2 _; omega) List.pairwise_lt_range
theorem OwnInts.leaves {w : World} {lo hi : Nat} {v : Value} {xs : List Int} (h : OwnInts w lo hi v xs) : ∃ ps, LvInts w lo hi v xs.length ps := by
  obtain ⟨A2, c2, e2, hcc, _⟩ := h.rd
  obtain ⟨A, c, rfl, hx⟩ := h.wr
  injection e2 with _ _ e2
  subst e2
  rcases Nat.eq_zero_or_pos xs.length with h0 | hn
  · exact ⟨[], A, c, rfl, hcc, by simp [h0], fun hn => absurd hn (by omega)⟩
  · obtain ⟨b, o, rfl, h1, h2, hx⟩ := hx hn
    exact ⟨(List.range xs.length).map (fun k => ⟨b, o + k, none⟩), _, c, rfl, hcc, by simp, fun _ => ⟨b, o, rfl, h1, h2, rfl, hx⟩⟩

set_option maxHeartbeats 400000 in
theorem lmarkIntS_any (v : Value) (n : Nat) (ps : List Addr) (k : Int) (lo hi : Nat) (w : World) (h : LvInts w lo hi v n ps) (hk0 : 0 ≤ k) (hk : k + n ≤ 4611686018427387904) :
    Calls Tryz.prog 28 #[v, .int .i64 k] w fun e w' => e = .returned (.int .i64 (k + n)) ∧ SeqAt lo hi k ps w w' := by
  have H := Lib.hid h
  have hnd := h.nodup
  obtain ⟨A, c, rfl, hcc, hl, h⟩ := h
  go_enter Tryz.func28, Tryz.ntmps28
  go_wp2_with (fail)
  go_loopw [1, 5] (fun m i wr => ∃ j : Nat, j ≤ n ∧ i = .int .i64 j ∧ m = .int .i64 (k + j) ∧ SeqAt lo hi k (ps.take j) w wr) (fun _ i _ => n - (intOf i).toNat)
  case atStart => exact ⟨0, Nat.zero_le _, rfl, by simp, by simpa using SeqAt.below (Below.refl _ _)⟩
  case round =>
    obtain ⟨j, hj, rfl, rfl, hs⟩ := hrel
    by_cases hlt : j < n
    · obtain ⟨b, o, rfl, h1, h2, hp, hx⟩ := h (by omega)
      obtain ⟨hf, x, hc⟩ := hx j hlt
      obtain ⟨y, hc1⟩ := hs.marked.int hc
      have hf1 : wr.frozen? ⟨b, o + j, none⟩ = false := (hs.marked.frozen _ (World.block_lt_of_cell? _ _ hc)).trans hf
      have hst := hs.append (SeqAt.store (lo := lo) (hi := hi) (p := ⟨b, o + j, none⟩) ⟨h1, h2⟩ hc1 (k + ((ps.take j).length : Int))) (fun q hq hq2 => by
        have hat : ps[j]'(by omega) = ⟨b, o + j, none⟩ := by simp [hp]
        simp only [List.mem_singleton] at hq2
        rw [hq2, ← hat] at hq
        rw [← List.take_append_drop j ps, List.drop_eq_getElem_cons (by omega)] at hnd
        rw [List.nodup_append] at hnd
        exact hnd.2.2 _ hq _ (List.mem_cons_self) rfl)
      have htk : ps.take j ++ [(⟨b, o + j, none⟩ : Addr)] = ps.take (j + 1) := by
        rw [take_snoc ps j (by omega)]
        simp [hp]
      rw [htk, show (ps.take j).length = j by rw [List.length_take]; omega] at hst
      have HS := Lib.hid hst
      clear hst hs hp hx htk hnd
      go_wp2_with (fail)
      go_roundw
      case rel => exact ⟨j + 1, by omega, by go_num, by go_num, HS.out⟩
      case measure => simp [intOf]; omega
    · have hkn : j = n := by omega
      have HK := Lib.hid (show k + (j : Int) = k + n by rw [hkn])
      have HS := Lib.hid (show SeqAt lo hi k ps w wr by rw [hkn, ← hl, List.take_length] at hs; exact hs)
      clear hkn hs h
      go_wp2_with (fail)
      go_ret
      exact ⟨ret_int HK.out, HS.out⟩

theorem LvInts.rd {w : World} {lo hi n : Nat} {v : Value} {ps : List Addr} {k : Int} (h : LvInts w lo hi v n ps) (hh : HoldsFrom w k ps) : RdInts w w.heap.size v (seqI k n) := by
  obtain ⟨A, c, rfl, hcc, hl, h⟩ := h
  refine ⟨A, c, by rw [seqI_length], by rw [seqI_length]; exact hcc, fun hn => ?_⟩
  rw [seqI_length] at hn
  obtain ⟨b, o, rfl, h1, h2, hp, hx⟩ := h hn
  have hat : ∀ j (hj : j < n), w.cell? ⟨b, o + j, none⟩ = some (.int .i64 (k + (j : Int))) := fun j hj => by
    have := hh j (by omega)
    simpa [hp] using this
  refine ⟨b, o, rfl, World.block_lt_of_cell? _ _ (hat 0 hn), fun j hj => ?_⟩
  rw [seqI_at]
  exact hat j (by rwa [seqI_length] at hj)

theorem lheldIntS_any (v : Value) (n : Nat) (ps : List Addr) (k : Int) (lo hi : Nat) (w : World) (h : LvInts w lo hi v n ps) (hh : HoldsFrom w k ps) (hk0 : 0 ≤ k) (hk : k + n ≤ 4611686018427387904) :
    Calls Tryz.prog 29 #[v, .int .i64 k] w fun e w' => e = .returned (.int .i64 (k + n)) ∧ w = w' :=
  heldIntS_any v n k w (h.rd hh) hk0 hk

end Go.Proofs.YtokmmloakahkhaaGreatDoor
/-
  The program's renaming: the walks of varTerm and term.
-/
namespace Go.Proofs.YtokmmloakahkhaaGreatDoor
open Go.RowKit

/-- Block g holds what the variables have become. -/
def NamesAt (w : World) (g : Nat) (s : Ren) : Prop := ∃ a b c d : Int, s.1 = [a, b, c, d] ∧ Blk w g 141 #[.int .i64 a, .int .i64 b, .int .i64 c, .int .i64 d, .int .i64 (s.2 : Int)]
theorem NamesAt.below {w w' : World} {g B : Nat} {s : Ren} (h : NamesAt w g s) (hb : Below B w w') (hg : g < B) : NamesAt w' g s := by
  obtain ⟨a, b, c, d, e, hx⟩ := h
  exact ⟨a, b, c, d, e, hx.below hb hg⟩
theorem NamesAt.lt {w : World} {g : Nat} {s : Ren} (h : NamesAt w g s) : g < w.heap.size := by
  obtain ⟨_, _, _, _, _, hx⟩ := h
  exact hx.lt
theorem NamesAt.far {w : World} {g : Nat} {s : Ren} (h : NamesAt w g s) {p : Addr} (hp : g ≠ p.block) (u : Value) : NamesAt (w.setCell p u) g s := by
  obtain ⟨a, b, c, d, e, hx⟩ := h
  exact ⟨a, b, c, d, e, hx.far hp u⟩
theorem NamesAt.len {w : World} {g : Nat} {s : Ren} (h : NamesAt w g s) : s.1.length = 4 := by
  obtain ⟨_, _, _, _, e, _⟩ := h
  simp [e]

theorem varTerm_big (n : Int) (h0 : 0 ≤ n) (h1 : n ≤ 4611686018427387904) (w : World) : Calls Tryz.prog 140 #[.int .i64 n] w fun e w' => e = .returned (.int .i64 (-1 - n)) ∧ w = w' := by
  go_enter Tryz.func140, Tryz.ntmps140
  go_wp2
  go_ret
  exact ⟨rfl, rfl⟩

set_option maxHeartbeats 1000000 in
set_option maxRecDepth 100000 in
theorem term_any (g : Nat) (s : Ren) (t : Int) (w : World) (h : NamesAt w g s) (hv : isVarB t = true) (hm : s.2 ≤ 4611686018427387900) :
    Calls Tryz.prog 104 #[.pointer (some ⟨g, 0, none⟩), .int .i64 (-1 - t)] w fun e w' => e = .returned (.int .i64 (look (renStep s t) t)) ∧ NamesAt w' g (renStep s t) ∧ Only g (g + 1) w w' := by
  obtain ⟨a, b, c, d, hs, hx⟩ := h
  obtain ⟨ts, m⟩ := s
  subst hs
  have h4 : t = -1 ∨ t = -2 ∨ t = -3 ∨ t = -4 := by simp [isVarB] at hv; omega
  have c0 : w.cell? ⟨g, 0, none⟩ = some (.int .i64 a) := hx.cell 0
  have c1 : w.cell? ⟨g, 1, none⟩ = some (.int .i64 b) := hx.cell 1
  have c2 : w.cell? ⟨g, 2, none⟩ = some (.int .i64 c) := hx.cell 2
  have c3 : w.cell? ⟨g, 3, none⟩ = some (.int .i64 d) := hx.cell 3
  have c4 : w.cell? ⟨g, 4, none⟩ = some (.int .i64 (m : Int)) := hx.cell 4
  have f0 := hx.frozen 0
  have f4 := hx.frozen 4
  simp only at hm
  have HX := Lib.hid hx
  rcases h4 with rfl | rfl | rfl | rfl
  · have fv := hx.frozen 0
    by_cases ha : a = 0
    · have ht : (a == 0) = true := by simp [ha]
      have HR := Lib.hid (show renStep ([a, b, c, d], m) (-1) = ([-1 - (m : Int), b, c, d], m + 1) by simp [renStep, isVarB, ha])
      rw [HR.out]
      clear ha hx
      go_enter Tryz.func104, Tryz.ntmps104
      go_wp2_with (fail)
      go_cut [18] (fun _ wx => ∃ n, wx = (w.setCell ⟨g, 0, none⟩ (.int .i64 (-1 - (m : Int)))).drewN n)
      case first =>
        go_region_held3 (fun W => W.cell? ⟨g, 4, none⟩ = some (.int .i64 (m : Int)))
          (first | exact c4 | exact (World.cell?_setCell_other _ _ _ _ (by simp)).trans c4)
          (first | (go_at_call 140; refine (varTerm_big (m : Int) (by omega) (by omega) _).mono ?_; rintro e w' ⟨rfl, rfl⟩))
        all_goals (go_wp2_with (fail); go_meet; exact ⟨1, rfl⟩)
      case rest =>
        have B2 : Blk wc g 141 #[.int .i64 (-1 - (m : Int)), .int .i64 b, .int .i64 c, .int .i64 d, .int .i64 (m : Int)] := by
          obtain ⟨n, rfl⟩ := hcut
          simpa using (HX.out.set_ 0 (.int .i64 (-1 - (m : Int)))).drewN n
        have O2 : Only g (g + 1) w wc := by
          obtain ⟨n, rfl⟩ := hcut
          exact ((Only.refl _ _ _).setCell (p := ⟨g, 0, none⟩) ⟨Nat.le_refl _, Nat.lt_succ_self _⟩ _).trans ⟨rfl, rfl, rfl, Nat.le_refl _, fun _ _ _ => rfl⟩
        clear hcut c0 c1 c2 c3 c4 f0 f4 fv
        have k0 : wc.cell? ⟨g, 0, none⟩ = some (.int .i64 (-1 - (m : Int))) := B2.cell 0
        have k4 : wc.cell? ⟨g, 4, none⟩ = some (.int .i64 (m : Int)) := B2.cell 4
        have j4 := B2.frozen 4
        go_wp2_with (fail)
        go_ret
        exact ⟨rfl, ⟨_, _, _, _, rfl, by simpa using B2.set_ 4 (.int .i64 ((m : Int) + 1))⟩, O2.setCell (p := ⟨g, 4, none⟩) ⟨Nat.le_refl _, Nat.lt_succ_self _⟩ _⟩
    · have ht : (a == 0) = false := by simp [ha]
      have HR := Lib.hid (show renStep ([a, b, c, d], m) (-1) = ([a, b, c, d], m) by simp [renStep, isVarB, ha])
      rw [HR.out]
      clear ha hx
      go_enter Tryz.func104, Tryz.ntmps104
      go_wp2_with (fail)
      go_ret
      exact ⟨rfl, ⟨a, b, c, d, rfl, HX.out⟩, Only.refl _ _ _⟩
  · have fv := hx.frozen 1
    by_cases ha : b = 0
    · have ht : (b == 0) = true := by simp [ha]
      have HR := Lib.hid (show renStep ([a, b, c, d], m) (-2) = ([a, -1 - (m : Int), c, d], m + 1) by simp [renStep, isVarB, ha])
      rw [HR.out]
      clear ha hx
      go_enter Tryz.func104, Tryz.ntmps104
      go_wp2_with (fail)
      go_cut [18] (fun _ wx => ∃ n, wx = (w.setCell ⟨g, 1, none⟩ (.int .i64 (-1 - (m : Int)))).drewN n)
      case first =>
        go_region_held3 (fun W => W.cell? ⟨g, 4, none⟩ = some (.int .i64 (m : Int)))
          (first | exact c4 | exact (World.cell?_setCell_other _ _ _ _ (by simp)).trans c4)
          (first | (go_at_call 140; refine (varTerm_big (m : Int) (by omega) (by omega) _).mono ?_; rintro e w' ⟨rfl, rfl⟩))
        all_goals (go_wp2_with (fail); go_meet; exact ⟨1, rfl⟩)
      case rest =>
        have B2 : Blk wc g 141 #[.int .i64 a, .int .i64 (-1 - (m : Int)), .int .i64 c, .int .i64 d, .int .i64 (m : Int)] := by
          obtain ⟨n, rfl⟩ := hcut
          simpa using (HX.out.set_ 1 (.int .i64 (-1 - (m : Int)))).drewN n
        have O2 : Only g (g + 1) w wc := by
          obtain ⟨n, rfl⟩ := hcut
          exact ((Only.refl _ _ _).setCell (p := ⟨g, 1, none⟩) ⟨Nat.le_refl _, Nat.lt_succ_self _⟩ _).trans ⟨rfl, rfl, rfl, Nat.le_refl _, fun _ _ _ => rfl⟩
        clear hcut c0 c1 c2 c3 c4 f0 f4 fv
        have k0 : wc.cell? ⟨g, 1, none⟩ = some (.int .i64 (-1 - (m : Int))) := B2.cell 1
        have k4 : wc.cell? ⟨g, 4, none⟩ = some (.int .i64 (m : Int)) := B2.cell 4
        have j4 := B2.frozen 4
        go_wp2_with (fail)
        go_ret
        exact ⟨rfl, ⟨_, _, _, _, rfl, by simpa using B2.set_ 4 (.int .i64 ((m : Int) + 1))⟩, O2.setCell (p := ⟨g, 4, none⟩) ⟨Nat.le_refl _, Nat.lt_succ_self _⟩ _⟩
    · have ht : (b == 0) = false := by simp [ha]
      have HR := Lib.hid (show renStep ([a, b, c, d], m) (-2) = ([a, b, c, d], m) by simp [renStep, isVarB, ha])
      rw [HR.out]
      clear ha hx
      go_enter Tryz.func104, Tryz.ntmps104
      go_wp2_with (fail)
      go_ret
      exact ⟨rfl, ⟨a, b, c, d, rfl, HX.out⟩, Only.refl _ _ _⟩
  · have fv := hx.frozen 2
    by_cases ha : c = 0
    · have ht : (c == 0) = true := by simp [ha]
      have HR := Lib.hid (show renStep ([a, b, c, d], m) (-3) = ([a, b, -1 - (m : Int), d], m + 1) by simp [renStep, isVarB, ha])
      rw [HR.out]
      clear ha hx
      go_enter Tryz.func104, Tryz.ntmps104
      go_wp2_with (fail)
      go_cut [18] (fun _ wx => ∃ n, wx = (w.setCell ⟨g, 2, none⟩ (.int .i64 (-1 - (m : Int)))).drewN n)
      case first =>
        go_region_held3 (fun W => W.cell? ⟨g, 4, none⟩ = some (.int .i64 (m : Int)))
          (first | exact c4 | exact (World.cell?_setCell_other _ _ _ _ (by simp)).trans c4)
          (first | (go_at_call 140; refine (varTerm_big (m : Int) (by omega) (by omega) _).mono ?_; rintro e w' ⟨rfl, rfl⟩))
        all_goals (go_wp2_with (fail); go_meet; exact ⟨1, rfl⟩)
      case rest =>
        have B2 : Blk wc g 141 #[.int .i64 a, .int .i64 b, .int .i64 (-1 - (m : Int)), .int .i64 d, .int .i64 (m : Int)] := by
          obtain ⟨n, rfl⟩ := hcut
          simpa using (HX.out.set_ 2 (.int .i64 (-1 - (m : Int)))).drewN n
        have O2 : Only g (g + 1) w wc := by
          obtain ⟨n, rfl⟩ := hcut
          exact ((Only.refl _ _ _).setCell (p := ⟨g, 2, none⟩) ⟨Nat.le_refl _, Nat.lt_succ_self _⟩ _).trans ⟨rfl, rfl, rfl, Nat.le_refl _, fun _ _ _ => rfl⟩
        clear hcut c0 c1 c2 c3 c4 f0 f4 fv
        have k0 : wc.cell? ⟨g, 2, none⟩ = some (.int .i64 (-1 - (m : Int))) := B2.cell 2
        have k4 : wc.cell? ⟨g, 4, none⟩ = some (.int .i64 (m : Int)) := B2.cell 4
        have j4 := B2.frozen 4
        go_wp2_with (fail)
        go_ret
        exact ⟨rfl, ⟨_, _, _, _, rfl, by simpa using B2.set_ 4 (.int .i64 ((m : Int) + 1))⟩, O2.setCell (p := ⟨g, 4, none⟩) ⟨Nat.le_refl _, Nat.lt_succ_self _⟩ _⟩
    · have ht : (c == 0) = false := by simp [ha]
      have HR := Lib.hid (show renStep ([a, b, c, d], m) (-3) = ([a, b, c, d], m) by simp [renStep, isVarB, ha])
      rw [HR.out]
      clear ha hx
      go_enter Tryz.func104, Tryz.ntmps104
      go_wp2_with (fail)
      go_ret
      exact ⟨rfl, ⟨a, b, c, d, rfl, HX.out⟩, Only.refl _ _ _⟩
  · have fv := hx.frozen 3
    by_cases ha : d = 0
    · have ht : (d == 0) = true := by simp [ha]
      have HR := Lib.hid (show renStep ([a, b, c, d], m) (-4) = ([a, b, c, -1 - (m : Int)], m + 1) by simp [renStep, isVarB, ha])
      rw [HR.out]
      clear ha hx
      go_enter Tryz.func104, Tryz.ntmps104
      go_wp2_with (fail)
      go_cut [18] (fun _ wx => ∃ n, wx = (w.setCell ⟨g, 3, none⟩ (.int .i64 (-1 - (m : Int)))).drewN n)
      case first =>
        go_region_held3 (fun W => W.cell? ⟨g, 4, none⟩ = some (.int .i64 (m : Int)))
          (first | exact c4 | exact (World.cell?_setCell_other _ _ _ _ (by simp)).trans c4)
          (first | (go_at_call 140; refine (varTerm_big (m : Int) (by omega) (by omega) _).mono ?_; rintro e w' ⟨rfl, rfl⟩))
        all_goals (go_wp2_with (fail); go_meet; exact ⟨1, rfl⟩)
      case rest =>
        have B2 : Blk wc g 141 #[.int .i64 a, .int .i64 b, .int .i64 c, .int .i64 (-1 - (m : Int)), .int .i64 (m : Int)] := by
          obtain ⟨n, rfl⟩ := hcut
          simpa using (HX.out.set_ 3 (.int .i64 (-1 - (m : Int)))).drewN n
        have O2 : Only g (g + 1) w wc := by
          obtain ⟨n, rfl⟩ := hcut
          exact ((Only.refl _ _ _).setCell (p := ⟨g, 3, none⟩) ⟨Nat.le_refl _, Nat.lt_succ_self _⟩ _).trans ⟨rfl, rfl, rfl, Nat.le_refl _, fun _ _ _ => rfl⟩
        clear hcut c0 c1 c2 c3 c4 f0 f4 fv
        have k0 : wc.cell? ⟨g, 3, none⟩ = some (.int .i64 (-1 - (m : Int))) := B2.cell 3
        have k4 : wc.cell? ⟨g, 4, none⟩ = some (.int .i64 (m : Int)) := B2.cell 4
        have j4 := B2.frozen 4
        go_wp2_with (fail)
        go_ret
        exact ⟨rfl, ⟨_, _, _, _, rfl, by simpa using B2.set_ 4 (.int .i64 ((m : Int) + 1))⟩, O2.setCell (p := ⟨g, 4, none⟩) ⟨Nat.le_refl _, Nat.lt_succ_self _⟩ _⟩
    · have ht : (d == 0) = false := by simp [ha]
      have HR := Lib.hid (show renStep ([a, b, c, d], m) (-4) = ([a, b, c, d], m) by simp [renStep, isVarB, ha])
      rw [HR.out]
      clear ha hx
      go_enter Tryz.func104, Tryz.ntmps104
      go_wp2_with (fail)
      go_ret
      exact ⟨rfl, ⟨a, b, c, d, rfl, HX.out⟩, Only.refl _ _ _⟩

end Go.Proofs.YtokmmloakahkhaaGreatDoor
/-
  The program's renaming: the walk of atom.
-/
namespace Go.Proofs.YtokmmloakahkhaaGreatDoor
open Go.RowKit

theorem rowIs_only {w w' : World} {lo hi g n : Nat} {t : TypeId} {f : Nat → Value} (h : w.rowIs g t n f) (ho : Only lo hi w w') (hd : g < lo ∨ hi ≤ g) : w'.rowIs g t n f := by
  obtain ⟨c, hb, r⟩ := h
  exact ⟨c, (ho.block g (Array.getElem?_eq_some_iff.1 hb).1 hd).trans hb, r⟩
theorem RdInts.only {w w' : World} {lo hi B : Nat} {v : Value} {xs : List Int} (h : RdInts w B v xs) (ho : Only lo hi w w') (hB : B ≤ lo) : RdInts w' B v xs := by
  obtain ⟨A, c, rfl, hc, h⟩ := h
  refine ⟨A, c, rfl, hc, fun hn => ?_⟩
  obtain ⟨b, o, rfl, hlt, hk⟩ := h hn
  refine ⟨b, o, rfl, hlt, fun k hkl => ?_⟩
  have hc := hk k hkl
  rw [← hc]
  exact World.cell?_of_block (by exact ho.block b (World.block_lt_of_cell? _ _ hc) (.inl (by omega)))

/-- All blocks but two are as they were. -/
structure But2 (g r : Nat) (w w' : World) : Prop where
  os : w'.os = w.os
  tape : w'.tape = w.tape
  output : w'.output = w.output
  size : w.heap.size ≤ w'.heap.size
  block : ∀ k, k < w.heap.size → k ≠ g → k ≠ r → w'.heap[k]? = w.heap[k]?
theorem But2.refl (g r : Nat) (w : World) : But2 g r w w := ⟨rfl, rfl, rfl, Nat.le_refl _, fun _ _ _ _ => rfl⟩
theorem But2.only {g r : Nat} {w w1 w' : World} (h : But2 g r w w1) (ho : Only g (g + 1) w1 w') : But2 g r w w' :=
  ⟨ho.os.trans h.os, ho.tape.trans h.tape, ho.output.trans h.output, Nat.le_trans h.size ho.size, fun k hk h1 h2 => (ho.block k (Nat.lt_of_lt_of_le hk h.size) (by omega)).trans (h.block k hk h1 h2)⟩
theorem But2.set {g r j : Nat} {w w1 : World} (h : But2 g r w w1) (u : Value) : But2 g r w (w1.setCell ⟨r, j, none⟩ u) :=
  ⟨h.os, h.tape, h.output, by simpa using h.size, fun k hk h1 h2 => (Below.heap_setCell _ _ _ _ h2).trans (h.block k hk h1 h2)⟩
theorem Blk.but {g r b : Nat} {w w' : World} {t : TypeId} {cs : Array Value} (h : Blk w b t cs) (hb : But2 g r w w') (h1 : b ≠ g) (h2 : b ≠ r) : Blk w' b t cs := (hb.block b h.lt h1 h2).trans h

theorem renOut_at {s : Ren} {xs : List Int} {k : Nat} (h : k < xs.length) : (renOut s xs).getD k 0 = look (renStep (renList s (xs.take k)) xs[k]) xs[k] := by
  rw [← renList_take s h]
  simp [renOut, h]
theorem renStep_no {s : Ren} {t : Int} (h : isVarB t = false) : renStep s t = s := by simp [renStep, h]
theorem look_no {s : Ren} {t : Int} (h : isVarB t = false) : look s t = t := by simp [look, h]
theorem renStep_count (s : Ren) (t : Int) : (renStep s t).2 ≤ s.2 + 1 := by
  unfold renStep
  split <;> simp
theorem renList_count : ∀ (xs : List Int) (s : Ren), (renList s xs).2 ≤ s.2 + xs.length
  | [], s => by simp [renList]
  | t :: xs, s => by
    have h1 := renList_count xs (renStep s t)
    have h2 := renStep_count s t
    show (renList (renStep s t) xs).2 ≤ _
    simp only [List.length_cons]
    omega

set_option maxHeartbeats 1000000 in
set_option maxRecDepth 100000 in
theorem renAtom_any (g : Nat) (s : Ren) (p : Int) (v : Value) (xs : List Int) (w : World) (hN : NamesAt w g s) (h : RdInts w g v xs) (hn : xs.length ≤ 1048576) (hm : s.2 ≤ 4611686014132420000) :
    Calls Tryz.prog 105 #[.pointer (some ⟨g, 0, none⟩), .agg #[.int .i64 p, v]] w fun e w' => ∃ A' c', e = .returned (.agg #[.int .i64 p, .slice A' xs.length c']) ∧
      OwnInts w' w.heap.size w'.heap.size (.slice A' xs.length c') (renOut s xs) ∧ NamesAt w' g (renList s xs) ∧ Only g (g + 1) w w' := by
  have hg := hN.lt
  have HN := Lib.hid hN
  have HV := Lib.hid h
  clear hN
  obtain ⟨A, c, rfl, hc, h⟩ := h
  have hmk := run_make_row' (P := Tryz.prog) 23 3 (.int .i64 0) 8 Tryz.underlying23 Tryz.infoInt rfl .i64 .i64 xs.length (by omega) (by omega)
  go_enter Tryz.func105, Tryz.ntmps105
  go_wp2_with (fail)
  obtain ⟨w3, hw3⟩ : ∃ w3, w3 = ((w.alloc (Obj.cells #[Value.int IntKind.i64 p, Value.slice A xs.length c] 35)).alloc (Obj.cells #[Value.int IntKind.i64 0, Value.slice none 0 0] 35)).alloc (Obj.cells (madeCells #[Value.int IntKind.i64 0] xs.length) 3) := ⟨_, rfl⟩
  have B3 : Below w.heap.size w w3 := by rw [hw3]; exact below3 _ _ _ _
  have s3 : w3.heap.size = w.heap.size + 3 := by rw [hw3]; simp
  have x3 : Blk w3 w.heap.size 35 #[.int .i64 p, .slice A xs.length c] := by rw [hw3]; exact ((Blk.new w _ _).alloc _).alloc _
  have y3 : Blk w3 (w.heap.size + 1) 35 #[.int .i64 0, .slice none 0 0] := by
    rw [hw3]
    have := (Blk.new (w.alloc (Obj.cells #[Value.int IntKind.i64 p, Value.slice A xs.length c] 35)) 35 #[.int .i64 0, .slice none 0 0]).alloc (Obj.cells (madeCells #[Value.int IntKind.i64 0] xs.length) 3)
    simpa using this
  have r3 : w3.rowIs (w.heap.size + 2) 3 xs.length (fun _ => .int .i64 0) := by
    rw [hw3]
    have := World.rowIs_made ((w.alloc (Obj.cells #[Value.int IntKind.i64 p, Value.slice A xs.length c] 35)).alloc (Obj.cells #[Value.int IntKind.i64 0, Value.slice none 0 0] 35)) (.int .i64 0) xs.length 3
    simpa using this
  have N3 := HN.out.below B3 hg
  rw [← hw3]
  clear hw3
  go_loopw [6, 7, 15] (fun _ _ i wr => ∃ k : Nat, k ≤ xs.length ∧ i = .int .i64 k ∧ wr.rowIs (w.heap.size + 2) 3 xs.length (fun j => if j < k then .int .i64 ((renOut s xs).getD j 0) else .int .i64 0) ∧ NamesAt wr g (renList s (xs.take k)) ∧
      But2 g (w.heap.size + 2) w3 wr) (fun _ _ i _ => xs.length - (intOf i).toNat)
  case atStart => exact ⟨0, Nat.zero_le _, rfl, r3.congr (fun j _ => by simp), N3, But2.refl _ _ _⟩
  case round =>
    obtain ⟨k, hk, rfl, hrow, hnm, hbt⟩ := hrel
    have xr := x3.but hbt (by omega) (by omega)
    have yr := y3.but hbt (by omega) (by omega)
    have q0 : wr.cell? ⟨w.heap.size, 0, none⟩ = some (.int .i64 p) := xr.cell 0
    have q1 : wr.cell? ⟨w.heap.size, 1, none⟩ = some (.slice A xs.length c) := xr.cell 1
    by_cases hlt : k < xs.length
    · obtain ⟨b, o, rfl, hbB, hx⟩ := h (by omega)
      have hbk := hx k hlt
      have hbw := World.block_lt_of_cell? _ _ hbk
      have hck : wr.cell? ⟨b, o + k, none⟩ = some (.int .i64 xs[k]) := by
        rw [← hbk]
        exact World.cell?_of_block ((hbt.block b (by rw [s3]; simp at hbw; omega) (by omega) (by simp at hbw; omega)).trans (B3.block b hbw))
      have hc2 := hrow.cell hlt
      have hf2 := hrow.frozen k
      have hcnt := renList_count (xs.take k) s
      rw [List.length_take] at hcnt
      have HR := Lib.hid (And.intro hrow (And.intro hnm hbt))
      clear hx hrow hnm hbt h hbk hbw
      by_cases he : isVarB xs[k] = true
      · have HK := Lib.hid (isVar_is he)
        have hv4 := Lib.hid (show -4 ≤ xs[k] ∧ xs[k] ≤ -1 by simpa [isVarB] using he)
        have HE := Lib.hid he
        clear he
        go_wp2_with (first | (go_at_call 134; refine (HK.out _).mono ?_; rintro e w' ⟨rfl, rfl⟩) | (go_at_call 135; refine (varNumber_any _ hv4.out.1 hv4.out.2 _).mono ?_; rintro e w' ⟨rfl, rfl⟩))
        refine (term_any g _ xs[k] _ (HR.out.2.1.far (p := ⟨w.heap.size + 2, k, none⟩) (by simp; omega) _) HE.out (by omega)).mono ?_
        rintro e w4 ⟨rfl, hn4, ho4⟩
        have hr4 := rowIs_only (HR.out.1.set k (.int .i64 xs[k])) ho4 (.inr (by omega))
        have hb4 := (HR.out.2.2.set (j := k) (.int .i64 xs[k])).only ho4
        have hc4 := hr4.cell hlt
        have hf4 := hr4.frozen k
        have HR4 := Lib.hid (And.intro hr4 (And.intro hn4 hb4))
        have HO := Lib.hid (renOut_at (s := s) hlt)
        clear hr4 hn4 hb4 ho4 hc2 hf2
        go_wp2_with (fail)
        go_roundw
        case rel =>
          refine ⟨k + 1, by omega, by go_num, (HR4.out.1.set k _).congr (fun j hj => ?_), ?_, HR4.out.2.2.set _⟩
          · by_cases e : j = k
            · subst e
              rw [if_pos rfl, if_pos (by omega), HO.out]
            · rw [if_neg e]
              by_cases h2 : j < k
              · rw [if_neg e, if_pos h2, if_pos (by omega)]
              · rw [if_neg e, if_neg h2, if_neg (by omega)]
          · rw [renList_take s hlt]
            exact HR4.out.2.1.far (by simp; omega) _
        case measure => simp [intOf]; omega
      · have he' : isVarB xs[k] = false := by simpa using he
        have HK := Lib.hid (isVar_is he')
        have HO := Lib.hid (show (renOut s xs).getD k 0 = xs[k] by rw [renOut_at hlt, look_no he'])
        have HT := Lib.hid (show renList s (xs.take (k + 1)) = renList s (xs.take k) by rw [renList_take s hlt, renStep_no he'])
        clear he he'
        go_wp2_with (go_at_call 134; refine (HK.out _).mono ?_; rintro e w' ⟨rfl, rfl⟩)
        go_roundw
        case rel =>
          refine ⟨k + 1, by omega, by go_num, (HR.out.1.set k _).congr (fun j hj => ?_), ?_, HR.out.2.2.set _⟩
          · by_cases e : j = k
            · subst e
              rw [if_pos rfl, if_pos (by omega), HO.out]
            · rw [if_neg e]
              by_cases h2 : j < k
              · rw [if_pos h2, if_pos (by omega)]
              · rw [if_neg h2, if_neg (by omega)]
          · rw [HT.out]
            exact HR.out.2.1.far (by simp; omega) _
        case measure => simp [intOf]; omega
    · have hkn : k = xs.length := by omega
      have HO : OwnInts wr (w.heap.size + 2) wr.heap.size (.slice (some ⟨w.heap.size + 2, 0, none⟩) (renOut s xs).length (renOut s xs).length) (renOut s xs) :=
        OwnInts.of_rowIs (by rw [renOut_length]; exact hrow.congr (fun j hj => by rw [if_pos (by omega)])) (Nat.le_refl _) hrow.lt (by rw [renOut_length]; unfold maxLen; omega)
      rw [renOut_length] at HO
      have HN2 := Lib.hid (show NamesAt wr g (renList s xs) by rw [hkn, List.take_length] at hnm; exact hnm)
      have HH := Lib.hid (And.intro HO hbt)
      have k0 : wr.cell? ⟨w.heap.size + 1, 0, none⟩ = some (.int .i64 0) := yr.cell 0
      have k1 : wr.cell? ⟨w.heap.size + 1, 1, none⟩ = some (.slice none 0 0) := yr.cell 1
      have j0 := yr.frozen 0
      have j1 := yr.frozen 1
      clear HO hkn hrow hnm hbt
      go_wp2_with (fail)
      have yb := (yr.set_ 0 (.int .i64 p)).set_ 1 (.slice (some ⟨w.heap.size + 2, 0, none⟩) xs.length xs.length)
      have d0 : ((wr.setCell ⟨w.heap.size + 1, 0, none⟩ (.int .i64 p)).setCell ⟨w.heap.size + 1, 1, none⟩ (.slice (some ⟨w.heap.size + 2, 0, none⟩) xs.length xs.length)).cell? ⟨w.heap.size + 1, 0, none⟩ = some (.int .i64 p) := by
        simpa using yb.cell 0
      have d1 : ((wr.setCell ⟨w.heap.size + 1, 0, none⟩ (.int .i64 p)).setCell ⟨w.heap.size + 1, 1, none⟩ (.slice (some ⟨w.heap.size + 2, 0, none⟩) xs.length xs.length)).cell? ⟨w.heap.size + 1, 1, none⟩ = some (.slice (some ⟨w.heap.size + 2, 0, none⟩) xs.length xs.length) := by
        simpa using yb.cell 1
      refine bodyPost_ret (v := .agg #[.int .i64 p, .slice (some ⟨w.heap.size + 2, 0, none⟩) xs.length xs.length]) (by simp [results, Tryz.results105, go_sem, d0, d1]) rfl ⟨_, _, rfl, ?_, ?_, ?_⟩
      · exact (((HH.out.1.set (p := ⟨w.heap.size + 1, 0, none⟩) (.inl (Nat.lt_succ_self _)) _).set (p := ⟨w.heap.size + 1, 1, none⟩) (.inl (Nat.lt_succ_self _)) _)).mono (by omega) (by simp)
      · exact (HN2.out.far (p := ⟨w.heap.size + 1, 0, none⟩) (by simp; omega) _).far (p := ⟨w.heap.size + 1, 1, none⟩) (by simp; omega) _
      · refine ⟨HH.out.2.os.trans B3.os, HH.out.2.tape.trans B3.tape, HH.out.2.output.trans B3.output, ?_, fun j hj hd => ?_⟩
        · have := HH.out.2.size
          simp
          omega
        · rw [Below.heap_setCell _ _ _ _ (by simp; omega), Below.heap_setCell _ _ _ _ (by simp; omega)]
          exact (HH.out.2.block j (by omega) (by omega) (by omega)).trans (B3.block j hj)

end Go.Proofs.YtokmmloakahkhaaGreatDoor
/-
  Marks on lists of literals and on rules that are results, read again: markLitS, heldLitS, markAtom, heldAtom, markRule, heldRule.
-/
namespace Go.Proofs.YtokmmloakahkhaaGreatDoor
open Go.RowKit

/-- The leaves of literal k of a row at offset o of block b. -/
def litEl (b o : Nat) (qs : Nat → List Addr) (k : Nat) : List Addr := ⟨b, o + k * 3, none⟩ :: ⟨b, o + k * 3 + 1, none⟩ :: qs k
/-- A slice of literals in blocks from lo on and below hi that may be written; ps are its leaves. -/
def LvLits (w : World) (lo hi : Nat) (v : Value) (ls : List LLit) (ps : List Addr) : Prop :=
  ∃ A c, v = .slice A ls.length c ∧ ls.length ≤ c ∧ (ls.length = 0 → ps = []) ∧ (0 < ls.length → ∃ b o qs, A = some ⟨b, o, none⟩ ∧ lo ≤ b ∧ b < hi ∧ ps = preL (litEl b o qs) ls.length ∧
    ∀ k (h : k < ls.length), (w.frozen? ⟨b, o + k * 3, none⟩ = false ∧ w.frozen? ⟨b, o + k * 3 + 1, none⟩ = false) ∧ ∃ x y u2,
      w.cell? ⟨b, o + k * 3, none⟩ = some (.int .i64 x) ∧ w.cell? ⟨b, o + k * 3 + 1, none⟩ = some (.int .i64 y) ∧ w.cell? ⟨b, o + k * 3 + 2, none⟩ = some u2 ∧ LvInts w lo hi u2 ls[k].2.2.length (qs k))
theorem LvLits.marked {w w' : World} {lo hi lo' hi' : Nat} {v : Value} {ls : List LLit} {ps : List Addr} (h : LvLits w lo hi v ls ps) (hm : Marked lo' hi' w w') : LvLits w' lo hi v ls ps := by
  obtain ⟨A, c, rfl, hc, h0, h⟩ := h
  refine ⟨A, c, rfl, hc, h0, fun hn => ?_⟩
  obtain ⟨b, o, qs, rfl, h1, h2, hp, hx⟩ := h hn
  refine ⟨b, o, qs, rfl, h1, h2, hp, fun k hk => ?_⟩
  obtain ⟨⟨f0, f1⟩, x, y, u2, c0, c1, c2, hI⟩ := hx k hk
  obtain ⟨x', d0⟩ := hm.int c0
  obtain ⟨y', d1⟩ := hm.int c1
  have hI' := hI.marked hm
  obtain ⟨A2, c2', rfl, _⟩ := hI
  exact ⟨⟨(hm.frozen _ (World.block_lt_of_cell? _ _ c0)).trans f0, (hm.frozen _ (World.block_lt_of_cell? _ _ c1)).trans f1⟩, _, _, _, d0, d1, hm.slice c2, hI'⟩
theorem litEl_len {w : World} {lo hi n : Nat} {u : Value} {b o : Nat} {qs : Nat → List Addr} {k : Nat} (h : LvInts w lo hi u n (qs k)) : (litEl b o qs k).length = 2 + n := by
  obtain ⟨_, _, _, _, hl, _⟩ := h
  simp [litEl, hl]
  omega

set_option maxHeartbeats 1000000 in
set_option maxRecDepth 100000 in
theorem lmarkLitS_any (v : Value) (ls : List LLit) (ps : List Addr) (k : Int) (lo hi : Nat) (w : World) (h : LvLits w lo hi v ls ps) (hnd : ps.Nodup) (hk0 : 0 ≤ k) (hk : k ≤ 4294967296) (hn : ps.length ≤ 1073741824) :
    Calls Tryz.prog 27 #[v, .int .i64 k] w fun e w' => e = .returned (.int .i64 (k + ps.length)) ∧ SeqAt lo hi k ps w w' := by
  have H := Lib.hid h
  have HND := Lib.hid hnd
  clear hnd
  obtain ⟨A, c, rfl, hc, h0, h⟩ := h
  have hcap : ls.length ≤ 9223372036854775807 := by
    rcases Nat.eq_zero_or_pos ls.length with e | hp
    · omega
    · obtain ⟨b, o, qs, rfl, h1, h2, rfl, hx⟩ := h hp
      have : ∀ j, j ≤ ls.length → j ≤ (preL (litEl b o qs) j).length := by
        intro j
        induction j with
        | zero => intro _; omega
        | succ j ih =>
          intro hj
          have := ih (by omega)
          rw [preL_succ, List.length_append]
          simp [litEl]
          omega
      have := this ls.length (Nat.le_refl _)
      omega
  rcases Nat.eq_zero_or_pos ls.length with hz | hp
  · have hps := h0 hz
    subst hps
    have HZ := Lib.hid hz
    have hz' : ¬ (0 : Int) < (ls.length : Int) := by omega
    clear hz h h0
    go_enter Tryz.func27, Tryz.ntmps27
    go_wp2_with (fail)
    go_loopw [1, 5] (fun m i wr => i = .int .i64 0 ∧ m = .int .i64 k ∧ wr = w) (fun _ i _ => 0)
    case atStart => exact ⟨rfl, rfl, rfl⟩
    case round =>
      obtain ⟨rfl, rfl, rfl⟩ := hrel
      go_wp2_with (fail)
      go_ret
      exact ⟨ret_int (by simp), SeqAt.below (Below.refl _ _)⟩
  · obtain ⟨b, o, qs, rfl, h1, h2, rfl, hx⟩ := h hp
    have HX := Lib.hid hx
    clear hx h
    go_enter Tryz.func27, Tryz.ntmps27
    go_wp2_with (fail)
    go_loopw [1, 5] (fun m i wr => ∃ (j : Nat) (q : Int), j ≤ ls.length ∧ i = .int .i64 j ∧ m = .int .i64 q ∧ q = k + ((preL (litEl b o qs) j).length : Int) ∧ SeqAt lo hi k (preL (litEl b o qs) j) w wr) (fun _ i _ => ls.length - (intOf i).toNat)
    case atStart => exact ⟨0, k, Nat.zero_le _, rfl, rfl, by simp [preL_zero], SeqAt.below (Below.refl _ _)⟩
    case round =>
      obtain ⟨j, q, hj, rfl, rfl, hq, hs⟩ := hrel
      by_cases hlt : j < ls.length
      · obtain ⟨⟨f0, f1⟩, x, y, u2, c0, c1, c2, hI⟩ := HX.out j hlt
        have hlen := litEl_len (b := b) (o := o) hI
        have hpl : (preL (litEl b o qs) (j + 1)).length ≤ (preL (litEl b o qs) ls.length).length := preL_length_le hlt
        rw [preL_succ, List.length_append, hlen] at hpl
        obtain ⟨x', d0⟩ := hs.marked.int c0
        obtain ⟨y', d1⟩ := hs.marked.int c1
        have hI2 := hI.marked hs.marked
        have g0 : wr.frozen? ⟨b, o + j * 3, none⟩ = false := (hs.marked.frozen _ (World.block_lt_of_cell? _ _ c0)).trans f0
        have g1 : wr.frozen? ⟨b, o + j * 3 + 1, none⟩ = false := (hs.marked.frozen _ (World.block_lt_of_cell? _ _ c1)).trans f1
        obtain ⟨A3, c3, rfl, hcc3, hl3, _⟩ := hI
        have d2 := hs.marked.slice c2
        have m0 := SeqAt.store (lo := lo) (hi := hi) (p := ⟨b, o + j * 3, none⟩) ⟨h1, h2⟩ d0 q
        obtain ⟨y2, e1⟩ := m0.marked.int d1
        have e2 := m0.marked.slice d2
        have k1 : (wr.setCell ⟨b, o + j * 3, none⟩ (.int .i64 q)).frozen? ⟨b, o + j * 3 + 1, none⟩ = false := (m0.marked.frozen _ (World.block_lt_of_cell? _ _ d1)).trans g1
        have m1 := SeqAt.store (lo := lo) (hi := hi) (p := ⟨b, o + j * 3 + 1, none⟩) ⟨h1, h2⟩ e1 (q + 1)
        have e3 := m1.marked.slice e2
        have hI3 := (hI2.marked m0.marked).marked m1.marked
        have HI := Lib.hid hI3
        have HS := Lib.hid (And.intro hs (And.intro m0 (And.intro m1 hq)))
        have hq0 : 0 ≤ q := by omega
        have hq1 : q ≤ 8589934592 := by omega
        have hl3' : ls[j].2.2.length ≤ 1073741824 := by omega
        have HLE := Lib.hid hlen
        clear hI2 hI3 m0 m1 hs hq hlen hpl e2 d2 c2 c0 c1 hl3
        go_wp2_with (fail)
        refine (lmarkIntS_any _ _ (qs j) (q + 1 + 1) lo hi _ HI.out (by omega) (by omega)).mono ?_
        rintro e w3 ⟨rfl, hm3⟩
        obtain ⟨hs, m0, m1, hq⟩ := HS.out
        have hnd := preL_nodup HND.out hlt
        have hst : SeqAt lo hi k (preL (litEl b o qs) (j + 1)) w w3 := by
          rw [preL_succ]
          refine hs.append ?_ (fun p hp hp2 => (List.nodup_append.1 hnd).2.2 p hp p hp2 rfl)
          rw [← hq]
          have hn2 := (List.nodup_append.1 hnd).2.1
          have hm01 := m0.append (qs := [⟨b, o + j * 3 + 1, none⟩]) (by simpa using m1) (by simp [litEl] at hn2 ⊢)
          refine hm01.append (qs := qs j) ?_ (fun p hp hp2 => ?_)
          · simpa [Int.add_assoc] using hm3
          · simp only [litEl, List.nodup_cons, List.mem_cons, not_or] at hn2
            simp only [List.mem_append, List.mem_singleton] at hp
            rcases hp with rfl | rfl
            · exact hn2.1.2 hp2
            · exact hn2.2.1 hp2
        have HQ := Lib.hid (And.intro (show q + 1 + 1 + (ls[j].2.2.length : Int) = k + ((preL (litEl b o qs) (j + 1)).length : Int) by
          rw [preL_succ, List.length_append, HLE.out, hq]
          omega) hst)
        clear hs m0 m1 hq hnd hst hm3
        go_wp2_with (fail)
        go_roundw
        case rel => exact ⟨j + 1, _, by omega, by go_num, rfl, HQ.out.1, HQ.out.2⟩
        case measure => simp [intOf]; omega
      · have hkn : j = ls.length := by omega
        have HK := Lib.hid (show q = k + ((preL (litEl b o qs) ls.length).length : Int) by rw [hq, hkn])
        have HS := Lib.hid (show SeqAt lo hi k (preL (litEl b o qs) ls.length) w wr by rw [hkn] at hs; exact hs)
        clear hkn hs hq
        go_wp2_with (fail)
        go_ret
        exact ⟨ret_int HK.out, HS.out⟩

theorem preL_lits_le (b o : Nat) (qs : Nat → List Addr) : ∀ j, j ≤ (preL (litEl b o qs) j).length
  | 0 => by simp [preL_zero]
  | j + 1 => by
    have := preL_lits_le b o qs j
    rw [preL_succ, List.length_append]
    simp [litEl]
    omega

/-- A rule of blocks from lo on and below hi that may be written; ps are its leaves. -/
def LvRule (w : World) (lo hi : Nat) (v : Value) (r : LRule) (ps : List Addr) : Prop :=
  ∃ p a b qs rs, v = .agg #[.int .i64 p, a, b] ∧ ps = qs ++ rs ∧ LvInts w lo hi a r.1.2.length qs ∧ LvLits w lo hi b r.2 rs
theorem LvRule.marked {w w' : World} {lo hi lo' hi' : Nat} {v : Value} {r : LRule} {ps : List Addr} (h : LvRule w lo hi v r ps) (hm : Marked lo' hi' w w') : LvRule w' lo hi v r ps := by
  obtain ⟨p, a, b, qs, rs, rfl, rfl, h1, h2⟩ := h
  exact ⟨p, a, b, qs, rs, rfl, rfl, h1.marked hm, h2.marked hm⟩

end Go.Proofs.YtokmmloakahkhaaGreatDoor
/-
  A row that make laid and a loop fills, element by element, each element's own memory behind the one's ahead of it: so no two share a cell. The words; no walk.
-/
namespace Go.Proofs.YtokmmloakahkhaaGreatDoor
open Go.RowKit

section
variable {α : Type}
/-- What holds at the loop that fills block g with xs: k elements are there; element j's own memory lies in blocks from f j on and below f (j + 1). -/
structure Fill (t : TypeId) (z0 z1 z2 : Value) (O : World → Nat → Nat → Value → Value → Value → α → Prop) (g : Nat) (wr : World) (xs : List α) (k : Nat) (f : Nat → Nat) : Prop where
  row : ∃ cur : Array Value, Blk wr g t cur ∧ (∀ j, j < k → ∀ hx : j < xs.length, ∃ u0 u1 u2, cur[j * 3]? = some u0 ∧ cur[j * 3 + 1]? = some u1 ∧ cur[j * 3 + 2]? = some u2 ∧ O wr (f j) (f (j + 1)) u0 u1 u2 xs[j]) ∧
    (∀ j, k ≤ j → j < xs.length → cur[j * 3]? = some z0 ∧ cur[j * 3 + 1]? = some z1 ∧ cur[j * 3 + 2]? = some z2)
  mono : ∀ j, j < k → f j ≤ f (j + 1)
  lo : g < f 0
  hi : f k ≤ wr.heap.size

variable {t : TypeId} {z0 z1 z2 : Value} {O : World → Nat → Nat → Value → Value → Value → α → Prop} {g : Nat} {w wr w4 : World} {xs : List α} {k : Nat} {f : Nat → Nat}
theorem Fill.start (h : Blk w g t (madeCells #[z0, z1, z2] (xs.length * 3))) (m : Nat) (hm : g < m) (hw : m ≤ w.heap.size) : Fill t z0 z1 z2 O g w xs 0 (fun _ => m) :=
  ⟨⟨_, h, fun j hj => absurd hj (by omega), fun j _ hj => by
    have e0 : j * 3 % 3 = 0 := by omega
    have e1 : (j * 3 + 1) % 3 = 1 := by omega
    have e2 : (j * 3 + 2) % 3 = 2 := by omega
    have l0 : j * 3 < xs.length * 3 := by omega
    have l1 : j * 3 + 1 < xs.length * 3 := by omega
    have l2 : j * 3 + 2 < xs.length * 3 := by omega
    refine ⟨?_, ?_, ?_⟩ <;> simp [madeCells, *]⟩, fun j hj => absurd hj (by omega), hm, hw⟩
theorem Fill.le (h : Fill t z0 z1 z2 O g wr xs k f) : ∀ {i j : Nat}, i ≤ j → j ≤ k → f i ≤ f j := by
  intro i j hij
  induction j with
  | zero => intro _; rw [show i = 0 by omega]; exact Nat.le_refl _
  | succ j ih =>
    intro hj
    by_cases e : i = j + 1
    · rw [e]; exact Nat.le_refl _
    · exact Nat.le_trans (ih (by omega) (by omega)) (h.mono j (by omega))
theorem Fill.room (h : Fill t z0 z1 z2 O g wr xs k f) (hlt : k < xs.length) (hb : w4.heap[g]? = wr.heap[g]?) :
    w4.cell? ⟨g, k * 3, none⟩ = some z0 ∧ w4.cell? ⟨g, k * 3 + 1, none⟩ = some z1 ∧ w4.cell? ⟨g, k * 3 + 2, none⟩ = some z2 ∧
    w4.frozen? ⟨g, k * 3, none⟩ = false ∧ w4.frozen? ⟨g, k * 3 + 1, none⟩ = false ∧ w4.frozen? ⟨g, k * 3 + 2, none⟩ = false := by
  obtain ⟨cur, hcur, _, hz⟩ := h.row
  have h4 : Blk w4 g t cur := hb.trans hcur
  obtain ⟨c0, c1, c2⟩ := hz k (Nat.le_refl _) hlt
  exact ⟨(h4.cell _).trans c0, (h4.cell _).trans c1, (h4.cell _).trans c2, h4.frozen _, h4.frozen _, h4.frozen _⟩
theorem Fill.kept (keep : ∀ {w w' : World} {lo hi : Nat} {u0 u1 u2 : Value} {x : α}, O w lo hi u0 u1 u2 x → (∀ g, lo ≤ g → g < hi → w'.heap[g]? = w.heap[g]?) → O w' lo hi u0 u1 u2 x)
    (h : Fill t z0 z1 z2 O g wr xs k f) (hb : w4.heap[g]? = wr.heap[g]?) (hk : ∀ b, f 0 ≤ b → b < f k → w4.heap[b]? = wr.heap[b]?) (hsz : wr.heap.size ≤ w4.heap.size) : Fill t z0 z1 z2 O g w4 xs k f := by
  obtain ⟨cur, hcur, hdone, hz⟩ := h.row
  refine ⟨⟨cur, hb.trans hcur, fun j hj hx => ?_, hz⟩, h.mono, h.lo, Nat.le_trans h.hi hsz⟩
  obtain ⟨v0, v1, v2, c0, c1, c2, hO⟩ := hdone j hj hx
  have g1 := h.le (Nat.zero_le j) (by omega)
  have g2 := h.le (show j + 1 ≤ k by omega) (Nat.le_refl _)
  exact ⟨v0, v1, v2, c0, c1, c2, keep hO fun b h1 h2 => hk b (by omega) (by omega)⟩
/-- One more element. -/
theorem Fill.step (keep : ∀ {w w' : World} {lo hi : Nat} {u0 u1 u2 : Value} {x : α}, O w lo hi u0 u1 u2 x → (∀ g, lo ≤ g → g < hi → w'.heap[g]? = w.heap[g]?) → O w' lo hi u0 u1 u2 x)
    (omono : ∀ {w : World} {lo hi lo' hi' : Nat} {u0 u1 u2 : Value} {x : α}, O w lo hi u0 u1 u2 x → lo' ≤ lo → hi ≤ hi' → O w lo' hi' u0 u1 u2 x)
    (h : Fill t z0 z1 z2 O g wr xs k f) (hlt : k < xs.length) (hb : w4.heap[g]? = wr.heap[g]?) (hk : ∀ b, f 0 ≤ b → b < f k → w4.heap[b]? = wr.heap[b]?) (hsz : wr.heap.size ≤ w4.heap.size)
    {u0 u1 u2 : Value} (ha : O w4 wr.heap.size w4.heap.size u0 u1 u2 xs[k]) :
    Fill t z0 z1 z2 O g (((w4.setCell ⟨g, k * 3, none⟩ u0).setCell ⟨g, k * 3 + 1, none⟩ u1).setCell ⟨g, k * 3 + 2, none⟩ u2) xs (k + 1) (fun j => if j ≤ k then f j else w4.heap.size) := by
  have hh := h.hi
  have hlo := h.lo
  have hf : ∀ b, b ≠ g → (((w4.setCell ⟨g, k * 3, none⟩ u0).setCell ⟨g, k * 3 + 1, none⟩ u1).setCell ⟨g, k * 3 + 2, none⟩ u2).heap[b]? = w4.heap[b]? := fun b hne => by
    rw [Below.heap_setCell _ _ _ _ hne, Below.heap_setCell _ _ _ _ hne, Below.heap_setCell _ _ _ _ hne]
  obtain ⟨cur, hcur, hdone, hz⟩ := h.row
  have h4 : Blk w4 g t cur := hb.trans hcur
  have hlast : cur.size > k * 3 + 2 := by
    have := (hz k (Nat.le_refl _) hlt).2.2
    exact (Array.getElem?_eq_some_iff.1 this).1
  refine ⟨⟨_, ((h4.set_ (k * 3) u0).set_ (k * 3 + 1) u1).set_ (k * 3 + 2) u2, fun j hj hx => ?_, fun j hj hx => ?_⟩, fun j hj => ?_, by simp; omega, by rw [if_neg (by omega)]; simp⟩
  · by_cases e : j = k
    · subst e
      refine ⟨u0, u1, u2, ?_, ?_, ?_, ?_⟩
      · simp [Array.getElem?_setIfInBounds]; omega
      · simp [Array.getElem?_setIfInBounds]; omega
      · simp [Array.getElem?_setIfInBounds]; omega
      · rw [if_pos (Nat.le_refl _), if_neg (by omega)]
        exact omono (keep ha fun b h1 _ => hf b (by have := h.le (Nat.zero_le j) (Nat.le_refl _); omega)) hh (Nat.le_refl _)
    · obtain ⟨v0, v1, v2, c0, c1, c2, hO⟩ := hdone j (by omega) hx
      refine ⟨v0, v1, v2, ?_, ?_, ?_, ?_⟩
      · rw [← c0]; simp only [Array.getElem?_setIfInBounds, Array.size_setIfInBounds]; rw [if_neg (by omega), if_neg (by omega), if_neg (by omega)]
      · rw [← c1]; simp only [Array.getElem?_setIfInBounds, Array.size_setIfInBounds]; rw [if_neg (by omega), if_neg (by omega), if_neg (by omega)]
      · rw [← c2]; simp only [Array.getElem?_setIfInBounds, Array.size_setIfInBounds]; rw [if_neg (by omega), if_neg (by omega), if_neg (by omega)]
      · rw [if_pos (by omega), if_pos (by omega)]
        refine keep hO fun b h1 h2 => ?_
        have g1 := h.le (Nat.zero_le j) (by omega)
        have g2 := h.le (show j + 1 ≤ k by omega) (Nat.le_refl _)
        rw [hf b (by omega)]
        exact hk b (by omega) (by omega)
  · obtain ⟨c0, c1, c2⟩ := hz j (by omega) hx
    refine ⟨?_, ?_, ?_⟩
    · rw [← c0]; simp only [Array.getElem?_setIfInBounds, Array.size_setIfInBounds]; rw [if_neg (by omega), if_neg (by omega), if_neg (by omega)]
    · rw [← c1]; simp only [Array.getElem?_setIfInBounds, Array.size_setIfInBounds]; rw [if_neg (by omega), if_neg (by omega), if_neg (by omega)]
    · rw [← c2]; simp only [Array.getElem?_setIfInBounds, Array.size_setIfInBounds]; rw [if_neg (by omega), if_neg (by omega), if_neg (by omega)]
  · by_cases e : j = k
    · subst e
      rw [if_pos (Nat.le_refl _), if_neg (by omega)]
      omega
    · rw [if_pos (by omega), if_pos (by omega)]
      exact h.mono j (by omega)
end

/-- A filled row of literals reads so, and its leaves are once each. -/
theorem Fill.lits {z0 z1 z2 : Value} {g : Nat} {wr : World} {ls : List LLit} {f : Nat → Nat} {c lo hi : Nat} (h : Fill 91 z0 z1 z2 OLit g wr ls ls.length f) (hc : ls.length ≤ c) (hlo : lo ≤ g) (hhi : wr.heap.size ≤ hi) :
    OwnLits wr lo hi (.slice (some ⟨g, 0, none⟩) ls.length c) ls ∧ ∃ ps, LvLits wr lo hi (.slice (some ⟨g, 0, none⟩) ls.length c) ls ps ∧ ps.Nodup ∧ ∀ p ∈ ps, p.block = g ∨ (f 0 ≤ p.block ∧ p.block < wr.heap.size) := by
  obtain ⟨cur, hcur, hdone, _⟩ := h.row
  have hgl := hcur.lt
  have hfl : ∀ j, j < ls.length → f 0 ≤ f j ∧ f (j + 1) ≤ wr.heap.size := fun j hj => ⟨h.le (Nat.zero_le j) (by omega), Nat.le_trans (h.le (show j + 1 ≤ ls.length by omega) (Nat.le_refl _)) h.hi⟩
  have hlo0 := h.lo
  refine ⟨⟨_, c, rfl, hc, fun _ => ⟨g, 0, rfl, hlo, by omega, fun j hj => ?_⟩⟩, ?_⟩
  · obtain ⟨u0, u1, u2, c0, c1, c2, e0, e1, hI⟩ := hdone j hj hj
    have := hfl j hj
    exact ⟨⟨hcur.frozen _, hcur.frozen _⟩, u0, u1, u2, by simpa using (hcur.cell (j * 3)).trans c0, by simpa using (hcur.cell (j * 3 + 1)).trans c1, by simpa using (hcur.cell (j * 3 + 2)).trans c2, e0, e1, hI.mono (by omega) (by omega)⟩
  · rcases Nat.eq_zero_or_pos ls.length with hz | hp
    · refine ⟨[], ⟨_, c, rfl, hc, fun _ => rfl, fun hn => absurd hn (by omega)⟩, List.nodup_nil, fun p hp => by simp at hp⟩
    · have hex : ∀ j, ∃ q : List Addr, ∀ (hj : j < ls.length), ∃ u2, cur[j * 3 + 2]? = some u2 ∧ LvInts wr (f j) (f (j + 1)) u2 ls[j].2.2.length q := fun j => by
        by_cases hj : j < ls.length
        · obtain ⟨u0, u1, u2, c0, c1, c2, e0, e1, hI⟩ := hdone j hj hj
          obtain ⟨q, hq⟩ := hI.leaves
          exact ⟨q, fun _ => ⟨u2, c2, hq⟩⟩
        · exact ⟨[], fun hj' => absurd hj' hj⟩
      obtain ⟨qs, hqs⟩ := Classical.axiomOfChoice hex
      have hblk : ∀ j, j < ls.length → ∀ p ∈ qs j, f j ≤ p.block ∧ p.block < f (j + 1) := fun j hj p hp => by
        obtain ⟨u2, _, hL⟩ := hqs j hj
        exact hL.block hp
      refine ⟨preL (litEl g 0 qs) ls.length, ⟨_, c, rfl, hc, fun hz => absurd hp (by omega), fun _ => ⟨g, 0, qs, rfl, hlo, by omega, rfl, fun j hj => ?_⟩⟩, ?_, fun p hp => ?_⟩
      · obtain ⟨u0, u1, u2, c0, c1, c2, rfl, rfl, hI⟩ := hdone j hj hj
        obtain ⟨u2', c2', hL⟩ := hqs j hj
        have hu : u2 = u2' := Option.some.inj (c2.symm.trans c2')
        subst hu
        have := hfl j hj
        refine ⟨⟨hcur.frozen _, hcur.frozen _⟩, _, _, u2, by simpa using (hcur.cell (j * 3)).trans c0, by simpa using (hcur.cell (j * 3 + 1)).trans c1, by simpa using (hcur.cell (j * 3 + 2)).trans c2, hL.mono (by omega) (by omega)⟩
      · refine preL_nodup_of (fun j hj => ?_) (fun i j hij hj p hpi hpj => ?_)
        · obtain ⟨u2, _, hL⟩ := hqs j hj
          have hb := hblk j hj
          have := hfl j hj
          refine List.nodup_cons.2 ⟨fun hm => ?_, List.nodup_cons.2 ⟨fun hm => ?_, hL.nodup⟩⟩
          · rcases List.mem_cons.1 hm with e | hm
            · injection e with _ e _
              omega
            · have := hb _ hm
              simp at this
              omega
          · have := hb _ hm
            simp at this
            omega
        · have hi := hblk i (by omega)
          have hj' := hblk j hj
          have h1 := hfl i (by omega)
          have h2 := hfl j hj
          have h3 := h.le (show i + 1 ≤ j by omega) (by omega)
          have hcase : ∀ k, ∀ q ∈ litEl g 0 qs k, q = ⟨g, 0 + k * 3, none⟩ ∨ q = ⟨g, 0 + k * 3 + 1, none⟩ ∨ q ∈ qs k := fun k q hq => by
            simpa [litEl] using hq
          rcases hcase i p hpi with rfl | rfl | hpi <;> rcases hcase j _ hpj with e | e | hpj
          · injection e with _ e _; omega
          · injection e with _ e _; omega
          · have := hj' _ hpj; simp at this; omega
          · injection e with _ e _; omega
          · injection e with _ e _; omega
          · have := hj' _ hpj; simp at this; omega
          · have := hi _ hpi; rw [e] at this; simp at this; omega
          · have := hi _ hpi; rw [e] at this; simp at this; omega
          · have := hi _ hpi; have := hj' _ hpj; omega
      · obtain ⟨j, hj, hpj⟩ := mem_preL.1 hp
        have hb := hblk j hj
        have := hfl j hj
        simp only [litEl, List.mem_cons] at hpj
        rcases hpj with rfl | rfl | hpj
        · exact .inl rfl
        · exact .inl rfl
        · have := hb _ hpj
          exact .inr (by omega)

end Go.Proofs.YtokmmloakahkhaaGreatDoor
/-
  The program's renaming: the walks of ruleHasTerms and Renamed.
-/
namespace Go.Proofs.YtokmmloakahkhaaGreatDoor
open Go.RowKit

theorem Blk.last (w : World) (o : Obj) (t : TypeId) (cs : Array Value) : Blk ((w.alloc o).alloc (.cells cs t)).drew (w.heap.size + 1) t cs := by
  have := Blk.new (w.alloc o) t cs
  rw [World.size_alloc] at this
  exact this
theorem Only.al {lo hi : Nat} {w W : World} (h : Only lo hi w W) (o : Obj) : Only lo hi w (W.alloc o) := h.trans (Only.of_below (below1 _ _))
theorem Only.setNew {lo hi : Nat} {w W : World} (h : Only lo hi w W) {p : Addr} (hp : w.heap.size ≤ p.block) (u : Value) : Only lo hi w (W.setCell p u) :=
  ⟨h.os, h.tape, h.output, by simpa using h.size, fun k hk ho => (Below.heap_setCell _ _ _ _ (by omega)).trans (h.block k hk ho)⟩

/-- What holds behind the region that begins a renamed rule: the new rule's block gO, its body's row gB, its head's row, the names. -/
def RenMid (w2 : World) (g : Nat) (p : Int) (s0 : Ren) (xs : List Int) (m : Nat) (ptr : Value) (wx : World) : Prop :=
  ∃ gO gB A c la ha, ptr = .pointer (some ⟨gO, 0, none⟩) ∧ Blk wx gO 38 #[.int .i64 p, .slice A xs.length c, .slice (some ⟨gB, 0, none⟩) m m] ∧ Blk wx gB 91 (madeCells #[.int .i64 0, .int .i64 0, .slice none 0 0] (m * 3)) ∧
    OwnInts wx la ha (.slice A xs.length c) (renOut s0 xs) ∧ NamesAt wx g (renList s0 xs) ∧ Only g (g + 1) w2 wx ∧ (w2.heap.size ≤ la ∧ w2.heap.size ≤ gO ∧ w2.heap.size ≤ gB) ∧ ((gO < la ∨ ha ≤ gO) ∧ (gB < la ∨ ha ≤ gB) ∧ gO ≠ gB) ∧ ha ≤ wx.heap.size

section
variable {w2 W3 : World} {g m la : Nat} {p : Int} {s0 : Ren} {xs : List Int} {A : Option Addr} {c : Nat}
/-- The row of a new body, before it is filled. -/
abbrev litRow (m : Nat) : Obj := Obj.cells (madeCells #[Value.int IntKind.i64 0, Value.int IntKind.i64 0, Value.slice none 0 0] (m * 3)) 91
abbrev outRow (p : Int) (A : Option Addr) (n c gB m : Nat) : Obj := Obj.cells #[Value.int IntKind.i64 p, Value.slice A n c, Value.slice (some ⟨gB, 0, none⟩) m m] 38
theorem OwnInts.al {w : World} {lo hi : Nat} {v : Value} {ys : List Int} (h : OwnInts w lo hi v ys) (hh : hi ≤ w.heap.size) (o : Obj) : OwnInts (w.alloc o) lo hi v ys := h.below (below1 _ _) hh
theorem RenMid.o1 (hK : Only g (g + 1) w2 W3) (ho : OwnInts W3 la W3.heap.size (.slice A xs.length c) (renOut s0 xs)) (hn : NamesAt W3 g (renList s0 xs)) (hla : w2.heap.size ≤ la) :
    RenMid w2 g p s0 xs m (.pointer (some ⟨W3.heap.size + 1, 0, none⟩)) ((W3.alloc (litRow m)).alloc (outRow p A xs.length c W3.heap.size m)) := by
  have hs := hK.size
  refine ⟨W3.heap.size + 1, W3.heap.size, A, c, la, W3.heap.size, rfl, ?_, (Blk.new W3 _ _).alloc _, (ho.al (Nat.le_refl _) _).al (by simp) _, hn.below (below2 _ _ _) hn.lt, (hK.al _).al _, ⟨hla, by omega, by omega⟩, ⟨.inr (by omega), .inr (Nat.le_refl _), by omega⟩, by simp; omega⟩
  have := Blk.new (W3.alloc (litRow m)) 38 #[Value.int IntKind.i64 p, Value.slice A xs.length c, Value.slice (some ⟨W3.heap.size, 0, none⟩) m m]
  rw [World.size_alloc] at this
  exact this
theorem RenMid.o2 (hK : Only g (g + 1) w2 W3) (ho : OwnInts W3 la W3.heap.size (.slice A xs.length c) (renOut s0 xs)) (hn : NamesAt W3 g (renList s0 xs)) (hla : w2.heap.size ≤ la) :
    RenMid w2 g p s0 xs m (.pointer (some ⟨W3.heap.size, 0, none⟩)) ((W3.alloc (outRow p A xs.length c (W3.heap.size + 1) m)).alloc (litRow m)) := by
  have hs := hK.size
  refine ⟨W3.heap.size, W3.heap.size + 1, A, c, la, W3.heap.size, rfl, (Blk.new W3 _ _).alloc _, ?_, (ho.al (Nat.le_refl _) _).al (by simp) _, hn.below (below2 _ _ _) hn.lt, (hK.al _).al _, ⟨hla, by omega, by omega⟩, ⟨.inr (Nat.le_refl _), .inr (by omega), by omega⟩, by simp; omega⟩
  have := Blk.new (W3.alloc (outRow p A xs.length c (W3.heap.size + 1) m)) 91 (madeCells #[Value.int IntKind.i64 0, Value.int IntKind.i64 0, Value.slice none 0 0] (m * 3))
  rw [World.size_alloc] at this
  exact this
theorem RenMid.o3 (hg : g < w2.heap.size) (hb : Only g (g + 1) (w2.alloc (litRow m)).drew W3) (ho : OwnInts W3 (w2.alloc (litRow m)).drew.heap.size W3.heap.size (.slice A xs.length c) (renOut s0 xs)) (hn : NamesAt W3 g (renList s0 xs)) :
    RenMid w2 g p s0 xs m (.pointer (some ⟨W3.heap.size, 0, none⟩)) (W3.alloc (outRow p A xs.length c w2.heap.size m)) := by
  have hs := hb.size
  simp at hs
  have hK : Only g (g + 1) w2 W3 := (Only.of_below (below1 w2 (litRow m)).drew).trans hb
  have z : Blk W3 w2.heap.size 91 (madeCells #[.int .i64 0, .int .i64 0, .slice none 0 0] (m * 3)) := (show Blk (w2.alloc (litRow m)).drew _ _ _ from Blk.new w2 _ _).only hb (.inr (by omega))
  exact ⟨W3.heap.size, w2.heap.size, A, c, _, W3.heap.size, rfl, Blk.new W3 _ _, z.alloc _, ho.al (Nat.le_refl _) _, hn.below (below1 _ _) hn.lt, hK.al _, ⟨by simp, by omega, Nat.le_refl _⟩, ⟨.inr (Nat.le_refl _), .inl (by simp), by omega⟩, by simp⟩
theorem OwnInts.set3 {w : World} {lo hi gO : Nat} {v : Value} {ys : List Int} (h : OwnInts w lo hi v ys) (hp : gO < lo) (u0 u1 u2 : Value) : OwnInts (((w.setCell ⟨gO, 0, none⟩ u0).setCell ⟨gO, 1, none⟩ u1).setCell ⟨gO, 2, none⟩ u2) lo hi v ys :=
  ((h.set (p := ⟨gO, 0, none⟩) (.inl hp) _).set (p := ⟨gO, 1, none⟩) (.inl hp) _).set (p := ⟨gO, 2, none⟩) (.inl hp) _
theorem NamesAt.set3 {w : World} {g gO : Nat} {s : Ren} (h : NamesAt w g s) (hp : g ≠ gO) (u0 u1 u2 : Value) : NamesAt (((w.setCell ⟨gO, 0, none⟩ u0).setCell ⟨gO, 1, none⟩ u1).setCell ⟨gO, 2, none⟩ u2) g s :=
  ((h.far (p := ⟨gO, 0, none⟩) hp _).far (p := ⟨gO, 1, none⟩) hp _).far (p := ⟨gO, 2, none⟩) hp _
theorem Only.set3 {w W : World} {lo hi gO : Nat} (h : Only lo hi w W) (hp : w.heap.size ≤ gO) (u0 u1 u2 : Value) : Only lo hi w (((W.setCell ⟨gO, 0, none⟩ u0).setCell ⟨gO, 1, none⟩ u1).setCell ⟨gO, 2, none⟩ u2) :=
  ((h.setNew (p := ⟨gO, 0, none⟩) hp _).setNew (p := ⟨gO, 1, none⟩) hp _).setNew (p := ⟨gO, 2, none⟩) hp _
theorem Blk.set3 {w : World} {gO : Nat} {t : TypeId} {v0 v1 v2 : Value} (h : Blk w gO t #[v0, v1, v2]) (u0 u1 u2 : Value) : Blk (((w.setCell ⟨gO, 0, none⟩ u0).setCell ⟨gO, 1, none⟩ u1).setCell ⟨gO, 2, none⟩ u2) gO t #[u0, u1, u2] := by
  simpa using ((h.set_ 0 u0).set_ 1 u1).set_ 2 u2
theorem Blk.far3 {w : World} {g gO : Nat} {t : TypeId} {cs : Array Value} (h : Blk w g t cs) (hp : g ≠ gO) (u0 u1 u2 : Value) : Blk (((w.setCell ⟨gO, 0, none⟩ u0).setCell ⟨gO, 1, none⟩ u1).setCell ⟨gO, 2, none⟩ u2) g t cs :=
  ((h.far (p := ⟨gO, 0, none⟩) hp _).far (p := ⟨gO, 1, none⟩) hp _).far (p := ⟨gO, 2, none⟩) hp _
theorem size_set3 (w : World) (gO : Nat) (u0 u1 u2 : Value) : (((w.setCell ⟨gO, 0, none⟩ u0).setCell ⟨gO, 1, none⟩ u1).setCell ⟨gO, 2, none⟩ u2).heap.size = w.heap.size := by simp
theorem NamesAt.set3' {w : World} {g gO a b c : Nat} {s : Ren} (h : NamesAt w g s) (hp : g ≠ gO) (u0 u1 u2 : Value) : NamesAt (((w.setCell ⟨gO, a, none⟩ u0).setCell ⟨gO, b, none⟩ u1).setCell ⟨gO, c, none⟩ u2) g s :=
  ((h.far (p := ⟨gO, a, none⟩) hp _).far (p := ⟨gO, b, none⟩) hp _).far (p := ⟨gO, c, none⟩) hp _
/-- The new rule before it is filled. -/
abbrev ruleRow : Obj := Obj.cells #[Value.int IntKind.i64 0, Value.slice none 0 0, Value.slice none 0 0] 38
theorem RenMid.o4 (hg : g < w2.heap.size) (hb : Only g (g + 1) ((w2.alloc (litRow m)).alloc ruleRow).drew W3) (ho : OwnInts W3 ((w2.alloc (litRow m)).alloc ruleRow).drew.heap.size W3.heap.size (.slice A xs.length c) (renOut s0 xs)) (hn : NamesAt W3 g (renList s0 xs)) :
    RenMid w2 g p s0 xs m (.pointer (some ⟨w2.heap.size + 1, 0, none⟩)) (((W3.setCell ⟨w2.heap.size + 1, 0, none⟩ (.int .i64 p)).setCell ⟨w2.heap.size + 1, 1, none⟩ (.slice A xs.length c)).setCell ⟨w2.heap.size + 1, 2, none⟩ (.slice (some ⟨w2.heap.size, 0, none⟩) m m)) := by
  have hs := hb.size
  simp at hs
  have hK : Only g (g + 1) w2 W3 := (Only.of_below (below2 w2 (litRow m) ruleRow).drew).trans hb
  have z : Blk W3 w2.heap.size 91 (madeCells #[.int .i64 0, .int .i64 0, .slice none 0 0] (m * 3)) := (show Blk ((w2.alloc (litRow m)).alloc ruleRow).drew _ _ _ from (Blk.new w2 _ _).alloc _).only hb (.inr (by omega))
  have y := (Blk.last w2 (litRow m) 38 #[Value.int IntKind.i64 0, Value.slice none 0 0, Value.slice none 0 0]).only hb (.inr (by omega))
  exact ⟨w2.heap.size + 1, w2.heap.size, A, c, _, W3.heap.size, rfl, y.set3 _ _ _, z.far3 (by omega) _ _ _, ho.set3 (by simp) _ _ _, hn.set3 (by omega) _ _ _, hK.set3 (by omega) _ _ _, ⟨by simp; omega, by omega, Nat.le_refl _⟩, ⟨.inl (by simp), .inl (by simp; omega), by omega⟩, by rw [size_set3]; exact Nat.le_refl _⟩
theorem RenMid.o5 (hg : g < w2.heap.size) (hb : Only g (g + 1) (w2.alloc ruleRow).drew W3) (ho : OwnInts W3 (w2.alloc ruleRow).drew.heap.size W3.heap.size (.slice A xs.length c) (renOut s0 xs)) (hn : NamesAt W3 g (renList s0 xs)) :
    RenMid w2 g p s0 xs m (.pointer (some ⟨w2.heap.size, 0, none⟩)) ((((W3.setCell ⟨w2.heap.size, 0, none⟩ (.int .i64 p)).setCell ⟨w2.heap.size, 1, none⟩ (.slice A xs.length c)).setCell ⟨w2.heap.size, 2, none⟩ (.slice (some ⟨W3.heap.size, 0, none⟩) m m)).alloc (litRow m)) := by
  have hs := hb.size
  simp at hs
  have hK : Only g (g + 1) w2 W3 := (Only.of_below (below1 w2 ruleRow).drew).trans hb
  have y : Blk W3 w2.heap.size 38 #[Value.int IntKind.i64 0, Value.slice none 0 0, Value.slice none 0 0] := (show Blk (w2.alloc ruleRow).drew _ _ _ from Blk.new w2 _ _).only hb (.inr (by omega))
  have hsz := size_set3 W3 w2.heap.size (.int .i64 p) (.slice A xs.length c) (.slice (some ⟨W3.heap.size, 0, none⟩) m m)
  have hN := hn.set3 (gO := w2.heap.size) (by omega) (.int .i64 p) (.slice A xs.length c) (.slice (some ⟨W3.heap.size, 0, none⟩) m m)
  refine ⟨w2.heap.size, W3.heap.size, A, c, _, W3.heap.size, rfl, (y.set3 _ _ _).alloc _, ?_, (ho.set3 (by simp) _ _ _).al (by rw [hsz]; exact Nat.le_refl _) _, hN.below (below1 _ _) hN.lt, (hK.set3 (Nat.le_refl _) _ _ _).al _, ⟨by simp, Nat.le_refl _, by omega⟩, ⟨.inl (by simp), .inr (Nat.le_refl _), by omega⟩, by simp⟩
  have hz := Blk.new (((W3.setCell ⟨w2.heap.size, 0, none⟩ (.int .i64 p)).setCell ⟨w2.heap.size, 1, none⟩ (.slice A xs.length c)).setCell ⟨w2.heap.size, 2, none⟩ (.slice (some ⟨W3.heap.size, 0, none⟩) m m)) 91 (madeCells #[Value.int IntKind.i64 0, Value.int IntKind.i64 0, Value.slice none 0 0] (m * 3))
  rw [hsz] at hz
  exact hz
theorem RenMid.o6 (hg : g < w2.heap.size) (hb : Only g (g + 1) ((w2.alloc ruleRow).alloc (litRow m)).drew W3) (ho : OwnInts W3 ((w2.alloc ruleRow).alloc (litRow m)).drew.heap.size W3.heap.size (.slice A xs.length c) (renOut s0 xs)) (hn : NamesAt W3 g (renList s0 xs)) :
    RenMid w2 g p s0 xs m (.pointer (some ⟨w2.heap.size, 0, none⟩)) (((W3.setCell ⟨w2.heap.size, 0, none⟩ (.int .i64 p)).setCell ⟨w2.heap.size, 1, none⟩ (.slice A xs.length c)).setCell ⟨w2.heap.size, 2, none⟩ (.slice (some ⟨w2.heap.size + 1, 0, none⟩) m m)) := by
  have hs := hb.size
  simp at hs
  have hK : Only g (g + 1) w2 W3 := (Only.of_below (below2 w2 ruleRow (litRow m)).drew).trans hb
  have y : Blk W3 w2.heap.size 38 #[Value.int IntKind.i64 0, Value.slice none 0 0, Value.slice none 0 0] := (show Blk ((w2.alloc ruleRow).alloc (litRow m)).drew _ _ _ from (Blk.new w2 _ _).alloc _).only hb (.inr (by omega))
  have z := (Blk.last w2 ruleRow 91 (madeCells #[Value.int IntKind.i64 0, Value.int IntKind.i64 0, Value.slice none 0 0] (m * 3))).only hb (.inr (by omega))
  exact ⟨w2.heap.size, w2.heap.size + 1, A, c, _, W3.heap.size, rfl, y.set3 _ _ _, z.far3 (by omega) _ _ _, ho.set3 (by simp; omega) _ _ _, hn.set3 (by omega) _ _ _, hK.set3 (Nat.le_refl _) _ _ _, ⟨by simp; omega, Nat.le_refl _, by omega⟩, ⟨.inl (by simp; omega), .inl (by simp), by omega⟩, by rw [size_set3]; exact Nat.le_refl _⟩
end

theorem But2.then_ {w wc wr : World} {g r : Nat} (hb : Below w.heap.size w wc) (h : But2 g r wc wr) (h1 : w.heap.size ≤ g) (h2 : w.heap.size ≤ r) : Below w.heap.size w wr :=
  hb.trans ⟨h.os, h.tape, h.output, h.size, fun k hk => h.block k (Nat.lt_of_lt_of_le hk hb.size) (by omega) (by omega)⟩
theorem But2.trans {w wc wr : World} {g r : Nat} (h : But2 g r w wc) (k : But2 g r wc wr) : But2 g r w wr :=
  ⟨k.os.trans h.os, k.tape.trans h.tape, k.output.trans h.output, Nat.le_trans h.size k.size, fun b hb h1 h2 => (k.block b (Nat.lt_of_lt_of_le hb h.size) h1 h2).trans (h.block b hb h1 h2)⟩
theorem But2.of_below {w w' : World} {g r : Nat} (h : Below w.heap.size w w') : But2 g r w w' := ⟨h.os, h.tape, h.output, h.size, fun k hk _ _ => h.block k hk⟩
theorem But2.set3 {g r a b c : Nat} {w w1 : World} (h : But2 g r w w1) (u0 u1 u2 : Value) : But2 g r w (((w1.setCell ⟨r, a, none⟩ u0).setCell ⟨r, b, none⟩ u1).setCell ⟨r, c, none⟩ u2) := ((h.set u0).set u1).set u2
theorem renBody_count : ∀ (ls : List LLit) (s : Ren), (renBody s ls).2 ≤ s.2 + totL ls
  | [], s => by simp [renBody]
  | l :: ls, s => by
    have h1 := renBody_count ls (renList s l.2.2)
    have h2 := renList_count l.2.2 s
    show (renBody (renList s l.2.2) ls).2 ≤ _
    simp only [totL, List.map_cons, List.sum_cons] at h1 ⊢
    omega
theorem totL_take_le (ls : List LLit) (k : Nat) : totL (ls.take k) ≤ totL ls := by
  have := congrArg (fun l => (l.map fun l : LLit => l.2.2.length).sum) (List.take_append_drop k ls)
  simp only [List.map_append, List.sum_append] at this
  unfold totL
  omega
theorem renLits_at {s : Ren} {ls xs : List LLit} (hxs : xs = renLits s ls) {k : Nat} (h : k < ls.length) (h' : k < xs.length) : xs[k] = (ls[k].1, ls[k].2.1, renOut (renBody s (ls.take k)) ls[k].2.2) := by
  subst hxs
  have e1 : ls.getD k (0, (0, [])) = ls[k] := by simp [h]
  simp [renLits, h]

theorem LvLits.length {w : World} {lo hi : Nat} {v : Value} {ls : List LLit} {ps : List Addr} (h : LvLits w lo hi v ls ps) : ps.length = 2 * ls.length + totL ls := by
  obtain ⟨A, c, rfl, hc, h0, h⟩ := h
  rcases Nat.eq_zero_or_pos ls.length with hz | hp
  · rw [h0 hz, List.eq_nil_of_length_eq_zero hz]
    simp [totL]
  · obtain ⟨b, o, qs, rfl, h1, h2, rfl, hx⟩ := h hp
    have : ∀ j, j ≤ ls.length → (preL (litEl b o qs) j).length = 2 * j + totL (ls.take j) := by
      intro j
      induction j with
      | zero => intro _; simp [preL_zero, totL]
      | succ j ih =>
        intro hj
        obtain ⟨_, x, y, u2, _, _, _, hI⟩ := hx j (by omega)
        rw [preL_succ, List.length_append, ih (by omega), litEl_len hI, totL_take ls j (by omega)]
        omega
    have := this ls.length (Nat.le_refl _)
    rwa [List.take_length] at this
theorem LvRule.length {w : World} {lo hi : Nat} {v : Value} {r : LRule} {ps : List Addr} (h : LvRule w lo hi v r ps) : ps.length ≤ 2 * szR r := by
  obtain ⟨p, a, b, qs, rs, rfl, rfl, ⟨_, _, _, _, hl, _⟩, h2⟩ := h
  rw [List.length_append, hl, h2.length]
  unfold szR
  omega

end Go.Proofs.YtokmmloakahkhaaGreatDoor
/-
  A row of literals that grows: the words; the specification's renaming: the walk of l2Rule.
-/
namespace Go.Proofs.YtokmmloakahkhaaGreatDoor
open Go.RowKit

/-- The cells of literals, a literal's three behind each other. -/
def flatL : List LLit → List Value → List Value
  | l :: ls, u :: us => .int .i64 l.1 :: .int .i64 l.2.1 :: u :: flatL ls us
  | _, _ => []
theorem flatL_length : ∀ (ls : List LLit) (us : List Value), us.length = ls.length → (flatL ls us).length = ls.length * 3
  | [], _, _ => by simp [flatL]
  | l :: ls, [], h => by simp at h
  | l :: ls, u :: us, h => by
    have := flatL_length ls us (by simpa using h)
    simp only [flatL, List.length_cons, this]
    omega
theorem flatL_at : ∀ (ls : List LLit) (us : List Value) (_ : us.length = ls.length) (k : Nat) (hk : k < ls.length) (hk' : k < us.length),
    (flatL ls us)[k * 3]? = some (.int .i64 ls[k].1) ∧ (flatL ls us)[k * 3 + 1]? = some (.int .i64 ls[k].2.1) ∧ (flatL ls us)[k * 3 + 2]? = some us[k]
  | [], _, _, k, hk, _ => absurd hk (by simp)
  | l :: ls, [], h, _, _, _ => by simp at h
  | l :: ls, u :: us, h, 0, _, _ => by simp [flatL]
  | l :: ls, u :: us, h, k + 1, hk, hk' => by
    have := flatL_at ls us (by simpa using h) k (by simpa using hk) (by simpa using hk')
    simpa [flatL, Nat.add_mul] using this
theorem flatL_snoc : ∀ (ls : List LLit) (us : List Value) (_ : us.length = ls.length) (l : LLit) (u : Value), flatL (ls ++ [l]) (us ++ [u]) = flatL ls us ++ [.int .i64 l.1, .int .i64 l.2.1, u]
  | [], [], _, l, u => by simp [flatL]
  | [], u' :: us, h, _, _ => by simp at h
  | l :: ls, [], h, _, _ => by simp at h
  | l :: ls, u :: us, h, m, b => by simp [flatL, flatL_snoc ls us (by simpa using h) m b]

/-- A row of literals of the call's own that grows, with its rows of integers us, in blocks from base on. -/
structure ColL (base : Nat) (wr : World) (ls : List LLit) (A : Option Addr) (c : Nat) (us : List Value) : Prop where
  len : us.length = ls.length
  own : ∀ i (h : i < ls.length) (h' : i < us.length), OwnInts wr base wr.heap.size us[i] ls[i].2.2
  row : wr.ownsRow base 91 3 (.slice A ls.length c) ls.length (flatL ls us)
section
variable {base : Nat} {wr w2 w4 : World} {ls : List LLit} {A : Option Addr} {c : Nat} {us : List Value}
theorem ColL.nil (base : Nat) (w : World) : ColL base w [] none 0 [] := ⟨rfl, fun i h => absurd h (by simp), by simpa [flatL] using World.ownsRow_nil w base 91 3⟩
theorem ColL.below (h : ColL base wr ls A c us) (hb : Below wr.heap.size wr w2) : ColL base w2 ls A c us :=
  ⟨h.len, fun i h1 h2 => ((h.own i h1 h2).below hb (Nat.le_refl _)).mono (Nat.le_refl _) hb.size, ownsRow_only h.row fun g hg => hb.block g (h.row.lt g hg).2⟩
theorem int_ne_lit {n : Nat} {v a : Value} {zs : List Value} {xs : List Int} {lo hi g : Nat} (hr : wr.ownsRow base 91 3 v n zs) (hv : v.ownBlock = some g) (ha : OwnInts wr lo hi a xs) : a.ownBlock ≠ some g := by
  rcases hr.2 with ⟨rfl, _⟩ | ⟨g1, c1, cur1, rfl, _, h1, _⟩
  · cases hv
  · have e : g1 = g := by simpa [Value.ownBlock] using hv
    subst e
    rcases ha.1.2 with ⟨rfl, _⟩ | ⟨g2, c2, cur2, rfl, _, h2, _⟩
    · simp [Value.ownBlock]
    · intro e
      have e : g2 = g1 := by simpa [Value.ownBlock] using e
      subst e
      rw [h1] at h2
      injection h2 with h2
      injection h2 with _ h2
      exact absurd h2 (by decide)
/-- One more literal. -/
theorem ColL.push {l : LLit} {u : Value} {g cap : Nat} {o : Obj} (h : ColL base wr ls A c us) (hb : Below wr.heap.size wr w2) (hu : OwnInts w2 base w2.heap.size u l.2.2)
    (hg : (w2.alloc o).grownBy w4 (Value.slice A ls.length c).ownBlock) (hown : w4.ownsRow base 91 3 (.slice (some ⟨g, 0, none⟩) (ls.length + 1) cap) (ls.length + 1) (flatL ls us ++ [.int .i64 l.1, .int .i64 l.2.1, u])) :
    ColL base w4 (ls ++ [l]) (some ⟨g, 0, none⟩) cap (us ++ [u]) := by
  have h2 := h.below hb
  have hg2 := grown_from_alloc hg
  have hl : (ls ++ [l]).length = ls.length + 1 := by simp
  have keep : ∀ {v : Value} {xs : List Int}, OwnInts w2 base w2.heap.size v xs → OwnInts w4 base w4.heap.size v xs := fun {v xs} hv =>
    (hv.kept (fun b hb' => hg2.block b (hv.lt hb').2.2 (fun e => int_ne_lit h2.row e.symm hv hb'))).mono (Nat.le_refl _) hg2.size
  refine ⟨by simp [h.len], fun i h1 h3 => ?_, ?_⟩
  · by_cases e : i < ls.length
    · have e' : i < us.length := by rw [h.len]; exact e
      rw [List.getElem_append_left e', List.getElem_append_left e]
      exact keep (h2.own i e e')
    · have e2 : i = ls.length := by simp at h1; omega
      subst e2
      simp [← h.len]
      simpa using keep hu
  · rw [hl, flatL_snoc ls us h.len]
    exact hown
theorem ColL.lits (h : ColL base wr ls A c us) (hn : ls.length ≤ c) : OwnLits wr base wr.heap.size (.slice A ls.length c) ls := by
  have hcells := @World.ownsRow.cells wr base 91 3 (.slice A ls.length c) ls.length (flatL ls us) h.row
  have hlt := h.row.lt
  have hl := h.len
  refine ⟨A, c, rfl, hn, fun hpos => ?_⟩
  rcases h.row.2 with ⟨e, h0⟩ | ⟨g, cap, cur, e, hb, hgg, _⟩
  · omega
  · injection e with e1 _ e3
    subst e1
    refine ⟨g, 0, rfl, hb, (hlt g rfl).2, fun k hk => ⟨⟨by simp [World.frozen?, hgg], by simp [World.frozen?, hgg]⟩, ?_⟩⟩
    obtain ⟨c0, c1, c2⟩ := flatL_at ls us hl k hk (by omega)
    have d0 := hcells (g := g) rfl _ _ c0
    have d1 := hcells (g := g) rfl _ _ c1
    have d2 := hcells (g := g) rfl _ _ c2
    rw [Go.WideShapes.add_plain] at d0 d1 d2
    exact ⟨_, _, _, d0, d1, d2, rfl, rfl, h.own k hk (by omega)⟩
theorem ColL.set {p : Addr} (h : ColL base wr ls A c us) (hp : p.block < base) (u : Value) : ColL base (wr.setCell p u) ls A c us :=
  ⟨h.len, fun i h1 h2 => ((h.own i h1 h2).set (.inl hp) u).mono (Nat.le_refl _) (by simp), ownsRow_only h.row fun g hg => Below.heap_setCell _ _ _ _ (by have := (h.row.lt g hg).1; omega)⟩
theorem ColL.cap (h : ColL base wr ls A c us) : ls.length ≤ c := by
  rcases h.row.2 with ⟨e, h0⟩ | ⟨g, cap, cur, e, hb, hgg, hn, _⟩
  · injection e with _ _ e
    omega
  · injection e with _ _ e
    omega
end

end Go.Proofs.YtokmmloakahkhaaGreatDoor
