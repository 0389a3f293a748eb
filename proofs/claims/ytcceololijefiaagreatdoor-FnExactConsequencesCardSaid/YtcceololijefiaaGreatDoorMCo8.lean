/-
  Texts that the claim's last one imports, laid together: part 8 of 9. No condition of its own.
-/
import Derived.Deep.RegionHeld3
import Derived.Deep.RegionWith
import Derived.Deep.RegionLaw
import Derived.Laws.BitsAllLaws
import Derived.Deep.DeepCutAuto
import Derived.Laws.CopyOwn
import Derived.Deep.WholeRow
import Derived.Test.YtcceololijefiaaGreatDoorMCo1
import Derived.Test.YtcceololijefiaaGreatDoorMCo2
import Derived.Test.YtcceololijefiaaGreatDoorMCo3
import Derived.Test.YtcceololijefiaaGreatDoorMCo5
import Derived.Test.YtcceololijefiaaGreatDoorMCo6
import Derived.Test.YtcceololijefiaaGreatDoorMCo7
/-
  The walks of ruleFits and of both RuleOk.
-/
namespace Go.Proofs.YtcceololijefiaaGreatDoor
open Go.RowKit

def ruleFits (ar : List Int) (r : LRule) : Bool := atomFits ar r.1 && (decide (r.2.length ≤ 4) && (r.2.all (litFits ar) && ruleSafe r))
def ruleOk (ar : List Int) (r : LRule) : Bool := arityOk ar && ruleFits ar r

set_option maxHeartbeats 1000000 in
set_option maxRecDepth 100000 in
theorem ruleFits_any (v v2 : Value) (ar : List Int) (r : LRule) (w : World) (h : RdInts w w.heap.size v ar) (h2 : RdRule w w.heap.size v2 r) (hs : szR r ≤ 1048576) :
    Calls Tryz.prog 43 #[v, v2] w fun e w' => e = .returned (.bool (ruleFits ar r)) ∧ Below w.heap.size w w' := by
  have H := Lib.hid h
  have HR := Lib.hid h2
  have hsz := hs
  unfold szR at hs
  obtain ⟨A, c, rfl, hc, _⟩ := h
  obtain ⟨a, b, rfl, h2, h3⟩ := h2
  have H2 := Lib.hid h2
  have H3 := Lib.hid h3
  obtain ⟨A2, c2, rfl, hc2, _⟩ := h2
  obtain ⟨A3, c3, rfl, hc3, _⟩ := h3
  go_enter Tryz.func43, Tryz.ntmps43
  go_wp2_with (fail)
  refine (atomFits_any _ _ ar r.1 _ (H.out.on (below1 _ _)) ⟨_, rfl, H2.out.on (below1 _ _)⟩ (by omega)).mono ?_
  rintro e w2 ⟨rfl, hb2⟩
  have B2 := bthen (below1 _ _) hb2
  have x2 : Blk w2 w.heap.size 71 #[.int .i64 r.1.1, .slice A2 r.1.2.length c2, .slice A3 r.2.length c3] := (Blk.new w _ _).below hb2 (by simp)
  have q2 : w2.cell? ⟨w.heap.size, 2, none⟩ = some (.slice A3 r.2.length c3) := x2.cell 2
  by_cases hf : atomFits ar r.1 = true
  · rw [hf]
    have HF := Lib.hid hf
    clear hf hb2
    by_cases hl : r.2.length ≤ 4
    · have hd : decide ((4 : Int) < (r.2.length : Int)) = false := by simp; omega
      have HL := Lib.hid (show ruleFits ar r = (r.2.all (litFits ar) && ruleSafe r) by simp [ruleFits, HF.out, hl])
      go_wp2_with (fail)
      go_loopw [6, 21] (fun _ i wr => ∃ k : Nat, k ≤ r.2.length ∧ i = .int .i64 k ∧ AllTo (litFits ar) r.2 k ∧ Below w2.heap.size w2 wr) (fun _ i _ => r.2.length - (intOf i).toNat)
      case atStart => exact ⟨0, Nat.zero_le _, rfl, AllTo.start, Below.refl _ _⟩
      case round =>
        obtain ⟨k, hk, rfl, hs, hbe⟩ := hrel
        have BW := bthen B2 hbe
        have xr := x2.below hbe x2.lt
        have p0 : wr.cell? ⟨w.heap.size, 0, none⟩ = some (.int .i64 r.1.1) := xr.cell 0
        have p1 : wr.cell? ⟨w.heap.size, 1, none⟩ = some (.slice A2 r.1.2.length c2) := xr.cell 1
        have p2 : wr.cell? ⟨w.heap.size, 2, none⟩ = some (.slice A3 r.2.length c3) := xr.cell 2
        clear q2
        by_cases hlt : k < r.2.length
        · obtain ⟨b, o, u0, u1, u2, rfl, hbB, k0, k1, k2, rfl, rfl, p3⟩ := (H3.out.on BW).get hlt
          have HA := Lib.hid p3
          obtain ⟨A4, c4, rfl, hc4, _⟩ := p3
          have hle := len_le_totL r.2 k hlt
          go_wp2_with (fail)
          refine (litFits_any _ _ ar r.2[k] _ ((H.out.on BW).on (below1 _ _)) ⟨_, rfl, HA.out.on (below1 _ _)⟩ (by omega)).mono ?_
          rintro e w4 ⟨rfl, hb4⟩
          have B4 := bthen hbe (bthen (below1 _ _) hb4)
          by_cases he : litFits ar r.2[k] = true
          · rw [he]
            have HS := Lib.hid (hs.step hlt he)
            clear hs he
            go_wp2_with (fail)
            go_roundw
            case rel => exact ⟨k + 1, by omega, by go_num, HS.out, B4⟩
            case measure => simp [intOf]; omega
          · have he' : litFits ar r.2[k] = false := by simpa using he
            rw [he']
            have HE := Lib.hid (show ruleFits ar r = false by rw [HL.out, all_not hlt he']; rfl)
            clear hs he he'
            go_wp2_with (fail)
            go_ret
            exact ⟨ret_bool HE.out.symm, bthen B2 B4⟩
        · have HE := Lib.hid (show ruleFits ar r = ruleSafe r by rw [HL.out, hs.done (by omega), Bool.true_and])
          clear hs
          go_wp2_with (fail)
          refine (implRuleSafe_any _ r _ (HR.out.on BW) hsz).mono ?_
          rintro e w5 ⟨rfl, hb5⟩
          go_wp2_with (fail)
          go_ret
          exact ⟨ret_bool HE.out.symm, bthen BW hb5⟩
    · have hd : decide ((4 : Int) < (r.2.length : Int)) = true := by simp; omega
      have HE := Lib.hid (show ruleFits ar r = false by simp [ruleFits, hl])
      go_wp2_with (fail)
      go_ret
      exact ⟨ret_bool HE.out.symm, B2⟩
  · have hf' : atomFits ar r.1 = false := by simpa using hf
    rw [hf']
    have HE := Lib.hid (show ruleFits ar r = false by simp [ruleFits, hf'])
    clear hf hf'
    go_wp2_with (fail)
    go_ret
    exact ⟨ret_bool HE.out.symm, B2⟩

theorem ruleOk_spec (ar : List Int) (r : LRule) : ruleOk ar r = (r.2.all (litOk ar) && (atomOk ar r.1 && (decide (r.2.length ≤ 4) && ruleSafe r))) := by
  unfold ruleOk ruleFits atomOk
  by_cases ha : arityOk ar = true
  · have : r.2.all (litOk ar) = r.2.all (litFits ar) := by
      congr 1
      funext l
      unfold litOk
      rw [ha, Bool.true_and]
    rw [this, ha]
    cases atomFits ar r.1 <;> cases r.2.all (litFits ar) <;> cases decide (r.2.length ≤ 4) <;> rfl
  · have ha' : arityOk ar = false := by simpa using ha
    rw [ha']
    simp

set_option maxHeartbeats 1000000 in
set_option maxRecDepth 100000 in
theorem specRuleOk_any (v v2 : Value) (ar : List Int) (r : LRule) (w : World) (h : RdInts w w.heap.size v ar) (h2 : RdRule w w.heap.size v2 r) (hr : ar.length ≤ 1048576) (hs : szR r ≤ 1048576) :
    Calls Tryz.prog 35 #[v, v2] w fun e w' => e = .returned (.bool (ruleOk ar r)) ∧ Below w.heap.size w w' := by
  have H := Lib.hid h
  have HR := Lib.hid h2
  have hsz := hs
  unfold szR at hs
  have HP := Lib.hid (ruleOk_spec ar r)
  obtain ⟨A, c, rfl, hc, _⟩ := h
  obtain ⟨a, b, rfl, h2, h3⟩ := h2
  have H2 := Lib.hid h2
  have H3 := Lib.hid h3
  obtain ⟨A2, c2, rfl, hc2, _⟩ := h2
  obtain ⟨A3, c3, rfl, hc3, _⟩ := h3
  go_enter Tryz.func35, Tryz.ntmps35
  go_wp2_with (fail)
  obtain ⟨w2, hw2⟩ : ∃ w2, w2 = w.alloc (Obj.cells #[Value.int IntKind.i64 r.1.1, Value.slice A2 r.1.2.length c2, Value.slice A3 r.2.length c3] 71) := ⟨_, rfl⟩
  have B2 : Below w.heap.size w w2 := by rw [hw2]; exact below1 _ _
  have x2 : Blk w2 w.heap.size 71 #[.int .i64 r.1.1, .slice A2 r.1.2.length c2, .slice A3 r.2.length c3] := by rw [hw2]; exact Blk.new _ _ _
  rw [← hw2]
  clear hw2
  go_loopw [5] (fun i wr => ∃ k : Nat, k ≤ r.2.length ∧ i = .int .i64 k ∧ AllTo (litOk ar) r.2 k ∧ Below w2.heap.size w2 wr) (fun i _ => r.2.length - (intOf i).toNat)
  case atStart => exact ⟨0, Nat.zero_le _, rfl, AllTo.start, Below.refl _ _⟩
  case round =>
    obtain ⟨k, hk, rfl, hs, hbe⟩ := hrel
    have BW := bthen B2 hbe
    have xr := x2.below hbe x2.lt
    have p0 : wr.cell? ⟨w.heap.size, 0, none⟩ = some (.int .i64 r.1.1) := xr.cell 0
    have p1 : wr.cell? ⟨w.heap.size, 1, none⟩ = some (.slice A2 r.1.2.length c2) := xr.cell 1
    have p2 : wr.cell? ⟨w.heap.size, 2, none⟩ = some (.slice A3 r.2.length c3) := xr.cell 2
    by_cases hlt : k < r.2.length
    · obtain ⟨b, o, u0, u1, u2, rfl, hbB, k0, k1, k2, rfl, rfl, p3⟩ := (H3.out.on BW).get hlt
      have HA := Lib.hid p3
      obtain ⟨A4, c4, rfl, hc4, _⟩ := p3
      have hle := len_le_totL r.2 k hlt
      go_wp2_with (fail)
      refine (specLitOk_any _ _ ar r.2[k] _ (H.out.on BW) ⟨_, rfl, HA.out⟩ hr (by omega)).mono ?_
      rintro e w4 ⟨rfl, hb4⟩
      have B4 := bthen hbe hb4
      by_cases he : litOk ar r.2[k] = true
      · rw [he]
        have HS := Lib.hid (hs.step hlt he)
        clear hs he
        go_wp2_with (fail)
        go_roundw
        case rel => exact ⟨k + 1, by omega, by go_num, HS.out, B4⟩
        case measure => simp [intOf]; omega
      · have he' : litOk ar r.2[k] = false := by simpa using he
        rw [he']
        have HE := Lib.hid (show ruleOk ar r = false by rw [HP.out, all_not hlt he']; rfl)
        clear hs he he'
        go_wp2_with (fail)
        go_ret
        exact ⟨ret_bool HE.out.symm, bthen B2 B4⟩
    · have HE := Lib.hid (show ruleOk ar r = (atomOk ar r.1 && (decide (r.2.length ≤ 4) && ruleSafe r)) by rw [HP.out, hs.done (by omega), Bool.true_and])
      clear hs
      go_wp2_with (fail)
      refine (specAtomOk_any _ _ ar r.1 _ (H.out.on BW) ⟨_, rfl, H2.out.on BW⟩ hr (by omega)).mono ?_
      rintro e w5 ⟨rfl, hb5⟩
      have B5 := bthen BW hb5
      have x5 := xr.below hb5 xr.lt
      have p0 : w5.cell? ⟨w.heap.size, 0, none⟩ = some (.int .i64 r.1.1) := x5.cell 0
      have p1 : w5.cell? ⟨w.heap.size, 1, none⟩ = some (.slice A2 r.1.2.length c2) := x5.cell 1
      have p2 : w5.cell? ⟨w.heap.size, 2, none⟩ = some (.slice A3 r.2.length c3) := x5.cell 2
      by_cases hf : atomOk ar r.1 = true
      · rw [hf]
        by_cases hl : r.2.length ≤ 4
        · have hd : decide ((r.2.length : Int) ≤ 4) = true := by simp; omega
          have HE2 := Lib.hid (show ruleOk ar r = ruleSafe r by rw [HE.out, hf]; simp [hl])
          clear hf
          go_wp2_with (fail)
          refine (specRuleSafe_any _ r _ (HR.out.on B5) hsz).mono ?_
          rintro e w6 ⟨rfl, hb6⟩
          go_wp2_with (fail)
          go_ret
          exact ⟨ret_bool HE2.out.symm, bthen B5 hb6⟩
        · have hd : decide ((r.2.length : Int) ≤ 4) = false := by simp; omega
          have HE2 := Lib.hid (show ruleOk ar r = false by rw [HE.out]; simp [hl])
          clear hf
          go_wp2_with (fail)
          go_ret
          exact ⟨ret_bool HE2.out.symm, B5⟩
      · have hf' : atomOk ar r.1 = false := by simpa using hf
        rw [hf']
        have HE2 := Lib.hid (show ruleOk ar r = false by rw [HE.out, hf']; rfl)
        clear hf hf'
        go_wp2_with (fail)
        go_ret
        exact ⟨ret_bool HE2.out.symm, B5⟩

end Go.Proofs.YtcceololijefiaaGreatDoor
/-
  The heads of all rules: how many they are, and the specification's l4All.
-/
namespace Go.Proofs.YtcceololijefiaaGreatDoor
open Go.RowKit

theorem place_short {ar : List Int} {p : Int} {n : Nat} (ha : arityOk ar = true) (h : 0 ≤ p ∧ p < ar.length ∧ (n : Int) = ar.getD p.toNat 0) : n ≤ 2 := by
  obtain ⟨h0, h1, h2⟩ := h
  simp only [arityOk, Bool.and_eq_true, List.all_eq_true] at ha
  have hlt : p.toNat < ar.length := by omega
  have hp := ha.2 _ (List.getElem_mem hlt)
  simp only [placeOk, decide_eq_true_eq] at hp
  have hd : ar.getD p.toNat 0 = ar[p.toNat] := by simp [hlt]
  rw [hd] at h2
  omega
theorem fits_parts {ar : List Int} {f : LFact} (h : factFits ar f = true) : (0 ≤ f.1 ∧ f.1 < ar.length ∧ (f.2.length : Int) = ar.getD f.1.toNat 0) ∧ f.2.all constOk = true := by
  simp only [factFits, Bool.and_eq_true, decide_eq_true_eq] at h
  exact h
theorem fits_short {ar : List Int} {f : LFact} (ha : arityOk ar = true) (h : factFits ar f = true) : f.2.length ≤ 2 := place_short ha (fits_parts h).1
/-- A fact's number. -/
def encF (f : LFact) : Nat := f.1.toNat * 64 + (match f.2 with | [] => 0 | [x] => x.toNat + 1 | x :: y :: _ => x.toNat + 1 + 7 * (y.toNat + 1))
theorem const_range {x : Int} (h : constOk x = true) : 0 ≤ x ∧ x ≤ 5 := by simpa [constOk] using h
theorem encF_lt {ar : List Int} {f : LFact} (ha : arityOk ar = true) (h : factFits ar f = true) : encF f < 1536 := by
  have hs := fits_short ha h
  obtain ⟨⟨h0, h1, _⟩, h2⟩ := fits_parts h
  have hl : ar.length ≤ 24 := by simp only [arityOk, Bool.and_eq_true, decide_eq_true_eq] at ha; exact ha.1
  obtain ⟨p, xs⟩ := f
  rcases xs with _ | ⟨x, _ | ⟨y, _ | ⟨z, xs⟩⟩⟩
  · simp only [encF] at *; omega
  · simp only [List.all_cons, Bool.and_eq_true] at h2
    have := const_range h2.1
    simp only [encF] at *; omega
  · simp only [List.all_cons, Bool.and_eq_true] at h2
    have := const_range h2.1
    have := const_range h2.2.1
    simp only [encF] at *; omega
  · simp at hs
theorem split64 {a b c d : Nat} (e : a * 64 + c = b * 64 + d) (hc : c < 64) (hd : d < 64) : a = b ∧ c = d := by omega
theorem split7 {a b c d : Nat} (e : a + 1 + 7 * (c + 1) = b + 1 + 7 * (d + 1)) (ha : a < 6) (hb : b < 6) : a = b ∧ c = d := by omega
theorem encF_inj {ar : List Int} {f g : LFact} (ha : arityOk ar = true) (hf : factFits ar f = true) (hg : factFits ar g = true) (e : encF f = encF g) : f = g := by
  have hs := fits_short ha hf
  have hs' := fits_short ha hg
  obtain ⟨⟨h0, _, _⟩, h2⟩ := fits_parts hf
  obtain ⟨⟨h0', _, _⟩, h2'⟩ := fits_parts hg
  obtain ⟨p, xs⟩ := f
  obtain ⟨q, ys⟩ := g
  rcases xs with _ | ⟨x, _ | ⟨y, _ | ⟨z, xs⟩⟩⟩ <;> rcases ys with _ | ⟨x', _ | ⟨y', _ | ⟨z', ys⟩⟩⟩ <;> (try (simp at hs; done)) <;> (try (simp at hs'; done)) <;>
    simp only [List.all_cons, List.all_nil, Bool.and_eq_true, and_true] at h2 h2' <;> simp only [encF] at e h0 h0'
  · obtain ⟨e1, _⟩ := split64 e (by omega) (by omega); simp; omega
  · have := const_range h2'; obtain ⟨_, e2⟩ := split64 e (by omega) (by omega); omega
  · have := const_range h2'.1; have := const_range h2'.2; obtain ⟨_, e2⟩ := split64 e (by omega) (by omega); omega
  · have := const_range h2; obtain ⟨_, e2⟩ := split64 e (by omega) (by omega); omega
  · have := const_range h2; have := const_range h2'; obtain ⟨e1, e2⟩ := split64 e (by omega) (by omega); simp; omega
  · have := const_range h2; have := const_range h2'.1; have := const_range h2'.2; obtain ⟨_, e2⟩ := split64 e (by omega) (by omega); omega
  · have := const_range h2.1; have := const_range h2.2; obtain ⟨_, e2⟩ := split64 e (by omega) (by omega); omega
  · have := const_range h2.1; have := const_range h2.2; have := const_range h2'; obtain ⟨_, e2⟩ := split64 e (by omega) (by omega); omega
  · have := const_range h2.1; have := const_range h2.2; have := const_range h2'.1; have := const_range h2'.2
    obtain ⟨e1, e2⟩ := split64 e (by omega) (by omega)
    obtain ⟨e3, e4⟩ := split7 e2 (by omega) (by omega)
    simp; omega
theorem tot_short : ∀ {l : List LFact}, (∀ f ∈ l, f.2.length ≤ 2) → tot l ≤ l.length * 2
  | [], _ => by simp [tot]
  | f :: l, h => by
    have h1 := h f (List.mem_cons_self ..)
    have h2 := tot_short fun g hg => h g (List.mem_cons_of_mem _ hg)
    rw [tot_cons, List.length_cons]
    omega
/-- Facts that fit, no two alike: few. -/
theorem facts_few {ar : List Int} {l : List LFact} (ha : arityOk ar = true) (hn : l.Nodup) (h : ∀ f ∈ l, factFits ar f = true) : l.length ≤ 1536 ∧ tot l ≤ 3072 := by
  have h1 := nodup_len 1536 (l.map encF) (by
    unfold List.Nodup
    rw [List.pairwise_map]
    exact List.Pairwise.imp_of_mem (fun {a b} hx hy hne e => hne (encF_inj ha (h a hx) (h b hy) e)) hn) fun x hx => by
      obtain ⟨b, hb, rfl⟩ := List.mem_map.1 hx
      exact encF_lt ha (h b hb)
  rw [List.length_map] at h1
  have h2 := tot_short fun f hf => fits_short ha (h f hf)
  omega

theorem headOf_fits {ar : List Int} {a : LFact} {bs : List Int} (ha : atomFits ar a = true) (e : headOk a bs = true) : factFits ar (headOf a bs) = true := by
  rw [headOf_yes e]
  simp only [atomFits, Bool.and_eq_true, decide_eq_true_eq] at ha
  simp only [headOk, Bool.and_eq_true] at e
  simp only [factFits, Bool.and_eq_true, decide_eq_true_eq, List.length_map]
  exact ⟨ha.1, e.2⟩
theorem headsTo_asc (a : LFact) (S : List (List Int)) : ∀ k, Asc (headsTo a S k)
  | 0 => List.Pairwise.nil
  | k + 1 => by
    have ih := headsTo_asc a S k
    show Asc (if _ then _ else _)
    split
    · exact (foldWith [headOf a (S.getD k [])] _ ih).1
    · exact ih
theorem headsTo_fits {ar : List Int} {a : LFact} {S : List (List Int)} (ha : atomFits ar a = true) : ∀ k, ∀ f ∈ headsTo a S k, factFits ar f = true
  | 0 => fun f hf => by cases hf
  | k + 1 => by
    have ih := headsTo_fits (S := S) ha k
    intro f hf
    have hf : f ∈ (if headOk a (S.getD k []) then factsWith (headsTo a S k) (headOf a (S.getD k [])) else headsTo a S k) := hf
    split at hf
    · rename_i e
      rcases (factsWith_mem _ _ _).1 hf with h | rfl
      · exact ih f h
      · exact headOf_fits ha e
    · exact ih f hf
theorem headsL_fits {ar : List Int} {r : LRule} (gs : List LFact) (h : ruleFits ar r = true) : ∀ f ∈ headsL r gs, factFits ar f = true := by
  simp only [ruleFits, Bool.and_eq_true] at h
  exact headsTo_fits h.1 _
theorem headsL_few {ar : List Int} {r : LRule} (gs : List LFact) (ha : arityOk ar = true) (h : ruleFits ar r = true) : (headsL r gs).length ≤ 1536 ∧ tot (headsL r gs) ≤ 3072 :=
  facts_few ha (asc_nodup (headsTo_asc _ _ _)) (headsL_fits gs h)
/-- The heads of rules. -/
def headsAll (rs : List LRule) (gs : List LFact) : List LFact := setOf (rs.flatMap fun r => headsL r gs)
theorem setOf_more (xs ys : List LFact) : setOf (setOf xs ++ ys) = setOf (xs ++ ys) :=
  (setOf_asc _).unique (setOf_asc _) fun f => by rw [setOf_mem, setOf_mem, List.mem_append, List.mem_append, setOf_mem]
theorem headsAll_snoc (rs : List LRule) (gs : List LFact) (k : Nat) (h : k < rs.length) : headsAll (rs.take (k + 1)) gs = setOf (headsAll (rs.take k) gs ++ headsL rs[k] gs) := by
  unfold headsAll
  rw [take_snoc rs k h, List.flatMap_append, setOf_more]
  simp
theorem headsAll_fits {ar : List Int} {rs : List LRule} (gs : List LFact) (h : ∀ r ∈ rs, ruleFits ar r = true) : ∀ f ∈ headsAll rs gs, factFits ar f = true := by
  intro f hf
  obtain ⟨r, hr, hm⟩ := List.mem_flatMap.1 ((setOf_mem _ _).1 hf)
  exact headsL_fits gs (h r hr) f hm
theorem headsAll_few {ar : List Int} {rs : List LRule} (gs : List LFact) (ha : arityOk ar = true) (h : ∀ r ∈ rs, ruleFits ar r = true) : (headsAll rs gs).length ≤ 1536 ∧ tot (headsAll rs gs) ≤ 3072 :=
  facts_few ha (asc_nodup (setOf_asc _)) (headsAll_fits gs h)
theorem lit_terms {ar : List Int} {l : LLit} (h : litFits ar l = true) : l.2.2.all termOk = true := by
  unfold litFits at h
  split at h
  · simp only [atomFits, Bool.and_eq_true] at h; exact h.2
  · split at h
    · simp only [Bool.and_eq_true] at h; exact h.2
    · cases h

set_option maxHeartbeats 4000000 in
set_option maxRecDepth 100000 in
theorem l4All_any (v v2 : Value) (ar : List Int) (rs : List LRule) (gs : List LFact) (w : World) (h : RdRules w w.heap.size v rs) (h2 : RdFacts w w.heap.size v2 gs) (har : arityOk ar = true) (hfit : ∀ r ∈ rs, ruleFits ar r = true) (hsz : totR rs ≤ 1048576) (hrl : rs.length ≤ 1048576)
    (hn : gs.length ≤ 1048576) (ht : tot gs ≤ 1048576) (hc : ∀ f ∈ gs, f.2.all constOk = true) (hnd : gs.Nodup) :
    Calls Tryz.prog 20 #[v, v2] w fun e w' => ∃ A c, e = .returned (.slice A (headsAll rs gs).length c) ∧ OwnFacts w' w.heap.size w'.heap.size (.slice A (headsAll rs gs).length c) (headsAll rs gs) ∧ Below w.heap.size w w' := by
  have H := Lib.hid h
  have H2 := Lib.hid h2
  obtain ⟨A, c, rfl, hcA, _⟩ := h
  obtain ⟨A2, c2, rfl, hc2, _⟩ := h2
  have HFIT := Lib.hid hfit
  clear hfit
  go_enter Tryz.func20, Tryz.ntmps20
  go_wp2_with (fail)
  go_loopw [5, 6] (fun o i wr => ∃ (k : Nat) (A' : Option Addr) (c' : Nat), k ≤ rs.length ∧ i = .int .i64 k ∧ o = .slice A' (headsAll (rs.take k) gs).length c' ∧ OwnFacts wr w.heap.size wr.heap.size (.slice A' (headsAll (rs.take k) gs).length c') (headsAll (rs.take k) gs) ∧ Below w.heap.size w wr) (fun _ i _ => rs.length - (intOf i).toNat)
  case atStart => exact ⟨0, _, 0, Nat.zero_le _, rfl, rfl, (ColRel.empty w).own.own.mono (Nat.le_refl _) (Nat.le_refl _), below1 _ _⟩
  case round =>
    obtain ⟨k, A', c', hk, rfl, rfl, ho, hbe⟩ := hrel
    have HO := Lib.hid ho
    have HBE := Lib.hid hbe
    by_cases hlt : k < rs.length
    · obtain ⟨b, o, u0, u1, u2, rfl, hbB, k0, k1, k2, rfl, q1, q2⟩ := (H.out.on hbe).get hlt
      obtain ⟨A3, c3, rfl, _⟩ := id q1
      obtain ⟨A4, c4, rfl, _⟩ := id q2
      have hfk := HFIT.out _ (List.getElem_mem hlt)
      have HW := Lib.hid hfk
      have hparts := hfk
      simp only [ruleFits, atomFits, Bool.and_eq_true, decide_eq_true_eq] at hparts
      have ha2 := place_short har hparts.1.1
      have hsk := sz_le_totR rs k hlt
      unfold szR at hsk
      have HOF := Lib.hid (l4Of_any (.agg #[.int .i64 rs[k].1.1, .slice A3 rs[k].1.2.length c3, .slice A4 rs[k].2.length c4]) (.slice A2 gs.length c2) rs[k] gs _ ⟨_, _, rfl, q1, q2⟩ (H2.out.on hbe) hn ht (by omega) hc hnd (fun l hl => lit_terms (List.all_eq_true.1 hparts.2.2.1 l hl)) ha2)
      have h1 := headsAll_few gs har (rs := rs.take k) (fun r hr => HFIT.out r (List.mem_of_mem_take hr))
      have h2 := headsL_few gs har HW.out
      have HN := Lib.hid (And.intro h1 h2)
      have HE := Lib.hid (headsAll_snoc rs gs k hlt)
      clear ho hbe q1 q2 h1 h2 hparts hfk hsk
      go_wp2_with (first
        | (go_at_call 40; refine HOF.out.mono ?_; rintro e w1 ⟨A5, c5, rfl, o5, b5⟩; have H5 := Lib.hid (And.intro o5 b5); clear o5 b5)
        | (go_at_call 39
           refine (specFactsEither_any _ _ (headsAll (rs.take k) gs) (headsL rs[k] gs) w1 ((HO.out.below H5.out.2 (Nat.le_refl _)).rd.more H5.out.2.size) H5.out.1.rd (by have := HN.out; omega) (by have := HN.out; omega)).mono ?_
           rintro e w2 ⟨A6, c6, rfl, o6, b6⟩; have H6 := Lib.hid (And.intro o6 b6); clear o6 b6))
      go_roundw
      case rel =>
        refine ⟨k + 1, A6, c6, by omega, by go_num, by rw [HE.out], ?_, bthen HBE.out (bthen H5.out.2 H6.out.2)⟩
        rw [HE.out]
        exact H6.out.1.mono (by have := HBE.out.size; have := H5.out.2.size; omega) (Nat.le_refl _)
      case measure => simp [intOf]; omega
    · obtain rfl : k = rs.length := by omega
      have HR := Lib.hid (show rs.take rs.length = rs from List.take_length)
      clear ho hbe
      go_wp2_with (fail)
      go_ret
      have ho := HO.out
      rw [HR.out] at ho ⊢
      exact ⟨A', c', rfl, ho, HBE.out⟩

end Go.Proofs.YtcceololijefiaaGreatDoor
/-
  The walks of both ProgramOk, of l2Has, and of both Positive.
-/
namespace Go.Proofs.YtcceololijefiaaGreatDoor
open Go.RowKit

def progOk (p : LProg) : Bool := arityOk p.1 && (decide (p.2.length ≤ 60) && p.2.all (ruleFits p.1))
theorem progOk_spec (p : LProg) : progOk p = (p.2.all (ruleOk p.1) && (arityOk p.1 && decide (p.2.length ≤ 60))) := by
  unfold progOk
  by_cases ha : arityOk p.1 = true
  · have : p.2.all (ruleOk p.1) = p.2.all (ruleFits p.1) := by
      congr 1
      funext r
      unfold ruleOk
      rw [ha, Bool.true_and]
    rw [this, ha]
    cases p.2.all (ruleFits p.1) <;> cases decide (p.2.length ≤ 60) <;> rfl
  · have ha' : arityOk p.1 = false := by simpa using ha
    rw [ha']
    simp

set_option maxHeartbeats 1000000 in
set_option maxRecDepth 100000 in
theorem implProgramOk_any (v : Value) (p : LProg) (w : World) (h : RdProg w w.heap.size v p) (hs : szP p ≤ 1048576) :
    Calls Tryz.prog 24 #[v] w fun e w' => e = .returned (.bool (progOk p)) ∧ Below w.heap.size w w' := by
  unfold szP at hs
  obtain ⟨a, b, rfl, h, h2⟩ := h
  have H := Lib.hid h
  have H2 := Lib.hid h2
  obtain ⟨A, c, rfl, hc, _⟩ := h
  obtain ⟨A2, c2, rfl, hc2, _⟩ := h2
  go_enter Tryz.func24, Tryz.ntmps24
  go_wp2_with (fail)
  refine (arityOk_any _ p.1 _ (H.out.on (below1 _ _)) (by omega)).mono ?_
  rintro e w2 ⟨rfl, hb2⟩
  have B2 := bthen (below1 _ _) hb2
  have x2 : Blk w2 w.heap.size 33 #[.slice A p.1.length c, .slice A2 p.2.length c2] := (Blk.new w _ _).below hb2 (by simp)
  have q1 : w2.cell? ⟨w.heap.size, 1, none⟩ = some (.slice A2 p.2.length c2) := x2.cell 1
  by_cases hf : arityOk p.1 = true
  · rw [hf]
    have HF := Lib.hid hf
    clear hf hb2
    by_cases hl : p.2.length ≤ 60
    · have hd : decide ((60 : Int) < (p.2.length : Int)) = false := by simp; omega
      have HL := Lib.hid (show progOk p = p.2.all (ruleFits p.1) by simp [progOk, HF.out, hl])
      go_wp2_with (fail)
      go_loopw [18] (fun i wr => ∃ k : Nat, k ≤ p.2.length ∧ i = .int .i64 k ∧ AllTo (ruleFits p.1) p.2 k ∧ Below w2.heap.size w2 wr) (fun i _ => p.2.length - (intOf i).toNat)
      case atStart => exact ⟨0, Nat.zero_le _, rfl, AllTo.start, Below.refl _ _⟩
      case round =>
        obtain ⟨k, hk, rfl, hs, hbe⟩ := hrel
        have BW := bthen B2 hbe
        have xr := x2.below hbe x2.lt
        clear q1
        by_cases hlt : k < p.2.length
        · obtain ⟨b, o, u0, u1, u2, rfl, hbB, k0, k1, k2, rfl, p3, p4⟩ := (H2.out.on BW).get hlt
          have HA := Lib.hid p3
          have HB := Lib.hid p4
          obtain ⟨A4, c4, rfl, hc4, _⟩ := p3
          obtain ⟨A5, c5, rfl, hc5, _⟩ := p4
          have hle := sz_le_totR p.2 k hlt
          have q0 : ∀ O, (wr.alloc O).cell? ⟨w.heap.size, 0, none⟩ = some (.slice A p.1.length c) := fun O => (xr.alloc O).cell 0
          go_wp2_with (fail)
          refine (ruleFits_any _ _ p.1 p.2[k] _ ((H.out.on BW).on (below1 _ _)) ⟨_, _, rfl, HA.out.on (below1 _ _), HB.out.on (below1 _ _)⟩ (by omega)).mono ?_
          rintro e w4 ⟨rfl, hb4⟩
          have B4 := bthen hbe (bthen (below1 _ _) hb4)
          by_cases he : ruleFits p.1 p.2[k] = true
          · rw [he]
            have HS := Lib.hid (hs.step hlt he)
            clear hs he
            go_wp2_with (fail)
            go_roundw
            case rel => exact ⟨k + 1, by omega, by go_num, HS.out, B4⟩
            case measure => simp [intOf]; omega
          · have he' : ruleFits p.1 p.2[k] = false := by simpa using he
            rw [he']
            have HE := Lib.hid (show progOk p = false by rw [HL.out, all_not hlt he'])
            clear hs he he'
            go_wp2_with (fail)
            go_ret
            exact ⟨ret_bool HE.out.symm, bthen B2 B4⟩
        · have HE := Lib.hid (show progOk p = true by rw [HL.out, hs.done (by omega)])
          clear hs
          go_wp2_with (fail)
          go_ret
          exact ⟨ret_bool HE.out.symm, BW⟩
    · have hd : decide ((60 : Int) < (p.2.length : Int)) = true := by simp; omega
      have HE := Lib.hid (show progOk p = false by simp [progOk, hl])
      go_wp2_with (fail)
      go_ret
      exact ⟨ret_bool HE.out.symm, B2⟩
  · have hf' : arityOk p.1 = false := by simpa using hf
    rw [hf']
    have HE := Lib.hid (show progOk p = false by simp [progOk, hf'])
    clear hf hf'
    go_wp2_with (fail)
    go_ret
    exact ⟨ret_bool HE.out.symm, B2⟩

set_option maxHeartbeats 1000000 in
set_option maxRecDepth 100000 in
theorem specProgramOk_any (v : Value) (p : LProg) (w : World) (h : RdProg w w.heap.size v p) (hs : szP p ≤ 1048576) :
    Calls Tryz.prog 18 #[v] w fun e w' => e = .returned (.bool (progOk p)) ∧ Below w.heap.size w w' := by
  unfold szP at hs
  obtain ⟨a, b, rfl, h, h2⟩ := h
  have H := Lib.hid h
  have H2 := Lib.hid h2
  have HP := Lib.hid (progOk_spec p)
  obtain ⟨A, c, rfl, hc, _⟩ := h
  obtain ⟨A2, c2, rfl, hc2, _⟩ := h2
  go_enter Tryz.func18, Tryz.ntmps18
  go_wp2_with (fail)
  obtain ⟨w2, hw2⟩ : ∃ w2, w2 = w.alloc (Obj.cells #[Value.slice A p.1.length c, Value.slice A2 p.2.length c2] 33) := ⟨_, rfl⟩
  have B2 : Below w.heap.size w w2 := by rw [hw2]; exact below1 _ _
  have x2 : Blk w2 w.heap.size 33 #[.slice A p.1.length c, .slice A2 p.2.length c2] := by rw [hw2]; exact Blk.new _ _ _
  rw [← hw2]
  clear hw2
  go_loopw [3] (fun i wr => ∃ k : Nat, k ≤ p.2.length ∧ i = .int .i64 k ∧ AllTo (ruleOk p.1) p.2 k ∧ Below w2.heap.size w2 wr) (fun i _ => p.2.length - (intOf i).toNat)
  case atStart => exact ⟨0, Nat.zero_le _, rfl, AllTo.start, Below.refl _ _⟩
  case round =>
    obtain ⟨k, hk, rfl, hs, hbe⟩ := hrel
    have BW := bthen B2 hbe
    have xr := x2.below hbe x2.lt
    have q0 : wr.cell? ⟨w.heap.size, 0, none⟩ = some (.slice A p.1.length c) := xr.cell 0
    have q1 : wr.cell? ⟨w.heap.size, 1, none⟩ = some (.slice A2 p.2.length c2) := xr.cell 1
    by_cases hlt : k < p.2.length
    · obtain ⟨b, o, u0, u1, u2, rfl, hbB, k0, k1, k2, rfl, p3, p4⟩ := (H2.out.on BW).get hlt
      have HA := Lib.hid p3
      have HB := Lib.hid p4
      obtain ⟨A4, c4, rfl, hc4, _⟩ := p3
      obtain ⟨A5, c5, rfl, hc5, _⟩ := p4
      have hle := sz_le_totR p.2 k hlt
      have L0 := later_cell k0
      have L1 := later_cell k1
      have L2 := later_cell k2
      have L3 := later_cell q0
      have L4 := later_cell q1
      by_cases he : ruleOk p.1 p.2[k] = true
      · have CF := Lib.hid (fun x : Later wr => (specRuleOk_any (.slice A p.1.length c) (.agg #[.int .i64 p.2[k].1.1, .slice A4 p.2[k].1.2.length c4, .slice A5 p.2[k].2.length c5]) p.1 p.2[k] x.val ((H.out.on BW).on x.2) ⟨_, _, rfl, HA.out.on x.2, HB.out.on x.2⟩ (by omega) (by omega)).mono fun e w' (hh : e = .returned (.bool (ruleOk p.1 p.2[k])) ∧ Below x.val.heap.size x.val w') => (⟨by rw [hh.1, he], hh.2⟩ : e = .returned (.bool true) ∧ Below x.val.heap.size x.val w'))
        have HS := Lib.hid (hs.step hlt he)
        clear hs he
        go_wp2_with (fail)
        clear k0 k1 k2 q0 q1
        refine wp_region_later (by kernel_rfl) (by kernel_rfl) ?_
        repeat (go_big_quiet_step ((go_at_call 35; exact later_of (CF.out _))))
        refine wpQuiet_nil ?_
        rintro _ ⟨xq, rfl⟩
        go_wp2_with (fail)
        go_roundw
        case rel => exact ⟨k + 1, by omega, by go_num, HS.out, bthen hbe xq.2⟩
        case measure => simp [intOf]; omega
      · have he' : ruleOk p.1 p.2[k] = false := by simpa using he
        have CF := Lib.hid (fun x : Later wr => (specRuleOk_any (.slice A p.1.length c) (.agg #[.int .i64 p.2[k].1.1, .slice A4 p.2[k].1.2.length c4, .slice A5 p.2[k].2.length c5]) p.1 p.2[k] x.val ((H.out.on BW).on x.2) ⟨_, _, rfl, HA.out.on x.2, HB.out.on x.2⟩ (by omega) (by omega)).mono fun e w' (hh : e = .returned (.bool (ruleOk p.1 p.2[k])) ∧ Below x.val.heap.size x.val w') => (⟨by rw [hh.1, he'], hh.2⟩ : e = .returned (.bool false) ∧ Below x.val.heap.size x.val w'))
        have HE := Lib.hid (show progOk p = false by rw [HP.out, all_not hlt he']; rfl)
        clear hs he he'
        go_wp2_with (fail)
        clear k0 k1 k2 q0 q1
        refine wp_region_later (by kernel_rfl) (by kernel_rfl) ?_
        repeat (go_big_quiet_step ((go_at_call 35; exact later_of (CF.out _))))
        refine wpQuiet_nil ?_
        rintro _ ⟨xq, rfl⟩
        go_wp2_with (fail)
        go_ret
        exact ⟨ret_bool HE.out.symm, bthen BW xq.2⟩
    · have HE := Lib.hid (show progOk p = (arityOk p.1 && decide (p.2.length ≤ 60)) by rw [HP.out, hs.done (by omega), Bool.true_and])
      clear hs
      go_wp2_with (fail)
      refine (specArityOk_any _ p.1 _ (H.out.on BW) (by omega)).mono ?_
      rintro e w' ⟨rfl, rfl⟩
      by_cases hf : arityOk p.1 = true
      · rw [hf]
        by_cases hl : p.2.length ≤ 60
        · have hd : decide ((p.2.length : Int) ≤ 60) = true := by simp; omega
          have HE2 := Lib.hid (show progOk p = true by rw [HE.out, hf]; simp [hl])
          clear hf
          go_wp2_with (fail)
          go_ret
          exact ⟨ret_bool (by rw [HE2.out]), BW⟩
        · have hd : decide ((p.2.length : Int) ≤ 60) = false := by simp; omega
          have HE2 := Lib.hid (show progOk p = false by rw [HE.out]; simp [hl])
          clear hf
          go_wp2_with (fail)
          go_ret
          exact ⟨ret_bool (by rw [HE2.out]), BW⟩
      · have hf' : arityOk p.1 = false := by simpa using hf
        rw [hf']
        have HE2 := Lib.hid (show progOk p = false by rw [HE.out, hf']; rfl)
        clear hf hf'
        go_wp2_with (fail)
        go_ret
        exact ⟨ret_bool HE2.out.symm, BW⟩

end Go.Proofs.YtcceololijefiaaGreatDoor
/-
  The walk of the specification's FactOk.
-/
namespace Go.Proofs.YtcceololijefiaaGreatDoor
open Go.RowKit

set_option maxHeartbeats 400000 in
set_option maxRecDepth 100000 in
theorem specFactOk_any (v v2 : Value) (ar : List Int) (f : LFact) (w : World) (h : RdInts w w.heap.size v ar) (h2 : RdFact w w.heap.size v2 f) (hr : ar.length ≤ 1048576) (hn : f.2.length ≤ 1048576) :
    Calls Tryz.prog 37 #[v, v2] w fun e w' => e = .returned (.bool (factOk ar f)) ∧ Below w.heap.size w w' := by
  have H := Lib.hid h
  have H2 := Lib.hid h2
  obtain ⟨pp, xs⟩ := f
  obtain ⟨A, c, rfl, hc, h⟩ := h
  obtain ⟨a, rfl, A2, c2, rfl, hc2, h2⟩ := h2
  by_cases ha : arityOk ar = true
  · have CA : ∀ W, Below w.heap.size w W → Calls Tryz.prog 36 #[.slice A ar.length c] W fun e w' => e = .returned (.bool true) ∧ w' = W := fun W hW =>
      (specArityOk_any _ ar W (H.out.on hW) (by omega)).mono fun e w' ⟨he, hw⟩ => ⟨by rw [he, ha], hw.symm⟩
    have HCA := Lib.hid CA
    have HA := Lib.hid ha
    clear CA ha
    by_cases hp : 0 ≤ pp ∧ pp ≤ (ar.length : Int) - 1
    · have HCL := Lib.hid (l1In_yes hp)
      obtain ⟨p, rfl⟩ := Int.eq_ofNat_of_zero_le hp.1
      have hlt : p < ar.length := by omega
      have hltI : (p : Int) < (ar.length : Int) := by omega
      obtain ⟨b, o, rfl, hbB, hx⟩ := h (by omega)
      have hck : ∀ O, (w.alloc O).cell? ⟨b, o + p, none⟩ = some (.int .i64 ar[p]) := fun O => (World.cell?_alloc_lt w O ⟨b, o + p, none⟩ hbB).trans (hx p hlt)
      clear hp
      by_cases h3 : (xs.length : Int) = ar[p]
      · have hd3 : ((xs.length : Int) != ar[p]) = false := by simp [h3]
        have H3 := Lib.hid (show factOk ar ((p : Int), xs) = xs.all constOk by simp [factOk, HA.out, factFits, hlt, h3])
        clear h3 hx h
        go_enter Tryz.func37, Tryz.ntmps37
        go_wp2_with (fail)
        go_quiet (first | (go_at_call 36; exact Calls.quiet_of_same (HCA.out _ (bdrewN (below1 _ _) _))) | (go_at_call 59; exact quiet_left (HCL.out _)))
        go_wp2_with (fail)
        obtain ⟨w1, hw1⟩ : ∃ w1, w1 = (w.alloc (Obj.cells #[Value.int IntKind.i64 ↑p, Value.slice A2 xs.length c2] 51)).drewN nq := ⟨_, rfl⟩
        rw [← hw1]
        have hbe : Below w.heap.size w w1 := by rw [hw1]; exact bdrewN (below1 _ _) _
        have hblk : Blk w1 w.heap.size 51 #[.int .i64 p, .slice A2 xs.length c2] := by rw [hw1]; exact (Blk.new w _ _).drewN _
        have hc1 : w1.cell? ⟨w.heap.size, 1, none⟩ = some (.slice A2 xs.length c2) := hblk.cell 1
        clear hw1 hck
        go_loop [5] (fun i => ∃ k : Nat, k ≤ xs.length ∧ i = .int .i64 k ∧ ConstsTo xs k) (fun i => xs.length - (intOf i).toNat)
        case atStart => exact ⟨0, Nat.zero_le _, rfl, fun j hj => absurd hj (by omega)⟩
        case round =>
          obtain ⟨k, hk, rfl, hs⟩ := hrel
          by_cases hlk : k < xs.length
          · obtain ⟨b2, o2, rfl, hbB2, hx2⟩ := h2 (by show 0 < xs.length; omega)
            have hck2 : w1.cell? ⟨b2, o2 + k, none⟩ = some (.int .i64 xs[k]) := (hbe.cell (p := ⟨b2, o2 + k, none⟩) hbB2).trans (hx2 k hlk)
            clear hx2 h2
            by_cases he : 0 ≤ xs[k] ∧ xs[k] ≤ 5
            · have HS := Lib.hid (hs.step (by simpa [hlk, constOk] using he))
              have HK := Lib.hid (l1In_yes he)
              clear hs he
              go_wp2_with (go_at_call 59; refine (HK.out _).mono ?_; rintro e w' ⟨rfl, rfl⟩)
              go_round
              case rel => exact ⟨k + 1, by omega, by go_num, HS.out⟩
              case measure => simp [intOf]; omega
            · have HE := Lib.hid (consts_not hlk (by simpa [constOk] using he))
              have HK := Lib.hid (l1In_no he)
              clear hs he
              go_wp2_with (go_at_call 59; refine (HK.out _).mono ?_; rintro e w' ⟨rfl, rfl⟩)
              go_ret
              exact ⟨ret_bool (by rw [H3.out, HE.out]), hbe⟩
          · have hkn : k = xs.length := by omega
            have HE := Lib.hid (show xs.all constOk = true from ConstsTo.all (by rw [← hkn]; exact hs))
            clear hkn hs h2
            go_wp2_with (fail)
            go_ret
            exact ⟨ret_bool (by rw [H3.out, HE.out]), hbe⟩
      · have hd3 : ((xs.length : Int) != ar[p]) = true := by simp [h3]
        have HE := Lib.hid (show factOk ar ((p : Int), xs) = false by simp [factOk, factFits, hlt, h3])
        clear h3 hx h
        go_enter Tryz.func37, Tryz.ntmps37
        go_wp2_with (fail)
        go_quiet (first | (go_at_call 36; exact Calls.quiet_of_same (HCA.out _ (bdrewN (below1 _ _) _))) | (go_at_call 59; exact quiet_left (HCL.out _)))
        go_wp2_with (fail)
        go_ret
        exact ⟨ret_bool HE.out.symm, bdrewN (below1 _ _) _⟩
    · have HCL := Lib.hid (l1In_no hp)
      have HE := Lib.hid (show factOk ar (pp, xs) = false by simp [factOk, factFits]; omega)
      clear hp
      go_enter Tryz.func37, Tryz.ntmps37
      go_wp2_with (fail)
      go_quiet (first | (go_at_call 36; exact Calls.quiet_of_same (HCA.out _ (bdrewN (below1 _ _) _))) | (go_at_call 59; exact quiet_left (HCL.out _)))
      go_wp2_with (fail)
      go_ret
      exact ⟨ret_bool HE.out.symm, bdrewN (below1 _ _) _⟩
  · have CA : ∀ W, Below w.heap.size w W → Calls Tryz.prog 36 #[.slice A ar.length c] W fun e w' => e = .returned (.bool false) ∧ w' = W := fun W hW =>
      (specArityOk_any _ ar W (H.out.on hW) (by omega)).mono fun e w' ⟨he, hw⟩ => ⟨by rw [he, show arityOk ar = false by simpa using ha], hw.symm⟩
    have HCA := Lib.hid CA
    have HE := Lib.hid (show factOk ar (pp, xs) = false by simp [factOk, ha])
    clear CA ha
    go_enter Tryz.func37, Tryz.ntmps37
    go_wp2_with (fail)
    go_quiet (first | (go_at_call 36; exact Calls.quiet_of_same (HCA.out _ (bdrewN (below1 _ _) _))))
    go_wp2_with (fail)
    go_ret
    exact ⟨ret_bool HE.out.symm, bdrewN (below1 _ _) _⟩

end Go.Proofs.YtcceololijefiaaGreatDoor
/-
  The walks of FactsOk: the program's and the specification's.
-/
namespace Go.Proofs.YtcceololijefiaaGreatDoor
open Go.RowKit

def roundOk (ar : List Int) (fs : List LFact) (k : Nat) : Bool := factFits ar (fs.getD k (0, [])) && (decide (k = 0) || decide (factOrder (fs.getD (k - 1) (0, [])) (fs.getD k (0, [])) < 0))
def factsOk (ar : List Int) (fs : List LFact) : Bool := arityOk ar && (List.range fs.length).all (roundOk ar fs)
def OkTo (ar : List Int) (fs : List LFact) (k : Nat) : Prop := (List.range k).all (roundOk ar fs) = true
theorem OkTo.step {ar : List Int} {fs : List LFact} {k : Nat} (h : OkTo ar fs k) (e : roundOk ar fs k = true) : OkTo ar fs (k + 1) := by
  unfold OkTo at h ⊢
  rw [List.range_succ, List.all_append, h]
  simp [e]
theorem round_not {ar : List Int} {fs : List LFact} {k : Nat} (hk : k < fs.length) (e : roundOk ar fs k = false) : factsOk ar fs = false := by
  unfold factsOk
  have : (List.range fs.length).all (roundOk ar fs) = false := by
    rw [List.all_eq_false]
    exact ⟨k, List.mem_range.2 hk, by simp [e]⟩
  rw [this, Bool.and_false]
theorem getD_at {α : Type} {l : List α} {k : Nat} (h : k < l.length) {d : α} : l.getD k d = l[k] := by simp [h]
theorem round_first {ar : List Int} {fs : List LFact} {k : Nat} (hk : k < fs.length) (h : factFits ar fs[k] = true) (h0 : k = 0) : roundOk ar fs k = true := by
  unfold roundOk
  rw [getD_at hk, h]
  simp [h0]
theorem round_next {ar : List Int} {fs : List LFact} {j : Nat} (hk : j + 1 < fs.length) (hj : j < fs.length) (h : factFits ar fs[j + 1] = true) : roundOk ar fs (j + 1) = decide (factOrder fs[j] fs[j + 1] < 0) := by
  unfold roundOk
  rw [getD_at hk, h, Nat.add_sub_cancel, getD_at hj]
  simp
theorem round_unfit {ar : List Int} {fs : List LFact} {k : Nat} (hk : k < fs.length) (h : factFits ar fs[k] = false) : roundOk ar fs k = false := by
  unfold roundOk
  rw [getD_at hk, h]
  simp
theorem later_fact {w0 : World} {v : Value} {f : LFact} (h : RdFact w0 w0.heap.size v f) (x : Later w0) : RdFact x.val x.val.heap.size v f := h.on x.2
theorem later_ints {w0 : World} {v : Value} {f : List Int} (h : RdInts w0 w0.heap.size v f) (x : Later w0) : RdInts x.val x.val.heap.size v f := h.on x.2

set_option maxHeartbeats 1000000 in
set_option maxRecDepth 100000 in
theorem specFactsOk_any (v v2 : Value) (ar : List Int) (fs : List LFact) (w : World) (h : RdInts w w.heap.size v ar) (h2 : RdFacts w w.heap.size v2 fs) (hr : ar.length ≤ 1048576) (hn : fs.length ≤ 1048576) (ht : tot fs ≤ 1048576) :
    Calls Tryz.prog 19 #[v, v2] w fun e w' => e = .returned (.bool (factsOk ar fs)) ∧ Below w.heap.size w w' := by
  have H := Lib.hid h
  have H2 := Lib.hid h2
  obtain ⟨A, c, rfl, hc, _⟩ := h
  obtain ⟨A2, c2, rfl, hc2, _⟩ := h2
  go_enter Tryz.func19, Tryz.ntmps19
  go_wp2_with (fail)
  go_loopw [5] (fun i wr => ∃ k : Nat, k ≤ fs.length ∧ i = .int .i64 k ∧ OkTo ar fs k ∧ Below w.heap.size w wr) (fun i _ => fs.length - (intOf i).toNat)
  case atStart => exact ⟨0, Nat.zero_le _, rfl, by simp [OkTo], Below.refl _ _⟩
  case round =>
    obtain ⟨k, hk, rfl, hs, hbe⟩ := hrel
    by_cases hlt : k < fs.length
    · obtain ⟨b, o, A3, c3, rfl, hbB, k1, k2, k3⟩ := (H2.out.on hbe).get hlt
      have K3 := Lib.hid (show RdFact wr wr.heap.size (.agg #[.int .i64 fs[k].1, .slice A3 fs[k].2.length c3]) fs[k] from ⟨_, rfl, k3⟩)
      have hln := len_le_tot fs k hlt
      have L1 := later_cell k1
      have L2 := later_cell k2
      clear k1 k2 k3
      by_cases hfo : factOk ar fs[k] = true
      · have CF := Lib.hid (fun x : Later wr => (specFactOk_any _ _ ar fs[k] x.val ((H.out.on hbe).on x.2) (K3.out.on x.2) hr (by omega)).mono fun e w' (hh : e = .returned (.bool (factOk ar fs[k])) ∧ Below x.val.heap.size x.val w') => (⟨by rw [hh.1, hfo], hh.2⟩ : e = .returned (.bool true) ∧ Below x.val.heap.size x.val w'))
        have hff : factFits ar fs[k] = true := by
          unfold factOk at hfo
          exact (Bool.and_eq_true _ _ ▸ hfo).2
        have HA := Lib.hid (show arityOk ar = true by
          unfold factOk at hfo
          exact (Bool.and_eq_true _ _ ▸ hfo).1)
        clear hfo
        rcases Nat.eq_zero_or_pos k with hk0 | hk0
        · have hd : decide (0 < k) = false := by simp [hk0]
          have HS := Lib.hid (hs.step (round_first hlt hff hk0) : OkTo ar fs (k + 1))
          clear hs hk0 hff
          go_wp2_with (fail)
          refine wp_region_later (by kernel_rfl) (by kernel_rfl) ?_
          repeat (go_big_quiet_step ((go_at_call 37; exact later_of (CF.out _))))
          refine wpQuiet_nil ?_
          rintro _ ⟨xq, rfl⟩
          go_wp2_with (fail)
          go_roundw
          case rel => exact ⟨k + 1, by omega, by go_num, HS.out, bthen hbe xq.2⟩
          case measure => simp [intOf]; omega
        · obtain ⟨j, rfl⟩ : ∃ j, k = j + 1 := ⟨k - 1, by omega⟩
          have hltj : j < fs.length := by omega
          obtain ⟨b', o', A4, c4, e4, hbB', m1, m2, m3⟩ := (H2.out.on hbe).get hltj
          simp only [Option.some.injEq, Addr.mk.injEq, and_true] at e4
          obtain ⟨rfl, rfl⟩ := e4
          have K4 := Lib.hid (show RdFact wr wr.heap.size (.agg #[.int .i64 fs[j].1, .slice A4 fs[j].2.length c4]) fs[j] from ⟨_, rfl, m3⟩)
          have hlnj := len_le_tot fs j hltj
          have M1 := later_cell m1
          have M2 := later_cell m2
          have CO := Lib.hid (fun x : Later wr => specFactOrder_any _ _ fs[j] fs[j + 1] x.val (K4.out.on x.2) (K3.out.on x.2) (by omega) (by omega))
          clear m1 m2 m3
          by_cases hlo : factOrder fs[j] fs[j + 1] < 0
          · have hd : decide (0 ≤ factOrder fs[j] fs[j + 1]) = false := by simp; omega
            have HS := Lib.hid (hs.step (by rw [round_next hlt hltj hff]; simp [hlo]) : OkTo ar fs (j + 1 + 1))
            clear hs hff
            go_wp2_with (fail)
            refine wp_region_later (by kernel_rfl) (by kernel_rfl) ?_
            repeat (go_big_quiet_step (first | (go_at_call 37; exact later_of (CF.out _)) | (go_at_call 38; exact later_of (CO.out _))))
            refine wpQuiet_nil ?_
            rintro _ ⟨xq, rfl⟩
            go_wp2_with (fail)
            go_roundw
            case rel => exact ⟨j + 1 + 1, by omega, by go_num, HS.out, bthen hbe xq.2⟩
            case measure => simp [intOf]; omega
          · have hd : decide (0 ≤ factOrder fs[j] fs[j + 1]) = true := by simp; omega
            have HE := Lib.hid (show factsOk ar fs = false from round_not hlt (by rw [round_next hlt hltj hff]; simp [hlo]))
            clear hs hff
            go_wp2_with (fail)
            refine wp_region_later (by kernel_rfl) (by kernel_rfl) ?_
            repeat (go_big_quiet_step (first | (go_at_call 37; exact later_of (CF.out _)) | (go_at_call 38; exact later_of (CO.out _))))
            refine wpQuiet_nil ?_
            rintro _ ⟨xq, rfl⟩
            go_wp2_with (fail)
            go_ret
            exact ⟨ret_bool HE.out.symm, bthen hbe xq.2⟩
      · have CF := Lib.hid (fun x : Later wr => (specFactOk_any _ _ ar fs[k] x.val ((H.out.on hbe).on x.2) (K3.out.on x.2) hr (by omega)).mono fun e w' (hh : e = .returned (.bool (factOk ar fs[k])) ∧ Below x.val.heap.size x.val w') => (⟨by rw [hh.1, show factOk ar fs[k] = false by simpa using hfo], hh.2⟩ : e = .returned (.bool false) ∧ Below x.val.heap.size x.val w'))
        have HE := Lib.hid (show factsOk ar fs = false by
          by_cases ha : arityOk ar = true
          · exact round_not hlt (round_unfit hlt (by simpa [factOk, ha] using hfo))
          · simp [factsOk, ha])
        clear hs hfo
        go_wp2_with (fail)
        refine wp_region_later (by kernel_rfl) (by kernel_rfl) ?_
        repeat (go_big_quiet_step ((go_at_call 37; exact later_of (CF.out _))))
        refine wpQuiet_nil ?_
        rintro _ ⟨xq, rfl⟩
        go_wp2_with (fail)
        go_ret
        exact ⟨ret_bool HE.out.symm, bthen hbe xq.2⟩
    · have hkn : k = fs.length := by omega
      have HE := Lib.hid (show factsOk ar fs = arityOk ar by unfold factsOk; unfold OkTo at hs; rw [← hkn, hs, Bool.and_true])
      clear hkn hs
      go_wp2_with (fail)
      refine (specArityOk_any _ ar _ (H.out.on hbe) (by omega)).mono ?_
      rintro e w2 ⟨rfl, rfl⟩
      go_wp2_with (fail)
      go_ret
      exact ⟨ret_bool HE.out.symm, hbe⟩

end Go.Proofs.YtcceololijefiaaGreatDoor
/-
  The specification's l1Pick, FactsBoth and FactsLess.
-/
namespace Go.Proofs.YtcceololijefiaaGreatDoor
open Go.RowKit

theorem filter_tot_le (p : LFact → Bool) : ∀ l : List LFact, tot (l.filter p) ≤ tot l
  | [] => by simp [tot]
  | f :: l => by
    have := filter_tot_le p l
    by_cases h : p f = true <;> simp [h, tot_cons] <;> omega

/-- The facts of a list that another has, or has not. -/
def pickL (xs ys : List LFact) (b : Bool) : List LFact := setOf (xs.filter fun f => factsHas ys f == b)
theorem pickL_bound (xs ys : List LFact) (b : Bool) : (pickL xs ys b).length ≤ xs.length ∧ tot (pickL xs ys b) ≤ tot xs := by
  have h := setOf_bound (xs.filter fun f => factsHas ys f == b)
  have h1 := List.length_filter_le (fun f => factsHas ys f == b) xs
  have h2 := filter_tot_le (fun f => factsHas ys f == b) xs
  unfold pickL
  omega
theorem pickL_yes {xs ys : List LFact} {b : Bool} {k : Nat} (h : k < xs.length) (e : factsHas ys xs[k] = b) : pickL (xs.take (k + 1)) ys b = factsWith (pickL (xs.take k) ys b) xs[k] := by
  unfold pickL
  rw [take_snoc xs k h, List.filter_append, ← setOf_snoc]
  simp [e]
theorem pickL_no {xs ys : List LFact} {b : Bool} {k : Nat} (h : k < xs.length) (e : factsHas ys xs[k] ≠ b) : pickL (xs.take (k + 1)) ys b = pickL (xs.take k) ys b := by
  unfold pickL
  rw [take_snoc xs k h, List.filter_append]
  simp [e]

end Go.Proofs.YtcceololijefiaaGreatDoor
/-
  The specification's Consequences and Closed.
-/
namespace Go.Proofs.YtcceololijefiaaGreatDoor
open Go.RowKit

/-- The heads that follow. -/
def consL (p : LProg) (fs : List LFact) : List LFact := if progOk p && factsOk p.1 fs then headsAll p.2 fs else []
def closedL (p : LProg) (fs : List LFact) : Bool := progOk p && (factsOk p.1 fs && decide ((pickL (headsAll p.2 fs) fs false).length = 0))

theorem factsOk_parts {ar : List Int} {fs : List LFact} (h : factsOk ar fs = true) : arityOk ar = true ∧ (∀ f ∈ fs, factFits ar f = true) ∧ Asc fs := by
  simp only [factsOk, Bool.and_eq_true, List.all_eq_true, List.mem_range] at h
  obtain ⟨h1, h2⟩ := h
  refine ⟨h1, fun f hf => ?_, ?_⟩
  · obtain ⟨k, hk, rfl⟩ := List.getElem_of_mem hf
    have := h2 k hk
    unfold roundOk at this
    rw [getD_at hk, Bool.and_eq_true] at this
    exact this.1
  · have hs : ∀ k (h0 : k + 1 < fs.length), factOrder (fs[k]'(by omega)) fs[k + 1] < 0 := fun k h0 => by
      have := h2 (k + 1) h0
      unfold roundOk at this
      rw [getD_at h0, Nat.add_sub_cancel, getD_at (show k < fs.length by omega), Bool.and_eq_true] at this
      simpa using this.2
    have hd : ∀ d k (h0 : k + d + 1 < fs.length), factOrder (fs[k]'(by omega)) fs[k + d + 1] < 0 := fun d => by
      induction d with
      | zero => intro k h0; exact hs k h0
      | succ d ih =>
        intro k h0
        exact order_less (ih k (by omega)) (hs (k + d + 1) h0)
    unfold Asc
    rw [List.pairwise_iff_getElem]
    intro i j hi hj hij
    obtain ⟨d, rfl⟩ : ∃ d, j = i + d + 1 := ⟨j - i - 1, by omega⟩
    exact hd d i hj
theorem prog_parts {p : LProg} (h : progOk p = true) : arityOk p.1 = true ∧ p.2.length ≤ 60 ∧ ∀ r ∈ p.2, ruleFits p.1 r = true := by
  simp only [progOk, Bool.and_eq_true, decide_eq_true_eq, List.all_eq_true] at h
  exact ⟨h.1, h.2.1, h.2.2⟩

end Go.Proofs.YtcceololijefiaaGreatDoor
/-
  The heads of a rule by its solutions: plain mathematics.
-/
namespace Go.Proofs.YtcceololijefiaaGreatDoor
open Go.RowKit

theorem safeTo_or {a b y : Nat} (h : safeTo (a ||| b) y 4 = true) : safeTo b y 4 = true := by
  rw [safeTo_iff] at h ⊢
  intro v hv hb
  exact h v hv (by rw [Nat.testBit_or, hb, Bool.or_true])
/-- A rule that fits has a body that can be asked. -/
theorem fits_body {ar : List Int} {r : LRule} (h : ruleFits ar r = true) : bodySafe r.2 = true := by
  simp only [ruleFits, Bool.and_eq_true, decide_eq_true_eq] at h
  obtain ⟨_, h4, hl, hs⟩ := h
  unfold bodySafe
  rw [Bool.and_eq_true, Bool.and_eq_true, decide_eq_true_eq, List.all_eq_true]
  refine ⟨⟨fun l hm => ?_, h4⟩, ?_⟩
  · have hf := List.all_eq_true.1 hl l hm
    refine litFine_yes ?_ (lit_terms hf)
    unfold litFits at hf
    split at hf
    · omega
    · split at hf
      · omega
      · cases hf
  · rw [ruleSafe_eq] at hs ⊢
    rw [ruleMask_body]
    exact safeTo_or hs
/-- The variables of the head stand in an atom that is to hold. -/
theorem fits_head {ar : List Int} {r : LRule} (h : ruleFits ar r = true) : ∀ v, v < 4 → (maskOf r.1.2).testBit v = true → ∃ l ∈ r.2, l.1 = 0 ∧ (maskOf l.2.2).testBit v = true := by
  simp only [ruleFits, Bool.and_eq_true, decide_eq_true_eq] at h
  obtain ⟨_, _, _, hs⟩ := h
  rw [ruleSafe_eq, safeTo_iff] at hs
  intro v hv hm
  have := hs v hv (by unfold ruleMask; rw [Nat.testBit_or, hm, Bool.true_or])
  unfold yesMask at this
  rw [yesMask_bit] at this
  simpa using this
/-- A solution makes a head. -/
theorem sols_head {ar : List Int} {r : LRule} {fs : List LFact} {S : List (List Int)} (h : ruleFits ar r = true) (hS : IsSols (questL fs r.2) S) : ∀ b ∈ S, headOk r.1 b = true := by
  intro b hb
  obtain ⟨h1, h2, _⟩ := (hS.2 b).1 hb
  have hf := h
  simp only [ruleFits, atomFits, Bool.and_eq_true, decide_eq_true_eq] at hf
  refine headOk_yes h1 hf.1.2 (List.all_eq_true.2 fun x hx => ?_)
  obtain ⟨t, ht, rfl⟩ := List.mem_map.1 hx
  have htk : termOk t = true := List.all_eq_true.1 hf.1.2 t ht
  have hbd := termVal_bounds h1 htk
  rcases term_cases htk with h' | ⟨v, hv, rfl⟩
  · rw [termVal_const h'.1]
    simp [constOk]
    exact h'
  · have hm : (maskOf r.1.2).testBit v = true := by unfold maskOf; rw [maskFrom_bit hv]; exact .inr ht
    obtain ⟨l, hl, _, hlm⟩ := fits_head h v hv hm
    have hne := (h2 v hv).2 ⟨(l, fs), List.mem_map.2 ⟨l, hl, rfl⟩, hlm⟩
    rw [termVal_v] at hbd ⊢
    unfold constOk
    exact decide_eq_true (by omega)
theorem headsTo_mem (a : LFact) (S : List (List Int)) (f : LFact) : ∀ k, k ≤ S.length → (f ∈ headsTo a S k ↔ ∃ b ∈ S.take k, headOk a b = true ∧ f = headOf a b)
  | 0, _ => by simp [headsTo]
  | k + 1, hk => by
    have ih := headsTo_mem a S f k (by omega)
    have hlt : k < S.length := by omega
    rw [take_snoc S k hlt]
    cases e : headOk a S[k]
    · rw [headsTo_no hlt e, ih]
      constructor
      · rintro ⟨b, hb, h⟩; exact ⟨b, List.mem_append_left _ hb, h⟩
      · rintro ⟨b, hb, h⟩
        rcases List.mem_append.1 hb with hb | hb
        · exact ⟨b, hb, h⟩
        · obtain rfl : b = S[k] := by simpa using hb
          rw [e] at h; cases h.1
    · rw [headsTo_yes hlt e, factsWith_mem, ih]
      constructor
      · rintro (⟨b, hb, h⟩ | rfl)
        · exact ⟨b, List.mem_append_left _ hb, h⟩
        · exact ⟨S[k], List.mem_append_right _ (List.mem_singleton_self _), e, rfl⟩
      · rintro ⟨b, hb, h⟩
        rcases List.mem_append.1 hb with hb | hb
        · exact .inl ⟨b, hb, h⟩
        · obtain rfl : b = S[k] := by simpa using hb
          exact .inr h.2
/-- The heads, by whatever list of the solutions. -/
theorem headsL_mem {ar : List Int} {r : LRule} {fs : List LFact} {S : List (List Int)} (h : ruleFits ar r = true) (hS : IsSols (questL fs r.2) S) (hc : ∀ f ∈ fs, f.2.all constOk = true) (hn : fs.Nodup) (f : LFact) :
    f ∈ headsL r fs ↔ ∃ b ∈ S, f = (r.1.1, r.1.2.map (termVal b)) := by
  obtain ⟨_, h2⟩ := solsOf_is (fs := fs) (gs := fs) (SafeB.of (fits_body h)) hc hn (fun _ => Iff.rfl)
  unfold headsL
  rw [headsTo_mem _ _ _ _ (Nat.le_refl _), List.take_length]
  constructor
  · rintro ⟨b, hb, e, rfl⟩
    exact ⟨b, (hS.2 b).2 ((h2.2 b).1 hb), headOf_yes e⟩
  · rintro ⟨b, hb, rfl⟩
    have e := sols_head h hS b hb
    exact ⟨b, (h2.2 b).2 ((hS.2 b).1 hb), e, (headOf_yes e).symm⟩

end Go.Proofs.YtcceololijefiaaGreatDoor
/-
  Tables of facts: a word for each predicate.
-/
namespace Go.Proofs.YtcceololijefiaaGreatDoor
open Go.RowKit

/-- The words of a table, with one fact more. -/
def setBit (T : List Nat) (p n : Nat) : List Nat := T.set p (T.getD p 0 ||| 2 ^ n)
def tabCells (T : List Nat) : Array Value := (T.map fun x => Value.int .u64 ((x : Nat) : Int)).toArray
/-- A table stands in block g. -/
def TabAt (w : World) (g : Nat) (T : List Nat) : Prop := Blk w g 55 (tabCells T) ∧ T.length = 24 ∧ ∀ x ∈ T, x < 18446744073709551616
theorem TabAt.cell {w : World} {g p : Nat} {T : List Nat} (h : TabAt w g T) (hp : p < 24) : w.cell? ⟨g, p, none⟩ = some (.int .u64 ((T.getD p 0 : Nat) : Int)) := by
  rw [h.1.cell p]
  have : p < T.length := by rw [h.2.1]; exact hp
  simp [tabCells, this]
theorem TabAt.lt {w : World} {g p : Nat} {T : List Nat} (h : TabAt w g T) : T.getD p 0 < 18446744073709551616 := by
  by_cases hp : p < T.length
  · have : T.getD p 0 = T[p] := by simp [hp]
    rw [this]
    exact h.2.2 _ (List.getElem_mem hp)
  · simp [List.getD_eq_getElem?_getD, List.getElem?_eq_none (by omega : T.length ≤ p)]
theorem TabAt.set {w : World} {g p n : Nat} {T : List Nat} (h : TabAt w g T) (hn : n < 64) : TabAt (w.setCell ⟨g, p, none⟩ (.int .u64 ((T.getD p 0 ||| 2 ^ n : Nat) : Int))) g (setBit T p n) := by
  have hlt := h.lt (p := p)
  obtain ⟨h1, h2, h3⟩ := h
  refine ⟨?_, by simp [setBit, h2], fun x hx => ?_⟩
  · have := h1.set_ p (.int .u64 ((T.getD p 0 ||| 2 ^ n : Nat) : Int))
    have e : tabCells (setBit T p n) = (tabCells T).setIfInBounds p (.int .u64 ((T.getD p 0 ||| 2 ^ n : Nat) : Int)) := by
      unfold tabCells setBit
      rw [List.map_set]
      simp
    rw [e]
    exact this
  · rcases List.mem_or_eq_of_mem_set hx with h4 | rfl
    · exact h3 x h4
    · exact Nat.or_lt_two_pow (n := 64) hlt (Nat.pow_lt_pow_right (by decide) hn)

set_option maxHeartbeats 1000000 in
set_option maxRecDepth 100000 in
theorem add_any (g p n : Nat) (T : List Nat) (w : World) (h : TabAt w g T) (hp : p < 24) (hn : n < 64) :
    Calls Tryz.prog 48 #[.pointer (some ⟨g, 0, none⟩), .int .i64 p, .int .i64 n] w fun e w' =>
      e = .returned (.bool (!(T.getD p 0).testBit n)) ∧ TabAt w' g (setBit T p n) ∧ Only g (g + 1) w w' := by
  have hc := h.cell hp
  have hf := h.1.frozen p
  have HS := Lib.hid (show ∀ W, W.heap[g]? = w.heap[g]? → TabAt W g T from fun W hW => ⟨hW.trans h.1, h.2⟩)
  have hlt := h.lt (p := p)
  have HL := Lib.hid h.1.lt
  clear h
  obtain ⟨x, hx⟩ : ∃ x, x = T.getD p 0 := ⟨_, rfl⟩
  obtain ⟨m, hm⟩ : ∃ m, m = 2 ^ n := ⟨_, rfl⟩
  have hml : m < 18446744073709551616 := by rw [hm]; exact Nat.pow_lt_pow_right (by decide) hn
  have hwr : IntKind.u64.wrap (2 ^ n) = (m : Int) := by
    have e : ((2 : Int) ^ n) = ((m : Nat) : Int) := by rw [hm]; simp
    rw [e]
    unfold IntKind.wrap
    simp [IntKind.bits, IntKind.signed] <;> omega
  rw [← hx] at hc hlt ⊢
  have hand : (bits .and .u64 (x : Int) (m : Int) == 0) = !(x.testBit n) := by
    rw [u64_and_nat x m hlt hml, hm]
    cases ht : x.testBit n
    · have : x &&& 2 ^ n = 0 := by
        apply Nat.eq_of_testBit_eq
        intro i
        rw [Nat.testBit_and, Nat.testBit_two_pow, Nat.zero_testBit]
        by_cases e : n = i
        · subst e; rw [ht]; rfl
        · simp [e]
      rw [this]
      rfl
    · have : x &&& 2 ^ n ≠ 0 := fun e => by
        have := congrArg (fun y => y.testBit n) e
        simp [Nat.testBit_and, ht] at this
      have h2 : ((x &&& 2 ^ n : Nat) : Int) ≠ 0 := by omega
      simpa using h2
  have hor : bits .or .u64 (x : Int) (m : Int) = ((x ||| m : Nat) : Int) := u64_or_nat x m hlt hml
  have HM := Lib.hid (And.intro hx hm)
  clear hx hm hml hlt
  go_enter Tryz.func48, Tryz.ntmps48
  go_upto_region 3 with fail
  have hc2 : w.drew.cell? ⟨g, p, none⟩ = some (.int .u64 ((x : Nat) : Int)) := hc
  have hpi : (p : Int) < 24 := by omega
  have hf2 : w.drew.frozen? ⟨g, p, none⟩ = false := hf
  go_region_law (fail)
  go_wp2_with fail
  go_ret
  obtain ⟨rfl, rfl⟩ := HM.out
  have hset := (HS.out w rfl).set (p := p) hn
  have ho : Only g (g + 1) w (w.setCell ⟨g, p, none⟩ (.int .u64 ((T.getD p 0 ||| 2 ^ n : Nat) : Int))) := (Only.refl g (g + 1) w).setCell ⟨Nat.le_refl g, Nat.lt_succ_self g⟩ _
  exact ⟨rfl, hset, ho.trans (Only.of_below (bdrewN (Below.refl _ _) 1))⟩

end Go.Proofs.YtcceololijefiaaGreatDoor
/-
  A table of facts is filled: constantsNumber, addAll.
-/
namespace Go.Proofs.YtcceololijefiaaGreatDoor
open Go.RowKit

/-- The number of which constants are the digits. -/
def numF (xs : List Int) : Nat := xs.foldl (fun n c => n * 6 + c.toNat) 0
theorem numF_take {xs : List Int} {k : Nat} (h : k < xs.length) : numF (xs.take (k + 1)) = numF (xs.take k) * 6 + xs[k].toNat := by
  unfold numF
  rw [take_snoc xs k h, List.foldl_append]
  rfl
theorem numF_lt {xs : List Int} (hc : xs.all constOk = true) : ∀ k, k ≤ xs.length → numF (xs.take k) < 6 ^ k
  | 0, _ => by simp [numF]
  | k + 1, hk => by
    have ih := numF_lt hc k (by omega)
    rw [numF_take (by omega), Nat.pow_succ]
    have : 0 ≤ xs[k] ∧ xs[k] ≤ 5 := by simpa [constOk] using List.all_eq_true.1 hc _ (List.getElem_mem (show k < xs.length by omega))
    omega

set_option maxHeartbeats 1000000 in
set_option maxRecDepth 100000 in
theorem number_any (v : Value) (bs xs : List Int) (hb : bindOk bs = true) (ht : xs.all termOk = true) (B : Nat) (w : World) (h : RdInts w B v xs) (hc : (xs.map (termVal bs)).all constOk = true) (hl : xs.length ≤ 2) :
    Calls Tryz.prog 49 #[.int .u32 (encB bs : Nat), v] w fun e w' => e = .returned (.int .i64 (numF (xs.map (termVal bs)) : Nat)) ∧ w = w' := by
  obtain ⟨A, c, rfl, hcc, ha⟩ := h
  obtain ⟨ys, hys⟩ : ∃ ys, ys = xs.map (termVal bs) := ⟨_, rfl⟩
  rw [← hys] at hc ⊢
  have hyl : ys.length = xs.length := by rw [hys]; simp
  have HYL := Lib.hid hyl
  have HC := Lib.hid hc
  have HY := Lib.hid hys
  have HT := Lib.hid ht
  have HV := Lib.hid (fun t ht => value_any bs hb t ht)
  generalize encB bs = m at HV
  clear hc hys ht hyl
  go_enter Tryz.func49, Tryz.ntmps49
  go_wp2_with fail
  go_loopw [5, 10] (fun m i wr => ∃ (k n : Nat), k ≤ xs.length ∧ i = .int .i64 k ∧ m = .int .i64 n ∧ n = numF (ys.take k) ∧ wr = w) (fun _ i _ => xs.length - (intOf i).toNat)
  case atStart => exact ⟨0, 0, by simp [numF]⟩
  case round =>
    obtain ⟨k, n, hk, rfl, rfl, hn, rfl⟩ := hrel
    by_cases hlt : k < xs.length
    · obtain ⟨b, o, rfl, hbB, hx⟩ := ha (by omega)
      have hck : wr.cell? ⟨b, o + k, none⟩ = some (.int .i64 xs[k]) := hx k hlt
      have hlt2 : k < ys.length := by rw [HYL.out]; exact hlt
      have hb2 : 0 ≤ ys[k] ∧ ys[k] ≤ 5 := by simpa [constOk] using List.all_eq_true.1 HC.out _ (List.getElem_mem hlt2)
      have hn6 : n < 36 := by
        have := numF_lt HC.out k (by omega)
        have h2 : (6 : Nat) ^ k ≤ 6 ^ 2 := Nat.pow_le_pow_right (by decide) (by omega)
        rw [hn]
        omega
      obtain ⟨x, hx2⟩ : ∃ x : Nat, ys[k] = (x : Int) := ⟨ys[k].toNat, by omega⟩
      have HN := Lib.hid (show numF (ys.take (k + 1)) = n * 6 + x by rw [numF_take hlt2, hn, hx2]; rfl)
      have hxl : x ≤ 5 := by omega
      have HV2 := Lib.hid (HV.out xs[k] (List.all_eq_true.1 HT.out _ (List.getElem_mem hlt)))
      have hvx : termVal bs xs[k] = (x : Int) := by rw [← hx2]; simp only [HY.out, List.getElem_map]
      rw [hvx] at HV2
      clear hx hx2 hb2 hn hvx
      go_wp2_with (go_at_call 74; refine (HV2.out _).mono ?_; rintro e w' ⟨rfl, rfl⟩)
      go_roundw
      case rel => exact ⟨k + 1, n * 6 + x, by omega, by go_num, by go_num, HN.out.symm, by first | trivial | rfl⟩
      case measure => simp [intOf]; omega
    · have HE := Lib.hid (show n = numF ys by rw [hn, show k = ys.length by have := HYL.out; omega, List.take_length])
      clear hn ha
      go_wp2_with fail
      go_ret
      exact ⟨ret_int (by rw [HE.out]), rfl⟩

/-- The facts of a table's predicates. -/
def TabFact (f : LFact) : Prop := 0 ≤ f.1 ∧ f.1 < 24 ∧ f.2.all constOk = true ∧ f.2.length ≤ 2
def tabWith (T : List Nat) (fs : List LFact) : List Nat := fs.foldl (fun T f => setBit T f.1.toNat (numF f.2)) T
theorem tabWith_take {T : List Nat} {fs : List LFact} {k : Nat} (h : k < fs.length) : tabWith T (fs.take (k + 1)) = setBit (tabWith T (fs.take k)) fs[k].1.toNat (numF fs[k].2) := by
  unfold tabWith
  rw [take_snoc fs k h, List.foldl_append]
  rfl
theorem TabAt.below {w w' : World} {g B : Nat} {T : List Nat} (h : TabAt w g T) (hb : Below B w w') (hg : g < B) : TabAt w' g T := ⟨h.1.below hb hg, h.2⟩
theorem TabAt.only {w w' : World} {g lo hi : Nat} {T : List Nat} (h : TabAt w g T) (ho : Only lo hi w w') (hg : g < lo ∨ hi ≤ g) : TabAt w' g T := ⟨h.1.only ho hg, h.2⟩
theorem numF_64 {xs : List Int} (hc : xs.all constOk = true) (hl : xs.length ≤ 2) : numF xs < 64 := by
  have := numF_lt hc xs.length (Nat.le_refl _)
  rw [List.take_length] at this
  have h2 : (6 : Nat) ^ xs.length ≤ 6 ^ 2 := Nat.pow_le_pow_right (by decide) hl
  omega

end Go.Proofs.YtcceololijefiaaGreatDoor
/-
  The walk of Solutions.
-/
namespace Go.Proofs.YtcceololijefiaaGreatDoor
open Go.RowKit

/-- A row of slices that make laid and a loop fills: k of them stand. -/
structure FillS (g n : Nat) (wr : World) (xss : List (List Int)) (av : List Value) : Prop where
  args : OwnArgs wr (g + 1) wr.heap.size av xss
  row : ∃ cur, wr.heap[g]? = some (.cells cur 22 (0, 0)) ∧ cur.size = n ∧ cur.toList.take xss.length = av
theorem FillS.start (w : World) (cs : Array Value) (n : Nat) (h : cs.size = n) : FillS w.heap.size n (w.alloc (.cells cs 22)) [] [] :=
  ⟨OwnArgs.nil, cs, heap_alloc_new w _, h, by simp⟩
theorem FillS.lt {g n : Nat} {wr : World} {xss : List (List Int)} {av : List Value} (h : FillS g n wr xss av) : g < wr.heap.size := by
  obtain ⟨_, cur, hg, _⟩ := h
  exact Blk.lt hg
theorem FillS.on {g n : Nat} {wr w4 : World} {xss : List (List Int)} {av : List Value} (h : FillS g n wr xss av) (hb : Below wr.heap.size wr w4) : FillS g n w4 xss av := by
  have hlt := h.lt
  obtain ⟨ha, cur, hg, h1, h2⟩ := h
  exact ⟨(ha.below hb (Nat.le_refl _)).mono (Nat.le_refl _) hb.size, cur, (hb.block g hlt).trans hg, h1, h2⟩
theorem FillS.free {g n : Nat} {wr : World} {xss : List (List Int)} {av : List Value} (h : FillS g n wr xss av) {k : Nat} (hk : k < n) : (∃ x, wr.cell? ⟨g, k, none⟩ = some x) ∧ wr.frozen? ⟨g, k, none⟩ = false := by
  obtain ⟨_, cur, hg, h1, _⟩ := h
  exact ⟨⟨cur[k]'(by omega), by rw [Blk.cell hg, Array.getElem?_eq_getElem]⟩, Blk.frozen hg k⟩
theorem FillS.step {g n k : Nat} {wr w4 : World} {xss : List (List Int)} {xs : List Int} {av : List Value} {u : Value} (h : FillS g n wr xss av) (hk : xss.length = k) (hkn : k < n) (hb : Below wr.heap.size wr w4) (hu : OwnInts w4 wr.heap.size w4.heap.size u xs) :
    FillS g n (w4.setCell ⟨g, k, none⟩ u) (xss ++ [xs]) (av ++ [u]) := by
  have hlt := h.lt
  have hl := h.args.len
  have h4 := (h.args.below hb (Nat.le_refl _)).snoc hu (by omega) hb.size
  obtain ⟨_, cur, hg, h1, h2⟩ := h
  have hg4 : Blk w4 g 22 cur := (hb.block g hlt).trans hg
  refine ⟨by simpa using h4.set (p := ⟨g, k, none⟩) (.inl (Nat.lt_succ_self g)) u, _, hg4.set_ k u, by simpa using h1, ?_⟩
  have hlen : (xss ++ [xs]).length = k + 1 := by simp [hk]
  rw [hlen, Array.toList_setIfInBounds]
  rw [hk] at h2
  apply List.ext_getElem?
  intro j
  by_cases hj : j < k
  · rw [List.getElem?_take_of_lt (by omega), List.getElem?_set_ne (by omega), List.getElem?_append_left (by omega), ← h2, List.getElem?_take_of_lt hj]
  · by_cases hj2 : j = k
    · subst hj2
      rw [List.getElem?_take_of_lt (by omega), List.getElem?_set_self (by simp; omega), List.getElem?_append_right (by omega)]
      simp [hl, hk]
    · rw [List.getElem?_eq_none (by simp; omega), List.getElem?_eq_none (by simp; omega)]
theorem FillS.done {g n : Nat} {wr : World} {xss : List (List Int)} {av : List Value} (h : FillS g n wr xss av) (hn : xss.length = n) (hm : n ≤ maxLen) : OwnRows wr g wr.heap.size (.slice (some ⟨g, 0, none⟩) xss.length n) xss := by
  have hlt := h.lt
  have hl := h.args.len
  obtain ⟨ha, cur, hg, h1, h2⟩ := h
  exact ⟨av, ha.mono (by omega) (Nat.le_refl _), ⟨by omega, .inr ⟨g, n, cur, rfl, Nat.le_refl _, hg, by omega, hm, by omega, by rw [Nat.mul_one]; exact h2⟩⟩, fun g' hg' => by simp [Value.ownBlock] at hg'; omega⟩

theorem OwnRows.nil (w : World) (lo hi : Nat) : OwnRows w lo hi (.slice none 0 0) [] := ⟨[], OwnArgs.nil, World.ownsRow_nil _ _ _ _, fun g hg => by cases hg⟩

end Go.Proofs.YtcceololijefiaaGreatDoor
/-
  The walk of headsIn.
-/
namespace Go.Proofs.YtcceololijefiaaGreatDoor
open Go.RowKit

def zeroT : List Nat := List.replicate 24 0
def hdOf (r : LRule) (b : List Int) : LFact := (r.1.1, r.1.2.map (termVal b))
theorem tabWith_snoc (T : List Nat) (fs : List LFact) (f : LFact) : tabWith T (fs ++ [f]) = setBit (tabWith T fs) f.1.toNat (numF f.2) := by
  unfold tabWith
  rw [List.foldl_append]
  rfl
theorem TabAt.zero (w : World) : TabAt (w.alloc (Obj.cells (tabCells zeroT) 55)) w.heap.size zeroT :=
  ⟨Blk.new _ _ _, by simp [zeroT], fun x hx => by
    obtain ⟨_, rfl⟩ := List.mem_replicate.1 hx
    decide⟩

set_option maxHeartbeats 8000000 in
set_option maxRecDepth 100000 in
theorem headsIn_any (v v2 : Value) (ar : List Int) (rs : List LRule) (fs : List LFact) (w : World) (h : RdRules w w.heap.size v rs) (h2 : RdFacts w w.heap.size v2 fs) (har : arityOk ar = true) (hfit : ∀ r ∈ rs, ruleFits ar r = true) (hsz : totR rs ≤ 1048576) (hrl : rs.length ≤ 1048576)
    (hn : fs.length ≤ 1048576) (ht : tot fs ≤ 1048576) (hc : ∀ f ∈ fs, f.2.all constOk = true) (hnd : fs.Nodup) :
    Calls Tryz.prog 26 #[v, v2] w fun e w' => ∃ F, e = .returned (.agg (tabCells (tabWith zeroT F))) ∧ (∀ f, f ∈ F ↔ f ∈ headsAll rs fs) ∧ Below w.heap.size w w' := by
  have H := Lib.hid h
  have H2 := Lib.hid h2
  obtain ⟨A, c, rfl, hcA, _⟩ := h
  obtain ⟨A2, c2, rfl, hc2, _⟩ := h2
  have HFIT := Lib.hid hfit
  clear hfit
  go_enter Tryz.func26, Tryz.ntmps26
  go_upto_region 2 with fail
  obtain ⟨w0, hw0⟩ : ∃ w0, w0 = (w.alloc (Obj.cells (tabCells zeroT) 55)).alloc (Obj.cells (tabCells zeroT) 55) := ⟨_, rfl⟩
  obtain ⟨g, hg⟩ : ∃ g, g = w.heap.size + 1 := ⟨_, rfl⟩
  have T0 : TabAt w0 g zeroT := by rw [hw0, hg]; have := TabAt.zero (w.alloc (Obj.cells (tabCells zeroT) 55)); simpa using this
  have R0 : TabAt w0 w.heap.size zeroT := by rw [hw0]; exact (TabAt.zero w).below (below1 _ _) (by simp)
  have B0 : Below w.heap.size w w0 := by rw [hw0]; exact bthen (below1 _ _) (below1 _ _)
  rw [show ((w.alloc (Obj.cells #[Value.int IntKind.u64 0, Value.int IntKind.u64 0, Value.int IntKind.u64 0, Value.int IntKind.u64 0, Value.int IntKind.u64 0, Value.int IntKind.u64 0, Value.int IntKind.u64 0, Value.int IntKind.u64 0, Value.int IntKind.u64 0, Value.int IntKind.u64 0, Value.int IntKind.u64 0, Value.int IntKind.u64 0, Value.int IntKind.u64 0, Value.int IntKind.u64 0, Value.int IntKind.u64 0, Value.int IntKind.u64 0, Value.int IntKind.u64 0, Value.int IntKind.u64 0, Value.int IntKind.u64 0, Value.int IntKind.u64 0, Value.int IntKind.u64 0, Value.int IntKind.u64 0, Value.int IntKind.u64 0, Value.int IntKind.u64 0] 55)).alloc (Obj.cells #[Value.int IntKind.u64 0, Value.int IntKind.u64 0, Value.int IntKind.u64 0, Value.int IntKind.u64 0, Value.int IntKind.u64 0, Value.int IntKind.u64 0, Value.int IntKind.u64 0, Value.int IntKind.u64 0, Value.int IntKind.u64 0, Value.int IntKind.u64 0, Value.int IntKind.u64 0, Value.int IntKind.u64 0, Value.int IntKind.u64 0, Value.int IntKind.u64 0, Value.int IntKind.u64 0, Value.int IntKind.u64 0, Value.int IntKind.u64 0, Value.int IntKind.u64 0, Value.int IntKind.u64 0, Value.int IntKind.u64 0, Value.int IntKind.u64 0, Value.int IntKind.u64 0, Value.int IntKind.u64 0, Value.int IntKind.u64 0] 55)) = w0 from by rw [hw0]; rfl, show w.heap.size + 1 = g from hg.symm]
  have hgs : g < w0.heap.size := T0.1.lt
  have hgw : w.heap.size ≤ g := by omega
  have HT0 := Lib.hid T0
  have HR0 := Lib.hid R0
  have HGE := Lib.hid hg
  clear hw0 T0 R0 hg
  go_wp2_with fail
  go_loopw [12] (fun i wr => ∃ (k : Nat) (F : List LFact), k ≤ rs.length ∧ i = .int .i64 k ∧ TabAt wr g (tabWith zeroT F) ∧ (∀ f, f ∈ F ↔ f ∈ headsAll (rs.take k) fs) ∧ Only g (g + 1) w0 wr) (fun i _ => rs.length - (intOf i).toNat)
  case atStart => exact ⟨0, [], Nat.zero_le _, rfl, HT0.out, fun f => by simp [headsAll, setOf], Only.refl _ _ _⟩
  case round =>
    obtain ⟨k, F, hk, rfl, hat, hmem, hon⟩ := hrel
    have BW : Below w.heap.size w wr := Only.then_ B0 hon hgw
    have HON := Lib.hid hon
    have HMEM := Lib.hid hmem
    have hsz0 := hon.size
    by_cases hlt : k < rs.length
    · obtain ⟨b, o, u0, u1, u2, rfl, hbB, k0, k1, k2, rfl, q1, q2⟩ := (H.out.below BW (Nat.le_refl _)).get hlt
      have hwr : w.heap.size ≤ wr.heap.size := BW.size
      have Q1 := Lib.hid q1
      have Q2 := Lib.hid q2
      obtain ⟨A3, c3, rfl, _⟩ := q1
      obtain ⟨A4, c4, rfl, _⟩ := q2
      have hfk := HFIT.out _ (List.getElem_mem hlt)
      have HW := Lib.hid hfk
      have hparts := hfk
      simp only [ruleFits, atomFits, Bool.and_eq_true, decide_eq_true_eq] at hparts
      have HLE := Lib.hid (place_short har hparts.1.1)
      have HTM := Lib.hid hparts.1.2
      have HPR := Lib.hid (show 0 ≤ rs[k].1.1 ∧ rs[k].1.1 < 24 from by
        have : ar.length ≤ 24 := by simp only [arityOk, Bool.and_eq_true, decide_eq_true_eq] at har; exact har.1
        omega)
      have hsk := sz_le_totR rs k hlt
      unfold szR at hsk
      have HSF := Lib.hid (SafeB.of (fits_body hfk))
      have HQL := Lib.hid (show (questL fs rs[k].2).length = rs[k].2.length by simp [questL])
      have CQ := Lib.hid (fun W (hW : Below wr.heap.size wr W) => questionsOf_any (.slice A2 fs.length c2) (.slice A4 rs[k].2.length c4) fs rs[k].2 W (H2.out.on (bthen BW hW)) ((Q2.out.more hwr).on hW) (by omega))
      clear hparts hfk hon hmem
      go_upto_region 5 with fail
      obtain ⟨wv, hwv⟩ : ∃ wv, wv = wr.alloc (Obj.cells #[Value.int .i64 rs[k].1.1, Value.slice A3 rs[k].1.2.length c3, Value.slice A4 rs[k].2.length c4] 71) := ⟨_, rfl⟩
      have bv : Below wr.heap.size wr wv := by rw [hwv]; exact below1 _ _
      have X : Blk wv wr.heap.size 71 #[.int .i64 rs[k].1.1, .slice A3 rs[k].1.2.length c3, .slice A4 rs[k].2.length c4] := by rw [hwv]; exact Blk.new _ _ _
      rw [← hwv]
      have hvl := X.lt
      clear hwv k0 k1 k2
      have x2 : wv.cell? ⟨wr.heap.size, 2, none⟩ = some (.slice A4 rs[k].2.length c4) := X.cell 2
      have HQK := Lib.hid (HSF.out.qok hc hn ht (by omega))
      go_wp2_with (first
        | (go_at_call 47; refine (CQ.out _ bv).mono ?_; rintro e w3 ⟨g3, us, rfl, hg3, at3, rd3, hb3⟩
           have CS := solve_any g3 rs[k].2.length wv.heap.size us (questL fs rs[k].2) w3 at3 rd3 hg3 (by rw [HQL.out]; omega) HQK.out (HSF.out.quests fs)
           rw [HQL.out] at CS
           have HCS := Lib.hid CS
           have H3 := Lib.hid (And.intro hg3 hb3)
           clear CS hg3 at3 rd3 hb3)
        | (go_at_call 46; refine HCS.out.mono ?_; rintro e w4 ⟨A5, c5, S, rfl, own4, on4, is4⟩
           have H4 := Lib.hid (And.intro own4 (And.intro on4 is4))
           clear own4 on4 is4))
      obtain ⟨hg3, hb3⟩ := H3.out
      obtain ⟨own4, on4, is4⟩ := H4.out
      have hs3 := hb3.size
      have b34 : Below wv.heap.size wv w4 := Only.then_ hb3 on4 hg3
      have hl4 : S.length ≤ 65536 := binds_len is4.1 is4.ok
      have X4 := Lib.hid (X.below b34 hvl)
      have hgr : g + 1 ≤ wr.heap.size := hat.1.lt
      have T4 := Lib.hid (hat.below (bthen bv b34) hat.1.lt)
      have ON4 := Lib.hid (HON.out.trans (Only.of_below (bthen bv b34)))
      have OW4 := Lib.hid own4
      have IS4 := Lib.hid is4
      have B4 := Lib.hid (bthen bv b34)
      have hs4 := b34.size
      clear hg3 hb3 own4 on4 is4 H3 H4 HCS CQ x2 X b34 hat HQK
      obtain ⟨wo, rfl⟩ : ∃ wo, wo = wr := ⟨_, rfl⟩
      go_loopw [22] (fun i wr => ∃ q : Nat, q ≤ S.length ∧ i = .int .i64 q ∧ TabAt wr g (tabWith zeroT (F ++ (S.take q).map (hdOf rs[k]))) ∧ Only g (g + 1) w4 wr) (fun i _ => S.length - (intOf i).toNat)
      case atStart => exact ⟨0, Nat.zero_le _, rfl, by simpa using T4.out, Only.refl _ _ _⟩
      case round =>
        obtain ⟨q, hq, rfl, htx, honx⟩ := hrel
        have hsx := honx.size
        have hwx : w.heap.size ≤ wr.heap.size := by omega
        by_cases hltq : q < S.length
        · have hrd := (OW4.out.only honx (.inr (by omega))).rd
          obtain ⟨A7, c7, e7, _, hx⟩ := hrd
          injection e7 with e7 _ e8
          subst e7 e8
          obtain ⟨b7, o7, rfl, _, hx⟩ := hx (by omega)
          have hck : wr.cell? ⟨b7, o7 + q, none⟩ = some (.int .u32 ((encB S[q] : Nat) : Int)) := hx q hltq
          have HBK := Lib.hid (IS4.out.ok _ (List.getElem_mem hltq))
          have HCO := Lib.hid (show (rs[k].1.2.map (termVal S[q])).all constOk = true from by
            have := sols_head HW.out IS4.out _ (List.getElem_mem hltq)
            simp only [headOk, Bool.and_eq_true] at this
            exact this.2)
          have Xx := X4.out.only honx (.inr hgr)
          obtain ⟨p, hpe⟩ : ∃ p : Nat, rs[k].1.1 = (p : Int) := ⟨rs[k].1.1.toNat, by have := HPR.out; omega⟩
          have hp24 : p < 24 := by have := HPR.out; omega
          obtain ⟨n, hne⟩ : ∃ n, n = numF (rs[k].1.2.map (termVal S[q])) := ⟨_, rfl⟩
          have HNE := Lib.hid hne
          have hn64 : n < 64 := by rw [hne]; exact numF_64 HCO.out (by rw [List.length_map]; exact HLE.out)
          obtain ⟨T, hTe⟩ : ∃ T, T = tabWith zeroT (F ++ (S.take q).map (hdOf rs[k])) := ⟨_, rfl⟩
          have HTK := Lib.hid (show tabWith zeroT (F ++ (S.take (q + 1)).map (hdOf rs[k])) = setBit T p n from by
            rw [take_snoc S q hltq, List.map_append, ← List.append_assoc, List.map_singleton, tabWith_snoc, hTe, hne]
            show setBit _ rs[k].1.1.toNat _ = _
            rw [hpe]
            rfl)
          rw [← hTe] at htx
          have HTV := Lib.hid (show TabAt wr.drew g T from htx)
          have q0 : wr.cell? ⟨wo.heap.size, 0, none⟩ = some (.int .i64 p) := by rw [← hpe]; exact Xx.cell 0
          have q1 : wr.cell? ⟨wo.heap.size, 1, none⟩ = some (.slice A3 rs[k].1.2.length c3) := Xx.cell 1
          have RX := Lib.hid (show RdInts wr w.heap.size (.slice A3 rs[k].1.2.length c3) rs[k].1.2 from (Q1.out.below B4.out hwr).below (honx.below hgw (by omega)) (Nat.le_refl _))
          have HONX := Lib.hid (show Only g (g + 1) w4 wr.drew from honx.drew')
          clear hx htx honx hpe hne hTe Xx
          go_upto_region 8 with fail
          obtain ⟨SS, hSS⟩ : ∃ SS : World → Prop, SS = (fun W => Below wr.heap.size wr W ∧ W.cell? ⟨wo.heap.size, 0, none⟩ = some (.int .i64 p) ∧ W.cell? ⟨wo.heap.size, 1, none⟩ = some (.slice A3 rs[k].1.2.length c3)) := ⟨_, rfl⟩
          have HB := Lib.hid (show ∀ W, SS W → (Below wr.heap.size wr W ∧ W.cell? ⟨wo.heap.size, 0, none⟩ = some (.int .i64 p) ∧ W.cell? ⟨wo.heap.size, 1, none⟩ = some (.slice A3 rs[k].1.2.length c3)) from by rw [hSS]; exact fun W hW => hW)
          have HS := Lib.hid (show ∀ W, Below wr.heap.size wr W → SS W from by
            rw [hSS]
            exact fun W hW => ⟨hW, (hW.cell (World.block_lt_of_cell? _ _ q0)).trans q0, (hW.cell (World.block_lt_of_cell? _ _ q1)).trans q1⟩)
          clear hSS
          have BB : Below wr.heap.size wr wr.drew := (Below.refl _ _).drew
          have SB := HS.out _ BB
          refine wp_region_rel SS 8 9 (by kernel_rfl) rfl ?_
          refine wpAnyR_pure (i := 0) (oi := _) ?v0 rfl rfl (by kernel_rfl) (by decide) (fun _ _ _ h => h) rfl ?hy0 (fun _ => SB) ?rest0
          case hy0 => (intro W; go_simp; (try with_reducible rfl))
          try simp only [List.setIfInBounds_toArray, List.set_cons_zero, List.set_cons_succ]
          refine wpAnyR_pure (i := 1) (oi := _) ?v1 rfl rfl (by kernel_rfl) (by decide) (fun _ _ _ h => h) rfl ?hy1 (fun _ => SB) ?rest1
          case hy1 => (intro W; go_simp; (try with_reducible rfl))
          try simp only [List.setIfInBounds_toArray, List.set_cons_zero, List.set_cons_succ]
          refine wpAnyR_take (i := 2) (oi := _) ?v2 rfl rfl (by kernel_rfl) (fun _ _ _ h => h) rfl ?hy2 SB ?rest2
          case hy2 => (intro W hW; obtain ⟨_, e0, e1⟩ := HB.out W hW; go_simp; (try with_reducible rfl))
          try simp only [List.setIfInBounds_toArray, List.set_cons_zero, List.set_cons_succ]
          refine wpAnyR_pure (i := 3) (oi := _) ?v3 rfl rfl (by kernel_rfl) (by decide) (fun _ _ _ h => h) rfl ?hy3 (fun _ => SB) ?rest3
          case hy3 => (intro W; go_simp; (try with_reducible rfl))
          try simp only [List.setIfInBounds_toArray, List.set_cons_zero, List.set_cons_succ]
          refine wpAnyR_pure (i := 4) (oi := _) ?v4 rfl rfl (by kernel_rfl) (by decide) (fun _ _ _ h => h) rfl ?hy4 (fun _ => SB) ?rest4
          case hy4 => (intro W; go_simp; (try with_reducible rfl))
          try simp only [List.setIfInBounds_toArray, List.set_cons_zero, List.set_cons_succ]
          refine wpAnyR_pure (i := 5) (oi := _) ?v5 rfl rfl (by kernel_rfl) (by decide) (fun _ _ _ h => h) rfl ?hy5 (fun _ => SB) ?rest5
          case hy5 => (intro W; go_simp; (try with_reducible rfl))
          try simp only [List.setIfInBounds_toArray, List.set_cons_zero, List.set_cons_succ]
          refine wpAnyR_take (i := 6) (oi := _) ?v6 rfl rfl (by kernel_rfl) (fun _ _ _ h => h) rfl ?hy6 SB ?rest6
          case hy6 => (intro W hW; obtain ⟨_, e0, e1⟩ := HB.out W hW; go_simp; (try with_reducible rfl))
          try simp only [List.setIfInBounds_toArray, List.set_cons_zero, List.set_cons_succ]
          refine wpAnyR_one (i := 7) (by kernel_rfl) rfl (fun K hK => ?_)
          try rw [if_pos (show Region.wanted _ _ = true from rfl)]
          go_simp
          refine (number_any (.slice A3 rs[k].1.2.length c3) S[q] rs[k].1.2 HBK.out HTM.out w.heap.size _ (RX.out.below BB hwx) HCO.out HLE.out).mono ?_
          rw [← HNE.out]
          rintro e W7 ⟨rfl, rfl⟩
          refine hK.out _ _ (fun _ => SB) ?_
          clear hK K
          try simp only [List.setIfInBounds_toArray, List.set_cons_zero, List.set_cons_succ, Act.put]
          refine wpAnyR_one (i := 8) (by kernel_rfl) rfl (fun K hK => ?_)
          try rw [if_pos (show Region.wanted _ _ = true from rfl)]
          go_simp
          refine (add_any g p n T _ HTV.out hp24 hn64).mono ?_
          rintro e W8 ⟨rfl, ht8, ho8⟩
          have H8 := Lib.hid (And.intro ht8 ho8)
          clear ht8 ho8
          refine hK.out _ _ (fun hf => absurd hf (by decide)) ?_
          clear hK K
          try simp only [List.setIfInBounds_toArray, List.set_cons_zero, List.set_cons_succ, Act.put]
          refine wpAnyR_done (by kernel_rfl) ?_
          go_wp2_with fail
          go_roundw
          case rel => exact ⟨q + 1, by omega, by go_num, by rw [HTK.out]; exact H8.out.1, HONX.out.trans H8.out.2⟩
          case measure => simp [intOf]; omega
        · have HQ := Lib.hid (show S.take q = S by rw [show q = S.length by omega, List.take_length])
          have HTX := Lib.hid htx
          have HOX := Lib.hid (ON4.out.trans honx)
          clear htx honx
          go_wp2_with fail
          go_roundw
          case rel =>
            refine ⟨k + 1, F ++ S.map (hdOf rs[k]), by omega, by go_num, by have := HTX.out; rw [HQ.out] at this; exact this, fun f => ?_, HOX.out⟩
            rw [headsAll_snoc rs fs k hlt, setOf_mem, List.mem_append, List.mem_append, HMEM.out f, headsL_mem HW.out IS4.out hc hnd, List.mem_map]
            constructor
            · rintro (h | ⟨b, hb, e⟩)
              · exact .inl h
              · exact .inr ⟨b, hb, e.symm⟩
            · rintro (h | ⟨b, hb, e⟩)
              · exact .inl h
              · exact .inr ⟨b, hb, e.symm⟩
          case measure => simp [intOf]; omega
    · obtain rfl : k = rs.length := by omega
      have HMF := Lib.hid (show ∀ f, f ∈ F ↔ f ∈ headsAll rs fs from by have := HMEM.out; rw [List.take_length] at this; exact this)
      have RR := HR0.out.only hon (.inl (by have := HGE.out; omega))
      obtain ⟨hbk, hln, _⟩ := hat
      obtain ⟨cs, hcs⟩ : ∃ cs, cs = tabCells (tabWith zeroT F) := ⟨_, rfl⟩
      have hcz : cs.size = 24 := by rw [hcs]; simp [tabCells, hln]
      have HONE := Lib.hid (show cs.all (·.oneCell') = true from by
        rw [hcs]
        unfold tabCells
        rw [List.all_toArray, List.all_map, List.all_eq_true]
        intro x _
        rfl)
      rw [← hcs] at hbk
      have hsi : (Tryz.prog.info? 55).map (·.size) = some cs.size := by rw [hcz]; kernel_rfl
      have hold : (tabCells zeroT).size = cs.size := by rw [hcz]; rfl
      have HOLD := Lib.hid hold
      have HCS := Lib.hid hcs
      have HBE := Lib.hid BW
      have HSI := Lib.hid hsi
      have HBK := Lib.hid hbk
      have HRR := Lib.hid RR.1
      clear hcs hcz hon hmem hln hold hsi hbk RR
      go_wp2_with (first
        | (refine wpList_load_row rfl 55 _ rfl g rfl 55 cs (0, 0) _ HBK.out Tryz.underlying55 rfl HSI.out ?_)
        | (refine wpList_store_row rfl 55 _ _ rfl w.heap.size cs rfl rfl 55 (tabCells zeroT) HRR.out HSI.out HOLD.out HONE.out ?_))
      refine bodyPost_ret_by (v := .agg cs) (results_cell_row Tryz.results26 _ _ w.heap.size _ cs (0, 0) _ rfl (setRow_heap _ _ _ cs _ _ HRR.out) Tryz.underlying55 rfl HSI.out) rfl ?_
      exact ⟨F, by rw [HCS.out], HMF.out, below_setRow HBE.out (Nat.le_refl _) _⟩

end Go.Proofs.YtcceololijefiaaGreatDoor
/-
  hasAll: a table has all of another one.
-/
namespace Go.Proofs.YtcceololijefiaaGreatDoor
open Go.RowKit

def wordIn (T2 T : List Nat) (p : Nat) : Bool := bits .andNot .u64 ((T2.getD p 0 : Nat) : Int) ((T.getD p 0 : Nat) : Int) == 0
def tabIn (T2 T : List Nat) : Bool := (List.range 24).all (wordIn T2 T)

theorem run_index_tab {cs : Array Value} {k : Nat} {v : Value} (hk : k < 24) (hc : cs[k]? = some v) (W : World) :
    (Instr.index 55 (.agg cs) (.int .i64 (k : Int))).run Tryz.prog W = .ok v W := by
  have hks : k < cs.size := by
    rcases Nat.lt_or_ge k cs.size with h | h
    · exact h
    · rw [Array.getElem?_eq_none h] at hc; cases hc
  simp [Instr.index, run_underlying Tryz.underlying55, asIntOf, hc, go_sem]
  intro h
  omega

end Go.Proofs.YtcceololijefiaaGreatDoor
/-
  The walk of the program's FactsOk.
-/
namespace Go.Proofs.YtcceololijefiaaGreatDoor
open Go.RowKit

set_option maxHeartbeats 1000000 in
set_option maxRecDepth 100000 in
theorem implFactsOk_any (v v2 : Value) (ar : List Int) (fs : List LFact) (w : World) (h : RdInts w w.heap.size v ar) (h2 : RdFacts w w.heap.size v2 fs) (hr : ar.length ≤ 1048576) (hn : fs.length ≤ 1048576) (ht : tot fs ≤ 1048576) :
    Calls Tryz.prog 25 #[v, v2] w fun e w' => e = .returned (.bool (factsOk ar fs)) ∧ Below w.heap.size w w' := by
  have H := Lib.hid h
  have H2 := Lib.hid h2
  obtain ⟨A, c, rfl, hc, _⟩ := h
  obtain ⟨A2, c2, rfl, hc2, _⟩ := h2
  go_enter Tryz.func25, Tryz.ntmps25
  go_wp2_with (fail)
  refine (arityOk_any _ ar _ H.out (by omega)).mono ?_
  rintro e w1 ⟨rfl, hb1⟩
  by_cases ha : arityOk ar = true
  · rw [ha]
    have HA := Lib.hid ha
    clear ha
    go_wp2_with (fail)
    go_loopw [5, 6, 12] (fun _ _ i wr => ∃ k : Nat, k ≤ fs.length ∧ i = .int .i64 k ∧ OkTo ar fs k ∧ Below w.heap.size w wr) (fun _ _ i _ => fs.length - (intOf i).toNat)
    case atStart => exact ⟨0, Nat.zero_le _, rfl, by simp [OkTo], hb1⟩
    case round =>
      obtain ⟨k, hk, rfl, hs, hbe⟩ := hrel
      by_cases hlt : k < fs.length
      · obtain ⟨b, o, A3, c3, rfl, hbB, k1, k2, k3⟩ := (H2.out.on hbe).get hlt
        have K3 := Lib.hid (show RdFact wr wr.heap.size (.agg #[.int .i64 fs[k].1, .slice A3 fs[k].2.length c3]) fs[k] from ⟨_, rfl, k3⟩)
        have hln := len_le_tot fs k hlt
        clear k3
        go_wp2_with (fail)
        obtain ⟨w2, hw2⟩ : ∃ w2, w2 = wr.alloc (Obj.cells #[Value.int IntKind.i64 fs[k].1, Value.slice A3 fs[k].2.length c3] 51) := ⟨_, rfl⟩
        have B2 : Below wr.heap.size wr w2 := by rw [hw2]; exact below1 _ _
        have x2 : Blk w2 wr.heap.size 51 #[.int .i64 fs[k].1, .slice A3 fs[k].2.length c3] := by rw [hw2]; exact Blk.new _ _ _
        rw [← hw2]
        clear hw2
        refine (factFits_any _ _ ar fs[k] _ ((H.out.on hbe).on B2) (K3.out.on B2) (by omega)).mono ?_
        rintro e w3 ⟨rfl, hb3⟩
        have B3 := bthen B2 hb3
        have BW3 := bthen hbe B3
        have x3 := x2.below hb3 x2.lt
        by_cases hff : factFits ar fs[k] = true
        · rw [hff]
          rcases Nat.eq_zero_or_pos k with hk0 | hk0
          · have hd : decide (0 < k) = false := by simp [hk0]
            have HS := Lib.hid (hs.step (round_first hlt hff hk0) : OkTo ar fs (k + 1))
            clear hs hk0 hff
            go_wp2_with (fail)
            refine wp_region_later (by kernel_rfl) (by kernel_rfl) ?_
            repeat (go_big_quiet_step (fail))
            refine wpQuiet_nil ?_
            rintro _ ⟨xq, rfl⟩
            go_wp2_with (fail)
            go_roundw
            case rel => exact ⟨k + 1, by omega, by go_num, HS.out, bthen BW3 xq.2⟩
            case measure => simp [intOf]; omega
          · obtain ⟨j, rfl⟩ : ∃ j, k = j + 1 := ⟨k - 1, by omega⟩
            have hltj : j < fs.length := by omega
            obtain ⟨b', o', A4, c4, e4, hbB', m1, m2, m3⟩ := (H2.out.on BW3).get hltj
            simp only [Option.some.injEq, Addr.mk.injEq, and_true] at e4
            obtain ⟨rfl, rfl⟩ := e4
            have K4 := Lib.hid (show RdFact w3 w3.heap.size (.agg #[.int .i64 fs[j].1, .slice A4 fs[j].2.length c4]) fs[j] from ⟨_, rfl, m3⟩)
            have hlnj := len_le_tot fs j hltj
            have M1 := later_cell m1
            have M2 := later_cell m2
            have X0 := later_cell (x3.cell 0 : w3.cell? ⟨wr.heap.size, 0, none⟩ = some (.int .i64 fs[j + 1].1))
            have X1 := later_cell (x3.cell 1 : w3.cell? ⟨wr.heap.size, 1, none⟩ = some (.slice A3 fs[j + 1].2.length c3))
            have CO := Lib.hid (fun x : Later w3 => implFactOrder_any _ _ fs[j] fs[j + 1] x.val (K4.out.on x.2) ((K3.out.on B3).on x.2) (by omega) (by omega))
            clear m1 m2 m3 k1 k2
            by_cases hlo : factOrder fs[j] fs[j + 1] < 0
            · have hd : decide (0 ≤ factOrder fs[j] fs[j + 1]) = false := by simp; omega
              have HS := Lib.hid (hs.step (by rw [round_next hlt hltj hff]; simp [hlo]) : OkTo ar fs (j + 1 + 1))
              clear hs hff
              go_wp2_with (fail)
              refine wp_region_later (by kernel_rfl) (by kernel_rfl) ?_
              repeat (go_big_quiet_step ((go_at_call 45; exact later_of (CO.out _))))
              refine wpQuiet_nil ?_
              rintro _ ⟨xq, rfl⟩
              go_wp2_with (fail)
              go_roundw
              case rel => exact ⟨j + 1 + 1, by omega, by go_num, HS.out, bthen BW3 xq.2⟩
              case measure => simp [intOf]; omega
            · have hd : decide (0 ≤ factOrder fs[j] fs[j + 1]) = true := by simp; omega
              have HE := Lib.hid (show factsOk ar fs = false from round_not hlt (by rw [round_next hlt hltj hff]; simp [hlo]))
              clear hs hff
              go_wp2_with (fail)
              refine wp_region_later (by kernel_rfl) (by kernel_rfl) ?_
              repeat (go_big_quiet_step ((go_at_call 45; exact later_of (CO.out _))))
              refine wpQuiet_nil ?_
              rintro _ ⟨xq, rfl⟩
              go_wp2_with (fail)
              go_ret
              exact ⟨ret_bool HE.out.symm, bthen BW3 xq.2⟩
        · have HE := Lib.hid (show factsOk ar fs = false from round_not hlt (round_unfit hlt (by simpa using hff)))
          rw [show factFits ar fs[k] = false by simpa using hff]
          clear hs hff
          go_wp2_with (fail)
          go_ret
          exact ⟨ret_bool HE.out.symm, BW3⟩
      · have hkn : k = fs.length := by omega
        have HE := Lib.hid (show factsOk ar fs = true by unfold factsOk; unfold OkTo at hs; rw [← hkn, hs, HA.out]; rfl)
        clear hkn hs
        go_wp2_with (fail)
        go_ret
        exact ⟨ret_bool HE.out.symm, hbe⟩
  · have HE := Lib.hid (show factsOk ar fs = false by simp [factsOk, ha])
    rw [show arityOk ar = false by simpa using ha]
    clear ha
    go_wp2_with (fail)
    go_ret
    exact ⟨ret_bool HE.out.symm, hb1⟩

end Go.Proofs.YtcceololijefiaaGreatDoor
/-
  The program's Closed, by its tables.
-/
namespace Go.Proofs.YtcceololijefiaaGreatDoor
open Go.RowKit

/-- What the program's Closed answers. -/
def ClosedT (p : LProg) (fs : List LFact) (R : Bool) : Prop := ((progOk p && factsOk p.1 fs) = false ∧ R = false) ∨ ((progOk p && factsOk p.1 fs) = true ∧ ∃ F, (∀ f, f ∈ F ↔ f ∈ headsAll p.2 fs) ∧ R = tabIn (tabWith zeroT F) (tabWith zeroT fs))

theorem tabWith_len (T : List Nat) (fs : List LFact) : (tabWith T fs).length = T.length := by
  induction fs generalizing T with
  | nil => rfl
  | cons f fs ih =>
    show (tabWith (setBit T f.1.toNat (numF f.2)) fs).length = _
    rw [ih]
    simp [setBit]
theorem tabCells_one (T : List Nat) : (tabCells T).all (·.oneCell') = true := by
  unfold tabCells
  rw [List.all_toArray, List.all_map, List.all_eq_true]
  intro x _
  rfl

end Go.Proofs.YtcceololijefiaaGreatDoor
/-
  Tables by their bits: one table stands in another as its facts do.
-/
namespace Go.Proofs.YtcceololijefiaaGreatDoor
open Go.RowKit

theorem setBit_bit {T : List Nat} {p q m n : Nat} (hp : p < T.length) : ((setBit T q m).getD p 0).testBit n = true ↔ (T.getD p 0).testBit n = true ∨ (q = p ∧ m = n) := by
  unfold setBit
  by_cases e : q = p
  · subst e
    have h1 : (T.set q (T.getD q 0 ||| 2 ^ m)).getD q 0 = T.getD q 0 ||| 2 ^ m := by simp [List.getD_eq_getElem?_getD, hp]
    rw [h1, Nat.testBit_or, Bool.or_eq_true, Nat.testBit_two_pow, decide_eq_true_eq]
    simp
  · have h1 : (T.set q (T.getD q 0 ||| 2 ^ m)).getD p 0 = T.getD p 0 := by simp [List.getD_eq_getElem?_getD, List.getElem?_set_ne e]
    rw [h1]
    simp [e]
theorem tabWith_bit {p n : Nat} : ∀ (fs : List LFact) (T : List Nat), p < T.length → (((tabWith T fs).getD p 0).testBit n = true ↔ (T.getD p 0).testBit n = true ∨ ∃ f ∈ fs, f.1.toNat = p ∧ numF f.2 = n)
  | [], T, _ => by simp [tabWith]
  | f :: fs, T, hp => by
    have e : tabWith T (f :: fs) = tabWith (setBit T f.1.toNat (numF f.2)) fs := rfl
    rw [e, tabWith_bit fs _ (by simpa [setBit] using hp), setBit_bit hp]
    constructor
    · rintro ((h | h) | ⟨g, hg, h⟩)
      · exact .inl h
      · exact .inr ⟨f, List.mem_cons_self .., h⟩
      · exact .inr ⟨g, List.mem_cons_of_mem _ hg, h⟩
    · rintro (h | ⟨g, hg, h⟩)
      · exact .inl (.inl h)
      · rcases List.mem_cons.1 hg with rfl | hg
        · exact .inl (.inr h)
        · exact .inr ⟨g, hg, h⟩
theorem zero_bit {p n : Nat} : (zeroT.getD p 0).testBit n = false := by
  have : zeroT.getD p 0 = 0 := by
    by_cases hp : p < zeroT.length
    · rw [getD_at hp]
      exact (List.mem_replicate.1 (List.getElem_mem hp)).2
    · simp [List.getD_eq_getElem?_getD, List.getElem?_eq_none (by omega : zeroT.length ≤ p)]
  rw [this, Nat.zero_testBit]
theorem numF_inj {xs ys : List Int} (hx : xs.all constOk = true) (hy : ys.all constOk = true) (hl : xs.length = ys.length) (h2 : xs.length ≤ 2) (e : numF xs = numF ys) : xs = ys := by
  rcases xs with _ | ⟨x, _ | ⟨y, _ | ⟨z, xs⟩⟩⟩ <;> rcases ys with _ | ⟨x', _ | ⟨y', _ | ⟨z', ys⟩⟩⟩ <;> (try (simp at hl; done)) <;> (try (simp at h2; done))
  · rfl
  · simp only [List.all_cons, List.all_nil, Bool.and_true] at hx hy
    have := const_range hx
    have := const_range hy
    simp [numF] at e
    simp; omega
  · simp only [List.all_cons, List.all_nil, Bool.and_true, Bool.and_eq_true] at hx hy
    have := const_range hx.1
    have := const_range hx.2
    have := const_range hy.1
    have := const_range hy.2
    simp [numF] at e
    simp; omega
/-- A fact's bit tells the fact. -/
theorem fact_of_bit {ar : List Int} {f g : LFact} (ha : arityOk ar = true) (hf : factFits ar f = true) (hg : factFits ar g = true) (e1 : f.1.toNat = g.1.toNat) (e2 : numF f.2 = numF g.2) : f = g := by
  obtain ⟨⟨h0, _, hl⟩, hc⟩ := fits_parts hf
  obtain ⟨⟨h0', _, hl'⟩, hc'⟩ := fits_parts hg
  have e : f.1 = g.1 := by omega
  rw [← e] at hl'
  exact Prod.ext e (numF_inj hc hc' (by omega) (fits_short ha hf) e2)

end Go.Proofs.YtcceololijefiaaGreatDoor
/-
  What the program's Closed answers by its tables is what the specification's answers.
-/
namespace Go.Proofs.YtcceololijefiaaGreatDoor
open Go.RowKit

theorem word_in {a b : Nat} (ha : a < 18446744073709551616) (hb : b < 18446744073709551616) : (bits .andNot .u64 (a : Int) (b : Int) == 0) = true ↔ ∀ n, a.testBit n = true → b.testBit n = true := by
  have e : (18446744073709551615 - b : Nat) = 2 ^ 64 - (b + 1) := by omega
  have hb' : b < 2 ^ 64 := hb
  rw [u64_andNot_nat a b ha hb, beq_iff_eq, e]
  constructor
  · intro h n hn
    have h0 : a &&& (2 ^ 64 - (b + 1)) = 0 := by exact_mod_cast h
    have h1 := congrArg (fun y => y.testBit n) h0
    simp only [Nat.testBit_and, Nat.zero_testBit, hn, Bool.true_and, Nat.testBit_two_pow_sub_succ hb'] at h1
    have hlt : n < 64 := by
      apply Classical.byContradiction
      intro h64
      have h2 := Nat.ge_two_pow_of_testBit hn
      have h3 : (2 : Nat) ^ 64 ≤ 2 ^ n := Nat.pow_le_pow_right (by decide) (by omega)
      omega
    simpa [hlt] using h1
  · intro h
    have h0 : a &&& (2 ^ 64 - (b + 1)) = 0 := by
      apply Nat.eq_of_testBit_eq
      intro n
      rw [Nat.testBit_and, Nat.zero_testBit, Nat.testBit_two_pow_sub_succ hb']
      cases hn : a.testBit n
      · rfl
      · rw [h n hn]
        simp
    rw [h0]
    rfl
theorem setBit_lt {T : List Nat} {p n : Nat} (h : ∀ x ∈ T, x < 18446744073709551616) (hn : n < 64) : ∀ x ∈ setBit T p n, x < 18446744073709551616 := by
  intro x hx
  rcases List.mem_or_eq_of_mem_set hx with h4 | rfl
  · exact h x h4
  · refine Nat.or_lt_two_pow (n := 64) ?_ (Nat.pow_lt_pow_right (by decide) hn)
    by_cases hp : p < T.length
    · rw [getD_at hp]
      exact h _ (List.getElem_mem hp)
    · simp [List.getD_eq_getElem?_getD, List.getElem?_eq_none (by omega : T.length ≤ p)]
theorem tabWith_lt : ∀ (fs : List LFact) (T : List Nat), (∀ x ∈ T, x < 18446744073709551616) → (∀ f ∈ fs, numF f.2 < 64) → ∀ x ∈ tabWith T fs, x < 18446744073709551616
  | [], _, h, _ => h
  | f :: fs, T, h, hf => tabWith_lt fs (setBit T f.1.toNat (numF f.2)) (setBit_lt h (hf f (List.mem_cons_self ..))) (fun g hg => hf g (List.mem_cons_of_mem _ hg))
theorem word_lt {T : List Nat} {p : Nat} (h : ∀ x ∈ T, x < 18446744073709551616) : T.getD p 0 < 18446744073709551616 := by
  by_cases hp : p < T.length
  · rw [getD_at hp]
    exact h _ (List.getElem_mem hp)
  · simp [List.getD_eq_getElem?_getD, List.getElem?_eq_none (by omega : T.length ≤ p)]
theorem zeroT_lt : ∀ x ∈ zeroT, x < 18446744073709551616 := fun x hx => by
  obtain ⟨_, rfl⟩ := List.mem_replicate.1 hx
  decide

theorem pickL_in (a b : List LFact) (t : Bool) (f : LFact) : f ∈ pickL a b t ↔ f ∈ a ∧ decide (f ∈ b) = t := by
  unfold pickL
  rw [setOf_mem, List.mem_filter, factsHas_in]
  simp

/-- One table of facts stands in another as its facts do. -/
theorem tabIn_facts {ar : List Int} (ha : arityOk ar = true) {F fs : List LFact} (hF : ∀ f ∈ F, factFits ar f = true) (hf : ∀ f ∈ fs, factFits ar f = true) : tabIn (tabWith zeroT F) (tabWith zeroT fs) = true ↔ ∀ f ∈ F, f ∈ fs := by
  have hl : ar.length ≤ 24 := by simp only [arityOk, Bool.and_eq_true, decide_eq_true_eq] at ha; exact ha.1
  have h64 : ∀ f, factFits ar f = true → numF f.2 < 64 := fun f h => numF_64 (fits_parts h).2 (fits_short ha h)
  have hz : ∀ p : Nat, p < 24 → p < zeroT.length := fun p hp => by simpa [zeroT] using hp
  unfold tabIn
  rw [List.all_eq_true]
  have hw : ∀ p, p < 24 → (wordIn (tabWith zeroT F) (tabWith zeroT fs) p = true ↔ ∀ n, (∃ f ∈ F, f.1.toNat = p ∧ numF f.2 = n) → ∃ f ∈ fs, f.1.toNat = p ∧ numF f.2 = n) := fun p hp => by
    unfold wordIn
    rw [word_in (word_lt (tabWith_lt F _ zeroT_lt fun f h => h64 f (hF f h))) (word_lt (tabWith_lt fs _ zeroT_lt fun f h => h64 f (hf f h)))]
    simp only [tabWith_bit _ _ (hz p hp), zero_bit, Bool.false_eq_true, false_or]
  constructor
  · intro h f hm
    have hp := (fits_parts (hF f hm)).1
    have h1 := (hw f.1.toNat (by omega)).1 (h _ (List.mem_range.2 (by omega))) (numF f.2) ⟨f, hm, rfl, rfl⟩
    obtain ⟨g, hg, e1, e2⟩ := h1
    rw [fact_of_bit ha (hF f hm) (hf g hg) e1.symm e2.symm]
    exact hg
  · intro h p hp
    rw [hw p (List.mem_range.1 hp)]
    rintro n ⟨f, hm, e⟩
    exact ⟨f, h f hm, e⟩

theorem closedT_eq {p : LProg} {fs : List LFact} {R : Bool} (h : ClosedT p fs R) : R = closedL p fs := by
  rcases h with ⟨h1, rfl⟩ | ⟨h1, F, hF, rfl⟩
  · unfold closedL
    rw [← Bool.and_assoc, h1, Bool.false_and]
  · rw [Bool.and_eq_true] at h1
    obtain ⟨har, _, hfit⟩ := prog_parts h1.1
    obtain ⟨_, hff, _⟩ := factsOk_parts h1.2
    unfold closedL
    rw [h1.1, h1.2, Bool.true_and, Bool.true_and, Bool.eq_iff_iff, tabIn_facts har (fun f h => headsAll_fits fs hfit f ((hF f).1 h)) hff, decide_eq_true_eq, List.length_eq_zero_iff, List.eq_nil_iff_forall_not_mem]
    constructor
    · intro h f hm
      rw [pickL_in] at hm
      have := h f ((hF f).2 hm.1)
      simp [this] at hm
    · intro h f hm
      apply Classical.byContradiction
      intro hn
      exact h f ((pickL_in _ _ _ _).2 ⟨(hF f).1 hm, by simpa using hn⟩)

end Go.Proofs.YtcceololijefiaaGreatDoor
/-
  The walk of the program's constantDigits, and AllFacts' plain mathematics.
-/
namespace Go.Proofs.YtcceololijefiaaGreatDoor
open Go.RowKit

/-- The digits of n in base six, so many places. -/
def digits (n p : Nat) : List Int := (List.range p).map fun j : Nat => ((n / 6 ^ (p - 1 - j) % 6 : Nat) : Int)
theorem digits_length (n p : Nat) : (digits n p).length = p := by simp [digits]
theorem div_pow (n k : Nat) : n / 6 ^ k / 6 = n / 6 ^ (k + 1) := by rw [Nat.div_div_eq_div_mul, Nat.pow_succ]
def digitCell (n p m j : Nat) : Value := if m ≤ j then .int .i64 ((n / 6 ^ (p - 1 - j) % 6 : Nat) : Int) else .int .i64 0

set_option maxHeartbeats 1000000 in
theorem constantDigits_six (n p : Nat) (w : World) (hn : n ≤ 1048576) (hp : p ≤ 6) :
    Calls Tryz.prog 50 #[.int .i64 n, .int .i64 p] w fun e w' => ∃ A' c', e = .returned (.slice A' p c') ∧ OwnInts w' w.heap.size w'.heap.size (.slice A' p c') (digits n p) ∧ Below w.heap.size w w' := by
  have hmk := run_make_row' (P := Tryz.prog) 22 3 (.int .i64 0) 8 Tryz.underlying22 Tryz.infoInt rfl .i64 .i64 p (by omega) (by omega)
  go_enter Tryz.func50, Tryz.ntmps50
  go_wp2_with (fail)
  go_loopw [0, 6] (fun v i wr => ∃ (m : Nat) (q : Nat), m ≤ p ∧ i = .int .i64 ((m : Int) - 1) ∧ v = .int .i64 q ∧ q = n / 6 ^ (p - m) ∧ wr.rowIs w.heap.size 3 p (digitCell n p m) ∧ Below w.heap.size w wr) (fun _ i _ => (intOf i + 1).toNat)
  case atStart => exact ⟨p, n, Nat.le_refl _, rfl, rfl, by simp, (World.rowIs_made w _ _ _).congr (fun j hj => by simp [digitCell]; omega), below1 _ _⟩
  case round =>
    obtain ⟨m, q, hm, rfl, rfl, hq, hrow, hbe⟩ := hrel
    have hqn : q ≤ n := by rw [hq]; exact Nat.div_le_self _ _
    rcases Nat.eq_zero_or_pos m with h0 | h0
    · have HO := Lib.hid (show OwnInts wr w.heap.size wr.heap.size (.slice (some ⟨w.heap.size, 0, none⟩) p p) (digits n p) by
        have h1 : wr.rowIs w.heap.size 3 (digits n p).length (fun j => .int .i64 ((digits n p).getD j 0)) := by
          rw [digits_length]
          refine hrow.congr (fun j hj => ?_)
          simp [digitCell, digits, h0, hj]
        have h2 := OwnInts.of_rowIs h1 (Nat.le_refl _) h1.lt (by rw [digits_length]; unfold maxLen; omega)
        rwa [digits_length] at h2)
      have hneg : ¬ (0 : Int) ≤ (m : Int) - 1 := by omega
      clear hrow hq h0
      go_wp2_with (fail)
      go_ret
      exact ⟨_, _, rfl, HO.out, hbe⟩
    · obtain ⟨k, rfl⟩ : ∃ k, m = k + 1 := ⟨m - 1, by omega⟩
      have hkp : k < p := by omega
      have c1 := hrow.cell hkp
      have f1 := hrow.frozen k
      have c1' : ∃ u, wr.cell? ⟨w.heap.size, k, none⟩ = some (.int .i64 u) := by
        rw [c1]
        unfold digitCell
        split <;> exact ⟨_, rfl⟩
      obtain ⟨u, c2⟩ := c1'
      have e1 : ((k + 1 : Nat) : Int) - 1 = (k : Int) := by omega
      have hrw := (hrow.set k (.int .i64 ((q % 6 : Nat) : Int))).congr (g := digitCell n p k) (fun j hj => by
        by_cases e : j = k
        · subst e
          rw [if_pos rfl, hq, show p - (j + 1) = p - 1 - j by omega]
          simp [digitCell]
        · rw [if_neg e]
          unfold digitCell
          by_cases h2 : k ≤ j
          · rw [if_pos (by omega), if_pos h2]
          · rw [if_neg (by omega), if_neg h2])
      have HR := Lib.hid hrw
      have HQ := Lib.hid (show q / 6 = n / 6 ^ (p - k) by rw [hq, div_pow]; congr 2; omega)
      rw [e1]
      clear hrow hq c1 hrw e1
      go_wp2_with (fail)
      go_roundw
      case rel => exact ⟨k, q / 6, by omega, rfl, by simp, HQ.out, by simpa using HR.out, hbe.setCell (Nat.le_refl _) _⟩
      case measure => simp [intOf]

theorem constantDigits_any (n p : Nat) (w : World) (hn : n ≤ 1048576) (hp : p ≤ 2) :
    Calls Tryz.prog 50 #[.int .i64 n, .int .i64 p] w fun e w' => ∃ A' c', e = .returned (.slice A' p c') ∧ OwnInts w' w.heap.size w'.heap.size (.slice A' p c') (digits n p) ∧ Below w.heap.size w w' := constantDigits_six n p w hn (by omega)

theorem pow6 : (6 : Nat) ^ 0 = 1 ∧ (6 : Nat) ^ 1 = 6 ∧ (6 : Nat) ^ 2 = 36 := by decide
/-- All facts of a predicate with so many places. -/
def allOk (p q : Int) : Bool := decide (0 ≤ p ∧ p ≤ 23) && decide (0 ≤ q ∧ q ≤ 2)
def allTo (p : Int) (q : Nat) (m : Nat) : List LFact := (List.range m).map fun i => (p, digits i q)
def allFacts (p q : Int) : List LFact := if allOk p q then allTo p q.toNat (6 ^ q.toNat) else []
theorem allTo_length (p : Int) (q m : Nat) : (allTo p q m).length = m := by simp [allTo]
theorem allTo_snoc (p : Int) (q m : Nat) : allTo p q (m + 1) = allTo p q m ++ [(p, digits m q)] := by simp [allTo, List.range_succ]
theorem allTo_tot (p : Int) (q : Nat) : ∀ m, tot (allTo p q m) = m * q
  | 0 => by simp [allTo, tot]
  | m + 1 => by rw [allTo_snoc, tot_append, allTo_tot p q m, tot_cons]; simp [tot, digits_length, Nat.add_mul]

end Go.Proofs.YtcceololijefiaaGreatDoor
/-
  The facts of a table, ascending: plain mathematics.
-/
namespace Go.Proofs.YtcceololijefiaaGreatDoor
open Go.RowKit

/-- The facts of a table's word; the facts of a table. -/
def wordFacts (p x q : Nat) : List LFact := (bitsOf x).map fun j => ((p : Int), digits j.toNat q)
def tabFacts (T : List Nat) (ar : List Int) : List LFact := (List.range ar.length).flatMap fun p => wordFacts p (T.getD p 0) (ar.getD p 0).toNat

theorem bitsOf_mem {x : Nat} {i : Int} : i ∈ bitsOf x ↔ ∃ j : Nat, j < 64 ∧ x.testBit j = true ∧ (j : Int) = i := by
  unfold bitsOf
  rw [List.mem_map]
  constructor
  · rintro ⟨j, hj, e⟩
    rw [List.mem_filter, List.mem_range] at hj
    exact ⟨j, hj.1, hj.2, e⟩
  · rintro ⟨j, h1, h2, e⟩
    exact ⟨j, List.mem_filter.2 ⟨List.mem_range.2 h1, h2⟩, e⟩
theorem bitsOf_up (x : Nat) : (bitsOf x).Pairwise (· < ·) := by
  unfold bitsOf
  rw [List.pairwise_map]
  exact (List.pairwise_lt_range.filter _).imp fun h => by omega
theorem digits_numF {xs : List Int} (hc : xs.all constOk = true) (hl : xs.length ≤ 2) : digits (numF xs) xs.length = xs := by
  rcases xs with _ | ⟨x, _ | ⟨y, _ | ⟨z, xs⟩⟩⟩
  · rfl
  · simp only [List.all_cons, List.all_nil, Bool.and_true] at hc
    have := const_range hc
    simp [digits, numF, List.range_succ]
    omega
  · simp only [List.all_cons, List.all_nil, Bool.and_true, Bool.and_eq_true] at hc
    have := const_range hc.1
    have := const_range hc.2
    simp [digits, numF, List.range_succ]
    omega
  · simp at hl
theorem digits_up1 : ∀ i j : Fin 6, i < j → cmpL (digits i 1) (digits j 1) < 0 := by decide +kernel
theorem digits_up2 : ∀ i j : Fin 36, i < j → cmpL (digits i 2) (digits j 2) < 0 := by decide +kernel
theorem digits_up {i j q : Nat} (hq : q ≤ 2) (hj : j < 6 ^ q) (h : i < j) : cmpL (digits i q) (digits j q) < 0 := by
  match q, hq with
  | 0, _ => simp at hj; omega
  | 1, _ => exact digits_up1 ⟨i, by omega⟩ ⟨j, by omega⟩ h
  | 2, _ => exact digits_up2 ⟨i, by omega⟩ ⟨j, by omega⟩ h
theorem tabFacts_mem {T : List Nat} {ar : List Int} {f : LFact} : f ∈ tabFacts T ar ↔ ∃ p j : Nat, p < ar.length ∧ j < 64 ∧ (T.getD p 0).testBit j = true ∧ f = ((p : Int), digits j (ar.getD p 0).toNat) := by
  unfold tabFacts wordFacts
  simp only [List.mem_flatMap, List.mem_map, List.mem_range, bitsOf_mem]
  constructor
  · rintro ⟨p, hp, i, ⟨j, h1, h2, rfl⟩, rfl⟩
    exact ⟨p, j, hp, h1, h2, rfl⟩
  · rintro ⟨p, j, hp, h1, h2, rfl⟩
    exact ⟨p, hp, (j : Int), ⟨j, h1, h2, rfl⟩, rfl⟩
theorem tabFacts_asc {T : List Nat} {ar : List Int} (ha : arityOk ar = true) (hb : ∀ p j : Nat, p < ar.length → (T.getD p 0).testBit j = true → j < 6 ^ (ar.getD p 0).toNat) : Asc (tabFacts T ar) := by
  unfold Asc tabFacts
  rw [List.pairwise_flatMap]
  have hq : ∀ p, p < ar.length → (ar.getD p 0).toNat ≤ 2 := fun p hp => by
    have h1 := ha
    simp only [arityOk, Bool.and_eq_true, decide_eq_true_eq, List.all_eq_true] at h1
    have h2 : placeOk ar[p] = true := h1.2 _ (List.getElem_mem hp)
    rw [getD_at hp]
    simp [placeOk] at h2
    omega
  refine ⟨fun p hp => ?_, ?_⟩
  · rw [List.mem_range] at hp
    unfold wordFacts
    rw [List.pairwise_map]
    refine List.Pairwise.imp_of_mem (fun {a b} ha hb' hab => ?_) (bitsOf_up _)
    obtain ⟨i, _, _, rfl⟩ := bitsOf_mem.1 ha
    obtain ⟨j, _, h2, rfl⟩ := bitsOf_mem.1 hb'
    simp only [factOrder, if_true, Int.toNat_natCast]
    exact digits_up (hq p hp) (hb p j hp h2) (by omega)
  · refine List.pairwise_lt_range.imp fun {p p'} hpp x hx y hy => ?_
    unfold wordFacts at hx hy
    obtain ⟨_, _, rfl⟩ := List.mem_map.1 hx
    obtain ⟨_, _, rfl⟩ := List.mem_map.1 hy
    have h1 : ¬ ((p : Int) = (p' : Int)) := by omega
    have h2 : ((p : Int) < (p' : Int)) := by omega
    simp [factOrder, h1, cmpI, h2]

/-- A table of facts has just these. -/
theorem tabFacts_with {ar : List Int} (ha : arityOk ar = true) {F : List LFact} (hF : ∀ f ∈ F, factFits ar f = true) : Asc (tabFacts (tabWith zeroT F) ar) ∧ ∀ f, f ∈ tabFacts (tabWith zeroT F) ar ↔ f ∈ F := by
  have hl : ar.length ≤ 24 := by simp only [arityOk, Bool.and_eq_true, decide_eq_true_eq] at ha; exact ha.1
  have hz : ∀ p : Nat, p < ar.length → p < zeroT.length := fun p hp => by simp [zeroT]; omega
  have hbit : ∀ p j : Nat, p < ar.length → (((tabWith zeroT F).getD p 0).testBit j = true ↔ ∃ f ∈ F, f.1.toNat = p ∧ numF f.2 = j) := fun p j hp => by
    simp only [tabWith_bit _ _ (hz p hp), zero_bit, Bool.false_eq_true, false_or]
  have hone : ∀ f ∈ F, f.1 = ((f.1.toNat : Nat) : Int) ∧ f.1.toNat < ar.length ∧ f.2.length = (ar.getD f.1.toNat 0).toNat ∧ digits (numF f.2) (ar.getD f.1.toNat 0).toNat = f.2 ∧ numF f.2 < 6 ^ (ar.getD f.1.toNat 0).toNat := fun f hf => by
    obtain ⟨⟨h0, h1, h2⟩, h3⟩ := fits_parts (hF f hf)
    have h4 := fits_short ha (hF f hf)
    have h5 : f.2.length = (ar.getD f.1.toNat 0).toNat := by omega
    refine ⟨by omega, by omega, h5, ?_, ?_⟩
    · rw [← h5]
      exact digits_numF h3 h4
    · rw [← h5]
      have := numF_lt h3 f.2.length (Nat.le_refl _)
      rwa [List.take_length] at this
  refine ⟨tabFacts_asc ha fun p j hp h => ?_, fun f => ?_⟩
  · obtain ⟨f, hf, rfl, rfl⟩ := (hbit p j hp).1 h
    exact (hone f hf).2.2.2.2
  · rw [tabFacts_mem]
    constructor
    · rintro ⟨p, j, hp, _, h, rfl⟩
      obtain ⟨g, hg, rfl, rfl⟩ := (hbit p j hp).1 h
      obtain ⟨e1, _, _, e2, _⟩ := hone g hg
      rw [e2, ← e1]
      exact hg
    · intro hf
      obtain ⟨e1, e2, _, e3, e4⟩ := hone f hf
      exact ⟨f.1.toNat, numF f.2, e2, numF_64 (fits_parts (hF f hf)).2 (fits_short ha (hF f hf)), (hbit _ _ e2).2 ⟨f, hf, rfl, rfl⟩, by rw [e3, ← e1]⟩

end Go.Proofs.YtcceololijefiaaGreatDoor
/-
  The walk of (*factTable).facts: a table's facts, ascending, in memory of the call's own.
-/
namespace Go.Proofs.YtcceololijefiaaGreatDoor
open Go.RowKit

def tabTo (T : List Nat) (ar : List Int) (k : Nat) : List LFact := (List.range k).flatMap fun p => wordFacts p (T.getD p 0) (ar.getD p 0).toNat
theorem tabTo_snoc (T : List Nat) (ar : List Int) (k : Nat) : tabTo T ar (k + 1) = tabTo T ar k ++ wordFacts k (T.getD k 0) (ar.getD k 0).toNat := by simp [tabTo, List.range_succ]
theorem wordFacts_len (p x q : Nat) : (wordFacts p x q).length ≤ 64 := by
  unfold wordFacts
  rw [List.length_map]
  exact bitsOf_length x
theorem tabTo_len (T : List Nat) (ar : List Int) : ∀ k, (tabTo T ar k).length ≤ k * 64
  | 0 => by simp [tabTo]
  | k + 1 => by
    rw [tabTo_snoc, List.length_append]
    have := tabTo_len T ar k
    have := wordFacts_len k (T.getD k 0) (ar.getD k 0).toNat
    omega

set_option maxHeartbeats 4000000 in
set_option maxRecDepth 100000 in
theorem tabFacts_any (g : Nat) (T : List Nat) (v : Value) (ar : List Int) (w : World) (h : TabAt w g T) (hr : RdInts w w.heap.size v ar) (har : arityOk ar = true) (hT : Tab w) :
    Calls Tryz.prog 27 #[.pointer (some ⟨g, 0, none⟩), v] w fun e w' => ∃ A' c', e = .returned (.slice A' (tabFacts T ar).length c') ∧ OwnFacts w' w.heap.size w'.heap.size (.slice A' (tabFacts T ar).length c') (tabFacts T ar) ∧ Below w.heap.size w w' := by
  obtain ⟨i0, hi0, hz0, hz1, hz2⟩ := info_parts Tryz.infoFact
  have H := Lib.hid hr
  have HTA := Lib.hid h
  have HT := Lib.hid hT
  have hgl := h.1.lt
  have hl24 : ar.length ≤ 24 := by simp only [arityOk, Bool.and_eq_true, decide_eq_true_eq] at har; exact har.1
  have HQ := Lib.hid (show ∀ k (hk : k < ar.length), 0 ≤ ar[k] ∧ ar[k] ≤ 2 from fun k hk => by
    simp only [arityOk, Bool.and_eq_true, decide_eq_true_eq, List.all_eq_true] at har
    have h2 : placeOk ar[k] = true := har.2 _ (List.getElem_mem hk)
    simp [placeOk] at h2
    omega)
  obtain ⟨A, c, rfl, hc, _⟩ := hr
  clear h hT har
  go_enter Tryz.func27, Tryz.ntmps27
  go_wp2_with fail
  go_loopw [5, 11] (fun o i wr => ∃ (k : Nat) (A' : Option Addr) (c' : Nat) (av : List Value), k ≤ ar.length ∧ i = .int .i64 k ∧ o = .slice A' (tabTo T ar k).length c' ∧ ColRel w wr (tabTo T ar k) A' c' av) (fun _ i _ => ar.length - (intOf i).toNat)
  case atStart => exact ⟨0, none, 0, [], Nat.zero_le _, rfl, rfl, ColRel.nil w⟩
  case round =>
    obtain ⟨k, A', c', av, hk, rfl, rfl, hcol⟩ := hrel
    have hll := tabTo_len T ar k
    by_cases hlt : k < ar.length
    · have hsz := hcol.below.size
      have hbe := hcol.below
      obtain ⟨A7, c7, e7, _, hx⟩ := (H.out.on hbe)
      injection e7 with e7 e9 e8
      clear e9
      subst e7 e8
      obtain ⟨b7, o7, rfl, _, hx⟩ := hx (by omega)
      obtain ⟨q, hqe⟩ : ∃ q : Nat, ar[k] = (q : Int) := ⟨ar[k].toNat, by have := HQ.out k hlt; omega⟩
      have hq2 : q ≤ 2 := by have := HQ.out k hlt; omega
      have hck : wr.cell? ⟨b7, o7 + k, none⟩ = some (.int .i64 q) := by rw [← hqe]; exact hx k hlt
      have hk24 : k < 24 := by omega
      have hki : (k : Int) < 24 := by omega
      have htr := HTA.out.below hbe hgl
      obtain ⟨x, hxe⟩ : ∃ x, x = T.getD k 0 := ⟨_, rfl⟩
      have hx64 : x < 18446744073709551616 := by rw [hxe]; exact htr.lt
      have htk : wr.cell? ⟨g, k, none⟩ = some (.int .u64 ((x : Nat) : Int)) := by rw [hxe]; exact htr.cell hk24
      have HF := Lib.hid (show tabTo T ar (k + 1) = tabTo T ar k ++ (bitsOf x).map (fun j => ((k : Int), digits j.toNat q)) from by
        rw [tabTo_snoc, ← hxe]
        unfold wordFacts
        rw [getD_at hlt, hqe]
        rfl)
      have HCOL := Lib.hid hcol
      clear hx hqe htr hxe hbe hcol
      go_upto_region 6 with fail
      rename World => wo
      go_loopw [5, 8] (fun o z wr => ∃ (y : Nat) (L : List LFact) (A' : Option Addr) (c' : Nat) (av : List Value), z = .int .u64 y ∧ o = .slice A' L.length c' ∧ L ++ (bitsOf y).map (fun j => ((k : Int), digits j.toNat q)) = tabTo T ar (k + 1) ∧ y < 2 ^ 64 ∧ ColRel w wr L A' c' av) (fun _ z _ => (intOf z).toNat)
      case atStart => exact ⟨x, tabTo T ar k, A', c', av, rfl, rfl, HF.out.symm, hx64, HCOL.out⟩
      case round =>
        obtain ⟨y, L, A', c', av, rfl, rfl, hL, hy, hcol⟩ := hrel
        have hlL : L.length ≤ 1536 := by
          have h1 := congrArg List.length hL
          rw [List.length_append] at h1
          have := tabTo_len T ar (k + 1)
          omega
        by_cases h0 : y = 0
        · subst h0
          rw [bitsOf_zero, List.map_nil, List.append_nil] at hL
          have HE := Lib.hid (And.intro hL hcol)
          clear hL hcol
          go_wp2_with fail
          go_roundw
          case rel => exact ⟨k + 1, A', c', av, by omega, by go_num, by rw [HE.out.1], by rw [← HE.out.1]; exact HE.out.2⟩
          case measure => simp [intOf]; omega
        · obtain ⟨hst, hlt2⟩ := bitsOf_step h0 hy
          have ht : ((y : Int) != 0) = true := by simpa using h0
          have HY := Lib.hid (And.intro hy (And.intro h0 hlt2))
          have HB := Lib.hid (show (L ++ [((k : Int), digits (Lib.ctz 64 y) q)]) ++ (bitsOf (y &&& (y - 1))).map (fun j => ((k : Int), digits j.toNat q)) = tabTo T ar (k + 1) by
            rw [List.append_assoc, List.singleton_append, ← hL, hst, List.map_cons]; rfl)
          have hkk : Lib.ctz 64 y < 64 := (Lib.lowest_bit 64 y h0 hy).2
          have HA := Lib.hid (show bits BinOp.and IntKind.u64 (y : Int) (IntKind.u64.wrap ((y : Int) - 1)) = ((y &&& (y - 1) : Nat) : Int) by
            have e1 : IntKind.u64.wrap ((y : Int) - 1) = ((y - 1 : Nat) : Int) := by rw [IntKind.wrap_u64]; omega
            rw [e1, bits_and_u64_nat y (y - 1) (by simpa using hy) (by omega)])
          have HP := Lib.hid hcol
          have HTT := Lib.hid (HT.out.below hcol.below)
          have HCC := Lib.hid (fun (w : World) (hw : Tab w) => tz64_any y (by simpa using hy) h0 w hw)
          generalize Lib.ctz 64 y = kk at hst HB hkk HCC
          clear hst hlt2 hy h0 hL hcol
          go_wp2_with (first
            | (go_at_call 51; refine (HCC.out _ HTT.out).mono ?_; rintro e w' ⟨rfl, rfl⟩)
            | (go_at_call 50; refine (constantDigits_any kk q _ (by omega) hq2).mono ?_; rintro e w4 ⟨A4, c4, rfl, ho4, hb4⟩
               have H4 := Lib.hid (And.intro ho4 hb4)
               have hz5 := hb4.size
               have hz6 := HP.out.below.size
               clear ho4 hb4)
            | (at_builtin; refine wpList_append_lies _ rfl (.tmp 27) (.tmp 34) 29 rfl w.heap.size 51 i0 (.agg #[.int .i64 0, .slice none 0 0]) 2 32 Tryz.underlying29 hi0 hz0 hz1 hz2 rfl (by decide) (.slice A' L.length c') L.length (flat L av) rfl ?c1 ⟨w4.heap.size, 0, none⟩ 1 1 [.int .i64 k, .slice A4 q c4] rfl rfl (news2 _ _ _ _) ?c2 (by omega) (by unfold maxLen; omega) (by omega) ?c3 _ rfl ?_))
          case c1 => exact (ownsRow_below HP.out.own.row HP.out.own.lt H4.out.2 (Nat.le_refl _)).alloc _
          case c2 => intro u hu; simp at hu; rcases hu with rfl | rfl <;> rfl
          case c3 => simp; omega
          intro g2 cap w5 hown hg _ _
          obtain ⟨av', hcol, hlen⟩ := HP.out.push (f := ((k : Int), digits kk q)) (a := .slice A4 q c4) rfl H4.out.2 H4.out.1 hg hown
          have HC := Lib.hid (And.intro hcol hlen)
          obtain ⟨L2, hL2⟩ : ∃ L2, L2 = L ++ [((k : Int), digits kk q)] := ⟨_, rfl⟩
          have hle : L.length + 1 = L2.length := by rw [hL2]; simp
          rw [hle]
          have HC := Lib.hid (show ColRel w w5 L2 (some ⟨g2, 0, none⟩) cap av' by rw [hL2]; exact hcol)
          rw [← hL2] at HB
          clear hcol hlen hown hg hle hL2
          go_wp2_with fail
          go_roundw
          case rel => exact ⟨y &&& (y - 1), L2, some ⟨g2, 0, none⟩, cap, av', by rw [HA.out], rfl, HB.out, Nat.lt_trans HY.out.2.2 HY.out.1, HC.out⟩
          case measure =>
            rw [HA.out]
            simp only [intOf]
            have := HY.out.2.2
            omega
    · have HO := Lib.hid (show OwnFacts wr w.heap.size wr.heap.size (.slice A' (tabTo T ar k).length c') (tabTo T ar k) ∧ tabTo T ar k = tabFacts T ar from ⟨hcol.own.own, by rw [show k = ar.length by omega]; rfl⟩)
      have hbe := hcol.below
      clear hcol
      rw [HO.out.2]
      go_wp2_with fail
      go_ret
      exact ⟨_, _, rfl, by rw [← HO.out.2]; exact HO.out.1, hbe⟩

end Go.Proofs.YtcceololijefiaaGreatDoor
