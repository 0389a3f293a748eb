/-
  Texts that the claim's last one imports, laid together: part 9 of 15. No condition of its own.
-/
import Derived.Deep.RegionHeld3
import Derived.Deep.RegionWith
import Derived.Deep.RegionLaw
import Derived.Laws.BitsAllLaws
import Derived.Deep.DeepCutAuto
import Derived.Laws.CopyOwn
import Derived.Deep.WholeRow
import Derived.Test.YtmnolnmpglanfaaGreatDoorMMb1
import Derived.Test.YtmnolnmpglanfaaGreatDoorMMb2
import Derived.Test.YtmnolnmpglanfaaGreatDoorMMb3
import Derived.Test.YtmnolnmpglanfaaGreatDoorMMb6
import Derived.Test.YtmnolnmpglanfaaGreatDoorMMb7
import Derived.Test.YtmnolnmpglanfaaGreatDoorMMb8
namespace Go.Proofs.YtmnolnmpglanfaaGreatDoor
open Go.RowKit
def progOk (p : LProg) : Bool := arityOk p.1 && (decide (p.2.length <= 60) && p.2.all (ruleFits p.1))
theorem progOk_spec (p : LProg) : progOk p = (p.2.all (ruleOk p.1) && (arityOk p.1 && decide (p.2.length <= 60))) := by
 unfold progOk
 by_cases ha : arityOk p.1 = true
 ·have : p.2.all (ruleOk p.1) = p.2.all (ruleFits p.1) := by
   congr 1
   funext r
   unfold ruleOk
   rw [ha, Bool.true_and]
  rw [this, ha]
  cases p.2.all (ruleFits p.1) <;> cases decide (p.2.length <= 60) <;> rfl
 ·have ha' : arityOk p.1 = false := by simpa using ha
  rw [ha']
  simp
set_option maxHeartbeats 1000000 in
set_option maxRecDepth 100000 in
theorem implProgramOk_any (v : Value) (p : LProg) (w : World) (h : RdProg w w.heap.size v p) (hs : szP p <= 1048576) :
 Calls Tryz.prog 122 #[v] w fun e w' => e = .returned (.bool (progOk p)) /\ Below w.heap.size w w' := by
 unfold szP at hs
 obtain ⟨a, b, rfl, h, h2⟩ := h
 have H := Lib.hid h
 have H2 := Lib.hid h2
 obtain ⟨A, c, rfl, hc, _⟩ := h
 obtain ⟨A2, c2, rfl, hc2, _⟩ := h2
 go_enter Tryz.func122, Tryz.ntmps122
 go_wp2_with (fail)
 refine (arityOk_any _ p.1 _ (H.out.on (below1 _ _)) (by omega)).mono ?_
 rintro e w2 ⟨rfl, hb2⟩
 have B2 := bthen (below1 _ _) hb2
 have x2 : Blk w2 w.heap.size 34 #[.slice A p.1.length c, .slice A2 p.2.length c2] := (Blk.new w _ _).below hb2 (by simp)
 have q1 : w2.cell? ⟨w.heap.size, 1, none⟩ = some (.slice A2 p.2.length c2) := x2.cell 1
 by_cases hf : arityOk p.1 = true
 ·rw [hf]
  have HF := Lib.hid hf
  clear hf hb2
  by_cases hl : p.2.length <= 60
  ·have hd : decide ((60 : Int) < (p.2.length : Int)) = false := by simp; omega
   have HL := Lib.hid (show progOk p = p.2.all (ruleFits p.1) by simp [progOk, HF.out, hl])
   go_wp2_with (fail)
   go_loopw [18] (fun i wr => ∃ k : Nat, k <= p.2.length /\ i = .int .i64 k /\ AllTo (ruleFits p.1) p.2 k /\ Below w2.heap.size w2 wr) (fun i _ => p.2.length - (intOf i).toNat)
   case atStart => exact ⟨0, Nat.zero_le _, rfl, AllTo.start, Below.refl _ _⟩
   case round =>
    obtain ⟨k, hk, rfl, hs, hbe⟩ := hrel
    have BW := bthen B2 hbe
    have xr := x2.below hbe x2.lt
    clear q1
    by_cases hlt : k < p.2.length
    ·obtain ⟨b, o, u0, u1, u2, rfl, hbB, k0, k1, k2, rfl, p3, p4⟩ := (H2.out.on BW).get hlt
     have HA := Lib.hid p3
     have HB := Lib.hid p4
     obtain ⟨A4, c4, rfl, hc4, _⟩ := p3
     obtain ⟨A5, c5, rfl, hc5, _⟩ := p4
     have hle := sz_le_totR p.2 k hlt
     have q0 : ∀ O, (wr.alloc O).cell? ⟨w.heap.size, 0, none⟩ = some (.slice A p.1.length c) := fun O => (xr.alloc O).cell 0
     go_wp2_with (fail)
     refine (ruleFits_any _ _ p.1 p.2[k] _ ((H.out.on BW).on (below1 _ _)) ⟨_, _, rfl, HA.out.on (below1 _ _), HB.out.on (below1 _ _)⟩ (by omega)).mono ?_
     rintro e w4 ⟨rfl, hb4⟩
     have B4 := bthen hbe (bthen (below1 _ _) hb4)
     by_cases he : ruleFits p.1 p.2[k] = true
     ·rw [he]
      have HS := Lib.hid (hs.step hlt he)
      clear hs he
      go_wp2_with (fail)
      go_roundw
      case rel => exact ⟨k + 1, by omega, by go_num, HS.out, B4⟩
      case measure => simp [intOf]; omega
     ·have he' : ruleFits p.1 p.2[k] = false := by simpa using he
      rw [he']
      have HE := Lib.hid (show progOk p = false by rw [HL.out, all_not hlt he'])
      clear hs he he'
      go_wp2_with (fail)
      go_ret
      exact ⟨ret_bool HE.out.symm, bthen B2 B4⟩
    ·have HE := Lib.hid (show progOk p = true by rw [HL.out, hs.done (by omega)])
     clear hs
     go_wp2_with (fail)
     go_ret
     exact ⟨ret_bool HE.out.symm, BW⟩
  ·have hd : decide ((60 : Int) < (p.2.length : Int)) = true := by simp; omega
   have HE := Lib.hid (show progOk p = false by simp [progOk, hl])
   go_wp2_with (fail)
   go_ret
   exact ⟨ret_bool HE.out.symm, B2⟩
 ·have hf' : arityOk p.1 = false := by simpa using hf
  rw [hf']
  have HE := Lib.hid (show progOk p = false by simp [progOk, hf'])
  clear hf hf'
  go_wp2_with (fail)
  go_ret
  exact ⟨ret_bool HE.out.symm, B2⟩
set_option maxHeartbeats 1000000 in
set_option maxRecDepth 100000 in
theorem specProgramOk_any (v : Value) (p : LProg) (w : World) (h : RdProg w w.heap.size v p) (hs : szP p <= 1048576) :
 Calls Tryz.prog 106 #[v] w fun e w' => e = .returned (.bool (progOk p)) /\ Below w.heap.size w w' := by
 unfold szP at hs
 obtain ⟨a, b, rfl, h, h2⟩ := h
 have H := Lib.hid h
 have H2 := Lib.hid h2
 have HP := Lib.hid (progOk_spec p)
 obtain ⟨A, c, rfl, hc, _⟩ := h
 obtain ⟨A2, c2, rfl, hc2, _⟩ := h2
 go_enter Tryz.func106, Tryz.ntmps106
 go_wp2_with (fail)
 obtain ⟨w2, hw2⟩ : ∃ w2, w2 = w.alloc (Obj.cells #[Value.slice A p.1.length c, Value.slice A2 p.2.length c2] 34) := ⟨_, rfl⟩
 have B2 : Below w.heap.size w w2 := by rw [hw2]; exact below1 _ _
 have x2 : Blk w2 w.heap.size 34 #[.slice A p.1.length c, .slice A2 p.2.length c2] := by rw [hw2]; exact Blk.new _ _ _
 rw [<- hw2]
 clear hw2
 go_loopw [3] (fun i wr => ∃ k : Nat, k <= p.2.length /\ i = .int .i64 k /\ AllTo (ruleOk p.1) p.2 k /\ Below w2.heap.size w2 wr) (fun i _ => p.2.length - (intOf i).toNat)
 case atStart => exact ⟨0, Nat.zero_le _, rfl, AllTo.start, Below.refl _ _⟩
 case round =>
  obtain ⟨k, hk, rfl, hs, hbe⟩ := hrel
  have BW := bthen B2 hbe
  have xr := x2.below hbe x2.lt
  have q0 : wr.cell? ⟨w.heap.size, 0, none⟩ = some (.slice A p.1.length c) := xr.cell 0
  have q1 : wr.cell? ⟨w.heap.size, 1, none⟩ = some (.slice A2 p.2.length c2) := xr.cell 1
  by_cases hlt : k < p.2.length
  ·obtain ⟨b, o, u0, u1, u2, rfl, hbB, k0, k1, k2, rfl, p3, p4⟩ := (H2.out.on BW).get hlt
   have HA := Lib.hid p3
   have HB := Lib.hid p4
   obtain ⟨A4, c4, rfl, hc4, _⟩ := p3
   obtain ⟨A5, c5, rfl, hc5, _⟩ := p4
   have hle := sz_le_totR p.2 k hlt
   have L0 := later_cell k0
   have L1 := later_cell k1
   have L2 := later_cell k2
   have L3 := later_cell q0
   have L4 := later_cell q1
   by_cases he : ruleOk p.1 p.2[k] = true
   ·have CF := Lib.hid (fun x : Later wr => (specRuleOk_any (.slice A p.1.length c) (.agg #[.int .i64 p.2[k].1.1, .slice A4 p.2[k].1.2.length c4, .slice A5 p.2[k].2.length c5]) p.1 p.2[k] x.val ((H.out.on BW).on x.2) ⟨_, _, rfl, HA.out.on x.2, HB.out.on x.2⟩ (by omega) (by omega)).mono fun e w' (hh : e = .returned (.bool (ruleOk p.1 p.2[k])) /\ Below x.val.heap.size x.val w') => (⟨by rw [hh.1, he], hh.2⟩ : e = .returned (.bool true) /\ Below x.val.heap.size x.val w'))
    have HS := Lib.hid (hs.step hlt he)
    clear hs he
    go_wp2_with (fail)
    clear k0 k1 k2 q0 q1
    refine wp_region_later (by kernel_rfl) (by kernel_rfl) ?_
    repeat (go_big_quiet_step ((go_at_call 161; exact later_of (CF.out _))))
    refine wpQuiet_nil ?_
    rintro _ ⟨xq, rfl⟩
    go_wp2_with (fail)
    go_roundw
    case rel => exact ⟨k + 1, by omega, by go_num, HS.out, bthen hbe xq.2⟩
    case measure => simp [intOf]; omega
   ·have he' : ruleOk p.1 p.2[k] = false := by simpa using he
    have CF := Lib.hid (fun x : Later wr => (specRuleOk_any (.slice A p.1.length c) (.agg #[.int .i64 p.2[k].1.1, .slice A4 p.2[k].1.2.length c4, .slice A5 p.2[k].2.length c5]) p.1 p.2[k] x.val ((H.out.on BW).on x.2) ⟨_, _, rfl, HA.out.on x.2, HB.out.on x.2⟩ (by omega) (by omega)).mono fun e w' (hh : e = .returned (.bool (ruleOk p.1 p.2[k])) /\ Below x.val.heap.size x.val w') => (⟨by rw [hh.1, he'], hh.2⟩ : e = .returned (.bool false) /\ Below x.val.heap.size x.val w'))
    have HE := Lib.hid (show progOk p = false by rw [HP.out, all_not hlt he']; rfl)
    clear hs he he'
    go_wp2_with (fail)
    clear k0 k1 k2 q0 q1
    refine wp_region_later (by kernel_rfl) (by kernel_rfl) ?_
    repeat (go_big_quiet_step ((go_at_call 161; exact later_of (CF.out _))))
    refine wpQuiet_nil ?_
    rintro _ ⟨xq, rfl⟩
    go_wp2_with (fail)
    go_ret
    exact ⟨ret_bool HE.out.symm, bthen BW xq.2⟩
  ·have HE := Lib.hid (show progOk p = (arityOk p.1 && decide (p.2.length <= 60)) by rw [HP.out, hs.done (by omega), Bool.true_and])
   clear hs
   go_wp2_with (fail)
   refine (specArityOk_any _ p.1 _ (H.out.on BW) (by omega)).mono ?_
   rintro e w' ⟨rfl, rfl⟩
   by_cases hf : arityOk p.1 = true
   ·rw [hf]
    by_cases hl : p.2.length <= 60
    ·have hd : decide ((p.2.length : Int) <= 60) = true := by simp; omega
     have HE2 := Lib.hid (show progOk p = true by rw [HE.out, hf]; simp [hl])
     clear hf
     go_wp2_with (fail)
     go_ret
     exact ⟨ret_bool (by rw [HE2.out]), BW⟩
    ·have hd : decide ((p.2.length : Int) <= 60) = false := by simp; omega
     have HE2 := Lib.hid (show progOk p = false by rw [HE.out]; simp [hl])
     clear hf
     go_wp2_with (fail)
     go_ret
     exact ⟨ret_bool (by rw [HE2.out]), BW⟩
   ·have hf' : arityOk p.1 = false := by simpa using hf
    rw [hf']
    have HE2 := Lib.hid (show progOk p = false by rw [HE.out, hf']; rfl)
    clear hf hf'
    go_wp2_with (fail)
    go_ret
    exact ⟨ret_bool HE2.out.symm, BW⟩
open Go.RowKit
set_option maxHeartbeats 400000 in
set_option maxRecDepth 100000 in
theorem specFactOk_any (v v2 : Value) (ar : List Int) (f : LFact) (w : World) (h : RdInts w w.heap.size v ar) (h2 : RdFact w w.heap.size v2 f) (hr : ar.length <= 1048576) (hn : f.2.length <= 1048576) :
 Calls Tryz.prog 119 #[v, v2] w fun e w' => e = .returned (.bool (factOk ar f)) /\ Below w.heap.size w w' := by
 have H := Lib.hid h
 have H2 := Lib.hid h2
 obtain ⟨pp, xs⟩ := f
 obtain ⟨A, c, rfl, hc, h⟩ := h
 obtain ⟨a, rfl, A2, c2, rfl, hc2, h2⟩ := h2
 by_cases ha : arityOk ar = true
 ·have CA : ∀ W, Below w.heap.size w W -> Calls Tryz.prog 121 #[.slice A ar.length c] W fun e w' => e = .returned (.bool true) /\ w' = W := fun W hW =>
   (specArityOk_any _ ar W (H.out.on hW) (by omega)).mono fun e w' ⟨he, hw⟩ => ⟨by rw [he, ha], hw.symm⟩
  have HCA := Lib.hid CA
  have HA := Lib.hid ha
  clear CA ha
  by_cases hp : 0 <= pp /\ pp <= (ar.length : Int) - 1
  ·have HCL := Lib.hid (l1In_yes hp)
   obtain ⟨p, rfl⟩ := Int.eq_ofNat_of_zero_le hp.1
   have hlt : p < ar.length := by omega
   have hltI : (p : Int) < (ar.length : Int) := by omega
   obtain ⟨b, o, rfl, hbB, hx⟩ := h (by omega)
   have hck : ∀ O, (w.alloc O).cell? ⟨b, o + p, none⟩ = some (.int .i64 ar[p]) := fun O => (World.cell?_alloc_lt w O ⟨b, o + p, none⟩ hbB).trans (hx p hlt)
   clear hp
   by_cases h3 : (xs.length : Int) = ar[p]
   ·have hd3 : ((xs.length : Int) != ar[p]) = false := by simp [h3]
    have H3 := Lib.hid (show factOk ar ((p : Int), xs) = xs.all constOk by simp [factOk, HA.out, factFits, hlt, h3])
    clear h3 hx h
    go_enter Tryz.func119, Tryz.ntmps119
    go_wp2_with (fail)
    go_quiet (first | (go_at_call 121; exact Calls.quiet_of_same (HCA.out _ (bdrewN (below1 _ _) _))) | (go_at_call 124; exact quiet_left (HCL.out _)))
    go_wp2_with (fail)
    obtain ⟨w1, hw1⟩ : ∃ w1, w1 = (w.alloc (Obj.cells #[Value.int IntKind.i64 ↑p, Value.slice A2 xs.length c2] 66)).drewN nq := ⟨_, rfl⟩
    rw [<- hw1]
    have hbe : Below w.heap.size w w1 := by rw [hw1]; exact bdrewN (below1 _ _) _
    have hblk : Blk w1 w.heap.size 66 #[.int .i64 p, .slice A2 xs.length c2] := by rw [hw1]; exact (Blk.new w _ _).drewN _
    have hc1 : w1.cell? ⟨w.heap.size, 1, none⟩ = some (.slice A2 xs.length c2) := hblk.cell 1
    clear hw1 hck
    go_loop [5] (fun i => ∃ k : Nat, k <= xs.length /\ i = .int .i64 k /\ ConstsTo xs k) (fun i => xs.length - (intOf i).toNat)
    case atStart => exact ⟨0, Nat.zero_le _, rfl, fun j hj => absurd hj (by omega)⟩
    case round =>
     obtain ⟨k, hk, rfl, hs⟩ := hrel
     by_cases hlk : k < xs.length
     ·obtain ⟨b2, o2, rfl, hbB2, hx2⟩ := h2 (by show 0 < xs.length; omega)
      have hck2 : w1.cell? ⟨b2, o2 + k, none⟩ = some (.int .i64 xs[k]) := (hbe.cell (p := ⟨b2, o2 + k, none⟩) hbB2).trans (hx2 k hlk)
      clear hx2 h2
      by_cases he : 0 <= xs[k] /\ xs[k] <= 5
      ·have HS := Lib.hid (hs.step (by simpa [hlk, constOk] using he))
       have HK := Lib.hid (l1In_yes he)
       clear hs he
       go_wp2_with (go_at_call 124; refine (HK.out _).mono ?_; rintro e w' ⟨rfl, rfl⟩)
       go_round
       case rel => exact ⟨k + 1, by omega, by go_num, HS.out⟩
       case measure => simp [intOf]; omega
      ·have HE := Lib.hid (consts_not hlk (by simpa [constOk] using he))
       have HK := Lib.hid (l1In_no he)
       clear hs he
       go_wp2_with (go_at_call 124; refine (HK.out _).mono ?_; rintro e w' ⟨rfl, rfl⟩)
       go_ret
       exact ⟨ret_bool (by rw [H3.out, HE.out]), hbe⟩
     ·have hkn : k = xs.length := by omega
      have HE := Lib.hid (show xs.all constOk = true from ConstsTo.all (by rw [<- hkn]; exact hs))
      clear hkn hs h2
      go_wp2_with (fail)
      go_ret
      exact ⟨ret_bool (by rw [H3.out, HE.out]), hbe⟩
   ·have hd3 : ((xs.length : Int) != ar[p]) = true := by simp [h3]
    have HE := Lib.hid (show factOk ar ((p : Int), xs) = false by simp [factOk, factFits, hlt, h3])
    clear h3 hx h
    go_enter Tryz.func119, Tryz.ntmps119
    go_wp2_with (fail)
    go_quiet (first | (go_at_call 121; exact Calls.quiet_of_same (HCA.out _ (bdrewN (below1 _ _) _))) | (go_at_call 124; exact quiet_left (HCL.out _)))
    go_wp2_with (fail)
    go_ret
    exact ⟨ret_bool HE.out.symm, bdrewN (below1 _ _) _⟩
  ·have HCL := Lib.hid (l1In_no hp)
   have HE := Lib.hid (show factOk ar (pp, xs) = false by simp [factOk, factFits]; omega)
   clear hp
   go_enter Tryz.func119, Tryz.ntmps119
   go_wp2_with (fail)
   go_quiet (first | (go_at_call 121; exact Calls.quiet_of_same (HCA.out _ (bdrewN (below1 _ _) _))) | (go_at_call 124; exact quiet_left (HCL.out _)))
   go_wp2_with (fail)
   go_ret
   exact ⟨ret_bool HE.out.symm, bdrewN (below1 _ _) _⟩
 ·have CA : ∀ W, Below w.heap.size w W -> Calls Tryz.prog 121 #[.slice A ar.length c] W fun e w' => e = .returned (.bool false) /\ w' = W := fun W hW =>
   (specArityOk_any _ ar W (H.out.on hW) (by omega)).mono fun e w' ⟨he, hw⟩ => ⟨by rw [he, show arityOk ar = false by simpa using ha], hw.symm⟩
  have HCA := Lib.hid CA
  have HE := Lib.hid (show factOk ar (pp, xs) = false by simp [factOk, ha])
  clear CA ha
  go_enter Tryz.func119, Tryz.ntmps119
  go_wp2_with (fail)
  go_quiet (first | (go_at_call 121; exact Calls.quiet_of_same (HCA.out _ (bdrewN (below1 _ _) _))))
  go_wp2_with (fail)
  go_ret
  exact ⟨ret_bool HE.out.symm, bdrewN (below1 _ _) _⟩
open Go.RowKit
def roundOk (ar : List Int) (fs : List LFact) (k : Nat) : Bool := factFits ar (fs.getD k (0, [])) && (decide (k = 0) || decide (factOrder (fs.getD (k - 1) (0, [])) (fs.getD k (0, [])) < 0))
def factsOk (ar : List Int) (fs : List LFact) : Bool := arityOk ar && (List.range fs.length).all (roundOk ar fs)
def OkTo (ar : List Int) (fs : List LFact) (k : Nat) : Prop := (List.range k).all (roundOk ar fs) = true
theorem OkTo.step {ar : List Int} {fs : List LFact} {k : Nat} (h : OkTo ar fs k) (e : roundOk ar fs k = true) : OkTo ar fs (k + 1) := by
 unfold OkTo at h ⊢
 rw [List.range_succ, List.all_append, h]
 simp [e]
theorem round_not {ar : List Int} {fs : List LFact} {k : Nat} (hk : k < fs.length) (e : roundOk ar fs k = false) : factsOk ar fs = false := by
 unfold factsOk
 have : (List.range fs.length).all (roundOk ar fs) = false := by
  rw [List.all_eq_false]
  exact ⟨k, List.mem_range.2 hk, by simp [e]⟩
 rw [this, Bool.and_false]
theorem getD_at {α : Type} {l : List α} {k : Nat} (h : k < l.length) {d : α} : l.getD k d = l[k] := by simp [h]
theorem round_first {ar : List Int} {fs : List LFact} {k : Nat} (hk : k < fs.length) (h : factFits ar fs[k] = true) (h0 : k = 0) : roundOk ar fs k = true := by
 unfold roundOk
 rw [getD_at hk, h]
 simp [h0]
theorem round_next {ar : List Int} {fs : List LFact} {j : Nat} (hk : j + 1 < fs.length) (hj : j < fs.length) (h : factFits ar fs[j + 1] = true) : roundOk ar fs (j + 1) = decide (factOrder fs[j] fs[j + 1] < 0) := by
 unfold roundOk
 rw [getD_at hk, h, Nat.add_sub_cancel, getD_at hj]
 simp
theorem round_unfit {ar : List Int} {fs : List LFact} {k : Nat} (hk : k < fs.length) (h : factFits ar fs[k] = false) : roundOk ar fs k = false := by
 unfold roundOk
 rw [getD_at hk, h]
 simp
set_option maxHeartbeats 1000000 in
set_option maxRecDepth 100000 in
theorem specFactsOk_any (v v2 : Value) (ar : List Int) (fs : List LFact) (w : World) (h : RdInts w w.heap.size v ar) (h2 : RdFacts w w.heap.size v2 fs) (hr : ar.length <= 1048576) (hn : fs.length <= 1048576) (ht : tot fs <= 1048576) :
 Calls Tryz.prog 73 #[v, v2] w fun e w' => e = .returned (.bool (factsOk ar fs)) /\ Below w.heap.size w w' := by
 have H := Lib.hid h
 have H2 := Lib.hid h2
 obtain ⟨A, c, rfl, hc, _⟩ := h
 obtain ⟨A2, c2, rfl, hc2, _⟩ := h2
 go_enter Tryz.func73, Tryz.ntmps73
 go_wp2_with (fail)
 go_loopw [5] (fun i wr => ∃ k : Nat, k <= fs.length /\ i = .int .i64 k /\ OkTo ar fs k /\ Below w.heap.size w wr) (fun i _ => fs.length - (intOf i).toNat)
 case atStart => exact ⟨0, Nat.zero_le _, rfl, by simp [OkTo], Below.refl _ _⟩
 case round =>
  obtain ⟨k, hk, rfl, hs, hbe⟩ := hrel
  by_cases hlt : k < fs.length
  ·obtain ⟨b, o, A3, c3, rfl, hbB, k1, k2, k3⟩ := (H2.out.on hbe).get hlt
   have K3 := Lib.hid (show RdFact wr wr.heap.size (.agg #[.int .i64 fs[k].1, .slice A3 fs[k].2.length c3]) fs[k] from ⟨_, rfl, k3⟩)
   have hln := len_le_tot fs k hlt
   have L1 := later_cell k1
   have L2 := later_cell k2
   clear k1 k2 k3
   by_cases hfo : factOk ar fs[k] = true
   ·have CF := Lib.hid (fun x : Later wr => (specFactOk_any _ _ ar fs[k] x.val ((H.out.on hbe).on x.2) (K3.out.on x.2) hr (by omega)).mono fun e w' (hh : e = .returned (.bool (factOk ar fs[k])) /\ Below x.val.heap.size x.val w') => (⟨by rw [hh.1, hfo], hh.2⟩ : e = .returned (.bool true) /\ Below x.val.heap.size x.val w'))
    have hff : factFits ar fs[k] = true := by
     unfold factOk at hfo
     exact (Bool.and_eq_true _ _ ▸ hfo).2
    have HA := Lib.hid (show arityOk ar = true by
     unfold factOk at hfo
     exact (Bool.and_eq_true _ _ ▸ hfo).1)
    clear hfo
    rcases Nat.eq_zero_or_pos k with hk0 | hk0
    ·have hd : decide (0 < k) = false := by simp [hk0]
     have HS := Lib.hid (hs.step (round_first hlt hff hk0) : OkTo ar fs (k + 1))
     clear hs hk0 hff
     go_wp2_with (fail)
     refine wp_region_later (by kernel_rfl) (by kernel_rfl) ?_
     repeat (go_big_quiet_step ((go_at_call 119; exact later_of (CF.out _))))
     refine wpQuiet_nil ?_
     rintro _ ⟨xq, rfl⟩
     go_wp2_with (fail)
     go_roundw
     case rel => exact ⟨k + 1, by omega, by go_num, HS.out, bthen hbe xq.2⟩
     case measure => simp [intOf]; omega
    ·obtain ⟨j, rfl⟩ : ∃ j, k = j + 1 := ⟨k - 1, by omega⟩
     have hltj : j < fs.length := by omega
     obtain ⟨b', o', A4, c4, e4, hbB', m1, m2, m3⟩ := (H2.out.on hbe).get hltj
     simp only [Option.some.injEq, Addr.mk.injEq, and_true] at e4
     obtain ⟨rfl, rfl⟩ := e4
     have K4 := Lib.hid (show RdFact wr wr.heap.size (.agg #[.int .i64 fs[j].1, .slice A4 fs[j].2.length c4]) fs[j] from ⟨_, rfl, m3⟩)
     have hlnj := len_le_tot fs j hltj
     have M1 := later_cell m1
     have M2 := later_cell m2
     have CO := Lib.hid (fun x : Later wr => specFactOrder_any _ _ fs[j] fs[j + 1] x.val (K4.out.on x.2) (K3.out.on x.2) (by omega) (by omega))
     clear m1 m2 m3
     by_cases hlo : factOrder fs[j] fs[j + 1] < 0
     ·have hd : decide (0 <= factOrder fs[j] fs[j + 1]) = false := by simp; omega
      have HS := Lib.hid (hs.step (by rw [round_next hlt hltj hff]; simp [hlo]) : OkTo ar fs (j + 1 + 1))
      clear hs hff
      go_wp2_with (fail)
      refine wp_region_later (by kernel_rfl) (by kernel_rfl) ?_
      repeat (go_big_quiet_step (first | (go_at_call 119; exact later_of (CF.out _)) | (go_at_call 120; exact later_of (CO.out _))))
      refine wpQuiet_nil ?_
      rintro _ ⟨xq, rfl⟩
      go_wp2_with (fail)
      go_roundw
      case rel => exact ⟨j + 1 + 1, by omega, by go_num, HS.out, bthen hbe xq.2⟩
      case measure => simp [intOf]; omega
     ·have hd : decide (0 <= factOrder fs[j] fs[j + 1]) = true := by simp; omega
      have HE := Lib.hid (show factsOk ar fs = false from round_not hlt (by rw [round_next hlt hltj hff]; simp [hlo]))
      clear hs hff
      go_wp2_with (fail)
      refine wp_region_later (by kernel_rfl) (by kernel_rfl) ?_
      repeat (go_big_quiet_step (first | (go_at_call 119; exact later_of (CF.out _)) | (go_at_call 120; exact later_of (CO.out _))))
      refine wpQuiet_nil ?_
      rintro _ ⟨xq, rfl⟩
      go_wp2_with (fail)
      go_ret
      exact ⟨ret_bool HE.out.symm, bthen hbe xq.2⟩
   ·have CF := Lib.hid (fun x : Later wr => (specFactOk_any _ _ ar fs[k] x.val ((H.out.on hbe).on x.2) (K3.out.on x.2) hr (by omega)).mono fun e w' (hh : e = .returned (.bool (factOk ar fs[k])) /\ Below x.val.heap.size x.val w') => (⟨by rw [hh.1, show factOk ar fs[k] = false by simpa using hfo], hh.2⟩ : e = .returned (.bool false) /\ Below x.val.heap.size x.val w'))
    have HE := Lib.hid (show factsOk ar fs = false by
     by_cases ha : arityOk ar = true
     ·exact round_not hlt (round_unfit hlt (by simpa [factOk, ha] using hfo))
     ·simp [factsOk, ha])
    clear hs hfo
    go_wp2_with (fail)
    refine wp_region_later (by kernel_rfl) (by kernel_rfl) ?_
    repeat (go_big_quiet_step ((go_at_call 119; exact later_of (CF.out _))))
    refine wpQuiet_nil ?_
    rintro _ ⟨xq, rfl⟩
    go_wp2_with (fail)
    go_ret
    exact ⟨ret_bool HE.out.symm, bthen hbe xq.2⟩
  ·have hkn : k = fs.length := by omega
   have HE := Lib.hid (show factsOk ar fs = arityOk ar by unfold factsOk; unfold OkTo at hs; rw [<- hkn, hs, Bool.and_true])
   clear hkn hs
   go_wp2_with (fail)
   refine (specArityOk_any _ ar _ (H.out.on hbe) (by omega)).mono ?_
   rintro e w2 ⟨rfl, rfl⟩
   go_wp2_with (fail)
   go_ret
   exact ⟨ret_bool HE.out.symm, hbe⟩
open Go.RowKit
open Go.RowKit
theorem factsOk_parts {ar : List Int} {fs : List LFact} (h : factsOk ar fs = true) : arityOk ar = true /\ (∀ f ∈ fs, factFits ar f = true) /\ Asc fs := by
 simp only [factsOk, Bool.and_eq_true, List.all_eq_true, List.mem_range] at h
 obtain ⟨h1, h2⟩ := h
 refine ⟨h1, fun f hf => ?_, ?_⟩
 ·obtain ⟨k, hk, rfl⟩ := List.getElem_of_mem hf
  have := h2 k hk
  unfold roundOk at this
  rw [getD_at hk, Bool.and_eq_true] at this
  exact this.1
 ·have hs : ∀ k (h0 : k + 1 < fs.length), factOrder (fs[k]'(by omega)) fs[k + 1] < 0 := fun k h0 => by
   have := h2 (k + 1) h0
   unfold roundOk at this
   rw [getD_at h0, Nat.add_sub_cancel, getD_at (show k < fs.length by omega), Bool.and_eq_true] at this
   simpa using this.2
  have hd : ∀ d k (h0 : k + d + 1 < fs.length), factOrder (fs[k]'(by omega)) fs[k + d + 1] < 0 := fun d => by
   induction d with
   | zero => intro k h0; exact hs k h0
   | succ d ih =>
    intro k h0
    exact order_less (ih k (by omega)) (hs (k + d + 1) h0)
  unfold Asc
  rw [List.pairwise_iff_getElem]
  intro i j hi hj hij
  obtain ⟨d, rfl⟩ : ∃ d, j = i + d + 1 := ⟨j - i - 1, by omega⟩
  exact hd d i hj
theorem prog_parts {p : LProg} (h : progOk p = true) : arityOk p.1 = true /\ p.2.length <= 60 /\ ∀ r ∈ p.2, ruleFits p.1 r = true := by
 simp only [progOk, Bool.and_eq_true, decide_eq_true_eq, List.all_eq_true] at h
 exact ⟨h.1, h.2.1, h.2.2⟩
open Go.RowKit
theorem safeTo_or {a b y : Nat} (h : safeTo (a ||| b) y 4 = true) : safeTo b y 4 = true := by
 rw [safeTo_iff] at h ⊢
 intro v hv hb
 exact h v hv (by rw [Nat.testBit_or, hb, Bool.or_true])
theorem fits_body {ar : List Int} {r : LRule} (h : ruleFits ar r = true) : bodySafe r.2 = true := by
 simp only [ruleFits, Bool.and_eq_true, decide_eq_true_eq] at h
 obtain ⟨_, h4, hl, hs⟩ := h
 unfold bodySafe
 rw [Bool.and_eq_true, Bool.and_eq_true, decide_eq_true_eq, List.all_eq_true]
 refine ⟨⟨fun l hm => ?_, h4⟩, ?_⟩
 ·have hf := List.all_eq_true.1 hl l hm
  refine litFine_yes ?_ (lit_terms hf)
  unfold litFits at hf
  split at hf
  ·omega
  ·split at hf
   ·omega
   ·cases hf
 ·rw [ruleSafe_eq] at hs ⊢
  rw [ruleMask_body]
  exact safeTo_or hs
theorem fits_head {ar : List Int} {r : LRule} (h : ruleFits ar r = true) : ∀ v, v < 4 -> (maskOf r.1.2).testBit v = true -> ∃ l ∈ r.2, l.1 = 0 /\ (maskOf l.2.2).testBit v = true := by
 simp only [ruleFits, Bool.and_eq_true, decide_eq_true_eq] at h
 obtain ⟨_, _, _, hs⟩ := h
 rw [ruleSafe_eq, safeTo_iff] at hs
 intro v hv hm
 have := hs v hv (by unfold ruleMask; rw [Nat.testBit_or, hm, Bool.true_or])
 unfold yesMask at this
 rw [yesMask_bit] at this
 simpa using this
theorem sols_head {ar : List Int} {r : LRule} {fs : List LFact} {S : List (List Int)} (h : ruleFits ar r = true) (hS : IsSols (questL fs r.2) S) : ∀ b ∈ S, headOk r.1 b = true := by
 intro b hb
 obtain ⟨h1, h2, _⟩ := (hS.2 b).1 hb
 have hf := h
 simp only [ruleFits, atomFits, Bool.and_eq_true, decide_eq_true_eq] at hf
 refine headOk_yes h1 hf.1.2 (List.all_eq_true.2 fun x hx => ?_)
 obtain ⟨t, ht, rfl⟩ := List.mem_map.1 hx
 have htk : termOk t = true := List.all_eq_true.1 hf.1.2 t ht
 have hbd := termVal_bounds h1 htk
 rcases term_cases htk with h' | ⟨v, hv, rfl⟩
 ·rw [termVal_const h'.1]
  simp [constOk]
  exact h'
 ·have hm : (maskOf r.1.2).testBit v = true := by unfold maskOf; rw [maskFrom_bit hv]; exact .inr ht
  obtain ⟨l, hl, _, hlm⟩ := fits_head h v hv hm
  have hne := (h2 v hv).2 ⟨(l, fs), List.mem_map.2 ⟨l, hl, rfl⟩, hlm⟩
  rw [termVal_v] at hbd ⊢
  unfold constOk
  exact decide_eq_true (by omega)
theorem headsTo_mem (a : LFact) (S : List (List Int)) (f : LFact) : ∀ k, k <= S.length -> (f ∈ headsTo a S k <-> ∃ b ∈ S.take k, headOk a b = true /\ f = headOf a b)
 | 0, _ => by simp [headsTo]
 | k + 1, hk => by
  have ih := headsTo_mem a S f k (by omega)
  have hlt : k < S.length := by omega
  rw [take_snoc S k hlt]
  cases e : headOk a S[k]
  ·rw [headsTo_no hlt e, ih]
   constructor
   ·rintro ⟨b, hb, h⟩; exact ⟨b, List.mem_append_left _ hb, h⟩
   ·rintro ⟨b, hb, h⟩
    rcases List.mem_append.1 hb with hb | hb
    ·exact ⟨b, hb, h⟩
    ·obtain rfl : b = S[k] := by simpa using hb
     rw [e] at h; cases h.1
  ·rw [headsTo_yes hlt e, factsWith_mem, ih]
   constructor
   ·rintro (⟨b, hb, h⟩ | rfl)
    ·exact ⟨b, List.mem_append_left _ hb, h⟩
    ·exact ⟨S[k], List.mem_append_right _ (List.mem_singleton_self _), e, rfl⟩
   ·rintro ⟨b, hb, h⟩
    rcases List.mem_append.1 hb with hb | hb
    ·exact .inl ⟨b, hb, h⟩
    ·obtain rfl : b = S[k] := by simpa using hb
     exact .inr h.2
theorem headsL_mem {ar : List Int} {r : LRule} {fs : List LFact} {S : List (List Int)} (h : ruleFits ar r = true) (hS : IsSols (questL fs r.2) S) (hc : ∀ f ∈ fs, f.2.all constOk = true) (hn : fs.Nodup) (f : LFact) :
 f ∈ headsL r fs <-> ∃ b ∈ S, f = (r.1.1, r.1.2.map (termVal b)) := by
 obtain ⟨_, h2⟩ := solsOf_is (fs := fs) (gs := fs) (SafeB.of (fits_body h)) hc hn (fun _ => Iff.rfl)
 unfold headsL
 rw [headsTo_mem _ _ _ _ (Nat.le_refl _), List.take_length]
 constructor
 ·rintro ⟨b, hb, e, rfl⟩
  exact ⟨b, (hS.2 b).2 ((h2.2 b).1 hb), headOf_yes e⟩
 ·rintro ⟨b, hb, rfl⟩
  have e := sols_head h hS b hb
  exact ⟨b, (h2.2 b).2 ((hS.2 b).1 hb), e, (headOf_yes e).symm⟩
open Go.RowKit
def setBit (T : List Nat) (p n : Nat) : List Nat := T.set p (T.getD p 0 ||| 2 ^ n)
def tabCells (T : List Nat) : Array Value := (T.map fun x => Value.int .u64 ((x : Nat) : Int)).toArray
def TabAt (w : World) (g : Nat) (T : List Nat) : Prop := Blk w g 88 (tabCells T) /\ T.length = 24 /\ ∀ x ∈ T, x < 18446744073709551616
theorem TabAt.cell {w : World} {g p : Nat} {T : List Nat} (h : TabAt w g T) (hp : p < 24) : w.cell? ⟨g, p, none⟩ = some (.int .u64 ((T.getD p 0 : Nat) : Int)) := by
 rw [h.1.cell p]
 have : p < T.length := by rw [h.2.1]; exact hp
 simp [tabCells, this]
theorem TabAt.lt {w : World} {g p : Nat} {T : List Nat} (h : TabAt w g T) : T.getD p 0 < 18446744073709551616 := by
 by_cases hp : p < T.length
 ·have : T.getD p 0 = T[p] := by simp [hp]
  rw [this]
  exact h.2.2 _ (List.getElem_mem hp)
 ·simp [List.getD_eq_getElem?_getD, List.getElem?_eq_none (by omega : T.length <= p)]
theorem TabAt.set {w : World} {g p n : Nat} {T : List Nat} (h : TabAt w g T) (hn : n < 64) : TabAt (w.setCell ⟨g, p, none⟩ (.int .u64 ((T.getD p 0 ||| 2 ^ n : Nat) : Int))) g (setBit T p n) := by
 have hlt := h.lt (p := p)
 obtain ⟨h1, h2, h3⟩ := h
 refine ⟨?_, by simp [setBit, h2], fun x hx => ?_⟩
 ·have := h1.set_ p (.int .u64 ((T.getD p 0 ||| 2 ^ n : Nat) : Int))
  have e : tabCells (setBit T p n) = (tabCells T).setIfInBounds p (.int .u64 ((T.getD p 0 ||| 2 ^ n : Nat) : Int)) := by
   unfold tabCells setBit
   rw [List.map_set]
   simp
  rw [e]
  exact this
 ·rcases List.mem_or_eq_of_mem_set hx with h4 | rfl
  ·exact h3 x h4
  ·exact Nat.or_lt_two_pow (n := 64) hlt (Nat.pow_lt_pow_right (by decide) hn)
theorem bit_one_t (x n : Nat) (hx : x < 18446744073709551616) : (bits .and .u64 ((x : Int) / 2 ^ n) 1 == 1) = x.testBit n := by
 have e : ((x : Int) / 2 ^ n) = ((x / 2 ^ n : Nat) : Int) := by simp
 have h1 : x / 2 ^ n < 18446744073709551616 := Nat.lt_of_le_of_lt (Nat.div_le_self _ _) hx
 rw [e, show (1 : Int) = ((1 : Nat) : Int) from rfl, u64_and_nat _ 1 h1 (by decide), Nat.and_one_is_mod]
 have h2 : x.testBit n = decide (x / 2 ^ n % 2 = 1) := by
  rw [Nat.testBit, Nat.shiftRight_eq_div_pow, Nat.one_and_eq_mod_two]
  have := Nat.mod_two_eq_zero_or_one (x / 2 ^ n)
  rcases this with h | h <;> simp [h]
 rw [h2, Bool.eq_iff_iff, beq_iff_eq, decide_eq_true_eq]
 omega
open Go.RowKit
def numF (xs : List Int) : Nat := xs.foldl (fun n c => n * 6 + c.toNat) 0
theorem numF_take {xs : List Int} {k : Nat} (h : k < xs.length) : numF (xs.take (k + 1)) = numF (xs.take k) * 6 + xs[k].toNat := by
 unfold numF
 rw [take_snoc xs k h, List.foldl_append]
 rfl
theorem numF_lt {xs : List Int} (hc : xs.all constOk = true) : ∀ k, k <= xs.length -> numF (xs.take k) < 6 ^ k
 | 0, _ => by simp [numF]
 | k + 1, hk => by
  have ih := numF_lt hc k (by omega)
  rw [numF_take (by omega), Nat.pow_succ]
  have : 0 <= xs[k] /\ xs[k] <= 5 := by simpa [constOk] using List.all_eq_true.1 hc _ (List.getElem_mem (show k < xs.length by omega))
  omega
set_option maxHeartbeats 1000000 in
set_option maxRecDepth 100000 in
theorem constantsNumber_any (v : Value) (xs : List Int) (B : Nat) (w : World) (h : RdInts w B v xs) (hc : xs.all constOk = true) (hl : xs.length <= 2) :
 Calls Tryz.prog 244 #[v] w fun e w' => e = .returned (.int .i64 (numF xs : Nat)) /\ w = w' := by
 obtain ⟨A, c, rfl, hcc, ha⟩ := h
 have HC := Lib.hid hc
 clear hc
 go_enter Tryz.func244, Tryz.ntmps244
 go_wp2_with fail
 go_loopw [3, 8] (fun m i wr => ∃ (k n : Nat), k <= xs.length /\ i = .int .i64 k /\ m = .int .i64 n /\ n = numF (xs.take k) /\ wr = w) (fun _ i _ => xs.length - (intOf i).toNat)
 case atStart => exact ⟨0, 0, by simp [numF]⟩
 case round =>
  obtain ⟨k, n, hk, rfl, rfl, hn, rfl⟩ := hrel
  by_cases hlt : k < xs.length
  ·obtain ⟨b, o, rfl, hbB, hx⟩ := ha (by omega)
   have hck : wr.cell? ⟨b, o + k, none⟩ = some (.int .i64 xs[k]) := hx k hlt
   have hb : 0 <= xs[k] /\ xs[k] <= 5 := by simpa [constOk] using List.all_eq_true.1 HC.out _ (List.getElem_mem hlt)
   have hn6 : n < 36 := by
    have := numF_lt HC.out k hk
    have h2 : (6 : Nat) ^ k <= 6 ^ 2 := Nat.pow_le_pow_right (by decide) (by omega)
    rw [hn]
    omega
   obtain ⟨x, hx2⟩ : ∃ x : Nat, xs[k] = (x : Int) := ⟨xs[k].toNat, by omega⟩
   have HN := Lib.hid (show numF (xs.take (k + 1)) = n * 6 + x by rw [numF_take hlt, hn, hx2]; rfl)
   have hxl : x <= 5 := by omega
   rw [hx2] at hck
   clear hx hx2 hb hn
   go_wp2_with fail
   go_roundw
   case rel => exact ⟨k + 1, n * 6 + x, by omega, by go_num, by go_num, HN.out.symm, by first | trivial | rfl⟩
   case measure => simp [intOf]; omega
  ·have HE := Lib.hid (show n = numF xs by rw [hn, show k = xs.length by omega, List.take_length])
   clear hn ha
   go_wp2_with fail
   go_ret
   exact ⟨ret_int (by rw [HE.out]), rfl⟩
set_option maxHeartbeats 1000000 in
set_option maxRecDepth 100000 in
theorem number_any (v : Value) (bs xs : List Int) (hb : bindOk bs = true) (ht : xs.all termOk = true) (B : Nat) (w : World) (h : RdInts w B v xs) (hc : (xs.map (termVal bs)).all constOk = true) (hl : xs.length <= 2) :
 Calls Tryz.prog 247 #[.int .u32 (encB bs : Nat), v] w fun e w' => e = .returned (.int .i64 (numF (xs.map (termVal bs)) : Nat)) /\ w = w' := by
 obtain ⟨A, c, rfl, hcc, ha⟩ := h
 obtain ⟨ys, hys⟩ : ∃ ys, ys = xs.map (termVal bs) := ⟨_, rfl⟩
 rw [<- hys] at hc ⊢
 have hyl : ys.length = xs.length := by rw [hys]; simp
 have HYL := Lib.hid hyl
 have HC := Lib.hid hc
 have HY := Lib.hid hys
 have HT := Lib.hid ht
 have HV := Lib.hid (fun t ht => value_any bs hb t ht)
 generalize encB bs = m at HV
 clear hc hys ht hyl
 go_enter Tryz.func247, Tryz.ntmps247
 go_wp2_with fail
 go_loopw [5, 10] (fun m i wr => ∃ (k n : Nat), k <= xs.length /\ i = .int .i64 k /\ m = .int .i64 n /\ n = numF (ys.take k) /\ wr = w) (fun _ i _ => xs.length - (intOf i).toNat)
 case atStart => exact ⟨0, 0, by simp [numF]⟩
 case round =>
  obtain ⟨k, n, hk, rfl, rfl, hn, rfl⟩ := hrel
  by_cases hlt : k < xs.length
  ·obtain ⟨b, o, rfl, hbB, hx⟩ := ha (by omega)
   have hck : wr.cell? ⟨b, o + k, none⟩ = some (.int .i64 xs[k]) := hx k hlt
   have hlt2 : k < ys.length := by rw [HYL.out]; exact hlt
   have hb2 : 0 <= ys[k] /\ ys[k] <= 5 := by simpa [constOk] using List.all_eq_true.1 HC.out _ (List.getElem_mem hlt2)
   have hn6 : n < 36 := by
    have := numF_lt HC.out k (by omega)
    have h2 : (6 : Nat) ^ k <= 6 ^ 2 := Nat.pow_le_pow_right (by decide) (by omega)
    rw [hn]
    omega
   obtain ⟨x, hx2⟩ : ∃ x : Nat, ys[k] = (x : Int) := ⟨ys[k].toNat, by omega⟩
   have HN := Lib.hid (show numF (ys.take (k + 1)) = n * 6 + x by rw [numF_take hlt2, hn, hx2]; rfl)
   have hxl : x <= 5 := by omega
   have HV2 := Lib.hid (HV.out xs[k] (List.all_eq_true.1 HT.out _ (List.getElem_mem hlt)))
   have hvx : termVal bs xs[k] = (x : Int) := by rw [<- hx2]; simp only [HY.out, List.getElem_map]
   rw [hvx] at HV2
   clear hx hx2 hb2 hn hvx
   go_wp2_with (go_at_call 177; refine (HV2.out _).mono ?_; rintro e w' ⟨rfl, rfl⟩)
   go_roundw
   case rel => exact ⟨k + 1, n * 6 + x, by omega, by go_num, by go_num, HN.out.symm, by first | trivial | rfl⟩
   case measure => simp [intOf]; omega
  ·have HE := Lib.hid (show n = numF ys by rw [hn, show k = ys.length by have := HYL.out; omega, List.take_length])
   clear hn ha
   go_wp2_with fail
   go_ret
   exact ⟨ret_int (by rw [HE.out]), rfl⟩
def tabWith (T : List Nat) (fs : List LFact) : List Nat := fs.foldl (fun T f => setBit T f.1.toNat (numF f.2)) T
theorem TabAt.below {w w' : World} {g B : Nat} {T : List Nat} (h : TabAt w g T) (hb : Below B w w') (hg : g < B) : TabAt w' g T := ⟨h.1.below hb hg, h.2⟩
theorem TabAt.only {w w' : World} {g lo hi : Nat} {T : List Nat} (h : TabAt w g T) (ho : Only lo hi w w') (hg : g < lo \/ hi <= g) : TabAt w' g T := ⟨h.1.only ho hg, h.2⟩
theorem numF_64 {xs : List Int} (hc : xs.all constOk = true) (hl : xs.length <= 2) : numF xs < 64 := by
 have := numF_lt hc xs.length (Nat.le_refl _)
 rw [List.take_length] at this
 have h2 : (6 : Nat) ^ xs.length <= 6 ^ 2 := Nat.pow_le_pow_right (by decide) hl
 omega
open Go.RowKit
open Go.RowKit
def zeroT : List Nat := List.replicate 24 0
theorem tabWith_snoc (T : List Nat) (fs : List LFact) (f : LFact) : tabWith T (fs ++ [f]) = setBit (tabWith T fs) f.1.toNat (numF f.2) := by
 unfold tabWith
 rw [List.foldl_append]
 rfl
theorem TabAt.zero (w : World) : TabAt (w.alloc (Obj.cells (tabCells zeroT) 88)) w.heap.size zeroT :=
 ⟨Blk.new _ _ _, by simp [zeroT], fun x hx => by
   obtain ⟨_, rfl⟩ := List.mem_replicate.1 hx
   decide⟩
open Go.RowKit
open Go.RowKit
set_option maxHeartbeats 1000000 in
set_option maxRecDepth 100000 in
theorem implFactsOk_any (v v2 : Value) (ar : List Int) (fs : List LFact) (w : World) (h : RdInts w w.heap.size v ar) (h2 : RdFacts w w.heap.size v2 fs) (hr : ar.length <= 1048576) (hn : fs.length <= 1048576) (ht : tot fs <= 1048576) :
 Calls Tryz.prog 157 #[v, v2] w fun e w' => e = .returned (.bool (factsOk ar fs)) /\ Below w.heap.size w w' := by
 have H := Lib.hid h
 have H2 := Lib.hid h2
 obtain ⟨A, c, rfl, hc, _⟩ := h
 obtain ⟨A2, c2, rfl, hc2, _⟩ := h2
 go_enter Tryz.func157, Tryz.ntmps157
 go_wp2_with (fail)
 refine (arityOk_any _ ar _ H.out (by omega)).mono ?_
 rintro e w1 ⟨rfl, hb1⟩
 by_cases ha : arityOk ar = true
 ·rw [ha]
  have HA := Lib.hid ha
  clear ha
  go_wp2_with (fail)
  go_loopw [5, 6, 12] (fun _ _ i wr => ∃ k : Nat, k <= fs.length /\ i = .int .i64 k /\ OkTo ar fs k /\ Below w.heap.size w wr) (fun _ _ i _ => fs.length - (intOf i).toNat)
  case atStart => exact ⟨0, Nat.zero_le _, rfl, by simp [OkTo], hb1⟩
  case round =>
   obtain ⟨k, hk, rfl, hs, hbe⟩ := hrel
   by_cases hlt : k < fs.length
   ·obtain ⟨b, o, A3, c3, rfl, hbB, k1, k2, k3⟩ := (H2.out.on hbe).get hlt
    have K3 := Lib.hid (show RdFact wr wr.heap.size (.agg #[.int .i64 fs[k].1, .slice A3 fs[k].2.length c3]) fs[k] from ⟨_, rfl, k3⟩)
    have hln := len_le_tot fs k hlt
    clear k3
    go_wp2_with (fail)
    obtain ⟨w2, hw2⟩ : ∃ w2, w2 = wr.alloc (Obj.cells #[Value.int IntKind.i64 fs[k].1, Value.slice A3 fs[k].2.length c3] 66) := ⟨_, rfl⟩
    have B2 : Below wr.heap.size wr w2 := by rw [hw2]; exact below1 _ _
    have x2 : Blk w2 wr.heap.size 66 #[.int .i64 fs[k].1, .slice A3 fs[k].2.length c3] := by rw [hw2]; exact Blk.new _ _ _
    rw [<- hw2]
    clear hw2
    refine (factFits_any _ _ ar fs[k] _ ((H.out.on hbe).on B2) (K3.out.on B2) (by omega)).mono ?_
    rintro e w3 ⟨rfl, hb3⟩
    have B3 := bthen B2 hb3
    have BW3 := bthen hbe B3
    have x3 := x2.below hb3 x2.lt
    by_cases hff : factFits ar fs[k] = true
    ·rw [hff]
     rcases Nat.eq_zero_or_pos k with hk0 | hk0
     ·have hd : decide (0 < k) = false := by simp [hk0]
      have HS := Lib.hid (hs.step (round_first hlt hff hk0) : OkTo ar fs (k + 1))
      clear hs hk0 hff
      go_wp2_with (fail)
      refine wp_region_later (by kernel_rfl) (by kernel_rfl) ?_
      repeat (go_big_quiet_step (fail))
      refine wpQuiet_nil ?_
      rintro _ ⟨xq, rfl⟩
      go_wp2_with (fail)
      go_roundw
      case rel => exact ⟨k + 1, by omega, by go_num, HS.out, bthen BW3 xq.2⟩
      case measure => simp [intOf]; omega
     ·obtain ⟨j, rfl⟩ : ∃ j, k = j + 1 := ⟨k - 1, by omega⟩
      have hltj : j < fs.length := by omega
      obtain ⟨b', o', A4, c4, e4, hbB', m1, m2, m3⟩ := (H2.out.on BW3).get hltj
      simp only [Option.some.injEq, Addr.mk.injEq, and_true] at e4
      obtain ⟨rfl, rfl⟩ := e4
      have K4 := Lib.hid (show RdFact w3 w3.heap.size (.agg #[.int .i64 fs[j].1, .slice A4 fs[j].2.length c4]) fs[j] from ⟨_, rfl, m3⟩)
      have hlnj := len_le_tot fs j hltj
      have M1 := later_cell m1
      have M2 := later_cell m2
      have X0 := later_cell (x3.cell 0 : w3.cell? ⟨wr.heap.size, 0, none⟩ = some (.int .i64 fs[j + 1].1))
      have X1 := later_cell (x3.cell 1 : w3.cell? ⟨wr.heap.size, 1, none⟩ = some (.slice A3 fs[j + 1].2.length c3))
      have CO := Lib.hid (fun x : Later w3 => implFactOrder_any _ _ fs[j] fs[j + 1] x.val (K4.out.on x.2) ((K3.out.on B3).on x.2) (by omega) (by omega))
      clear m1 m2 m3 k1 k2
      by_cases hlo : factOrder fs[j] fs[j + 1] < 0
      ·have hd : decide (0 <= factOrder fs[j] fs[j + 1]) = false := by simp; omega
       have HS := Lib.hid (hs.step (by rw [round_next hlt hltj hff]; simp [hlo]) : OkTo ar fs (j + 1 + 1))
       clear hs hff
       go_wp2_with (fail)
       refine wp_region_later (by kernel_rfl) (by kernel_rfl) ?_
       repeat (go_big_quiet_step ((go_at_call 138; exact later_of (CO.out _))))
       refine wpQuiet_nil ?_
       rintro _ ⟨xq, rfl⟩
       go_wp2_with (fail)
       go_roundw
       case rel => exact ⟨j + 1 + 1, by omega, by go_num, HS.out, bthen BW3 xq.2⟩
       case measure => simp [intOf]; omega
      ·have hd : decide (0 <= factOrder fs[j] fs[j + 1]) = true := by simp; omega
       have HE := Lib.hid (show factsOk ar fs = false from round_not hlt (by rw [round_next hlt hltj hff]; simp [hlo]))
       clear hs hff
       go_wp2_with (fail)
       refine wp_region_later (by kernel_rfl) (by kernel_rfl) ?_
       repeat (go_big_quiet_step ((go_at_call 138; exact later_of (CO.out _))))
       refine wpQuiet_nil ?_
       rintro _ ⟨xq, rfl⟩
       go_wp2_with (fail)
       go_ret
       exact ⟨ret_bool HE.out.symm, bthen BW3 xq.2⟩
    ·have HE := Lib.hid (show factsOk ar fs = false from round_not hlt (round_unfit hlt (by simpa using hff)))
     rw [show factFits ar fs[k] = false by simpa using hff]
     clear hs hff
     go_wp2_with (fail)
     go_ret
     exact ⟨ret_bool HE.out.symm, BW3⟩
   ·have hkn : k = fs.length := by omega
    have HE := Lib.hid (show factsOk ar fs = true by unfold factsOk; unfold OkTo at hs; rw [<- hkn, hs, HA.out]; rfl)
    clear hkn hs
    go_wp2_with (fail)
    go_ret
    exact ⟨ret_bool HE.out.symm, hbe⟩
 ·have HE := Lib.hid (show factsOk ar fs = false by simp [factsOk, ha])
  rw [show arityOk ar = false by simpa using ha]
  clear ha
  go_wp2_with (fail)
  go_ret
  exact ⟨ret_bool HE.out.symm, hb1⟩
open Go.RowKit
open Go.RowKit
theorem setBit_bit {T : List Nat} {p q m n : Nat} (hp : p < T.length) : ((setBit T q m).getD p 0).testBit n = true <-> (T.getD p 0).testBit n = true \/ (q = p /\ m = n) := by
 unfold setBit
 by_cases e : q = p
 ·subst e
  have h1 : (T.set q (T.getD q 0 ||| 2 ^ m)).getD q 0 = T.getD q 0 ||| 2 ^ m := by simp [List.getD_eq_getElem?_getD, hp]
  rw [h1, Nat.testBit_or, Bool.or_eq_true, Nat.testBit_two_pow, decide_eq_true_eq]
  simp
 ·have h1 : (T.set q (T.getD q 0 ||| 2 ^ m)).getD p 0 = T.getD p 0 := by simp [List.getD_eq_getElem?_getD, List.getElem?_set_ne e]
  rw [h1]
  simp [e]
theorem tabWith_bit {p n : Nat} : ∀ (fs : List LFact) (T : List Nat), p < T.length -> (((tabWith T fs).getD p 0).testBit n = true <-> (T.getD p 0).testBit n = true \/ ∃ f ∈ fs, f.1.toNat = p /\ numF f.2 = n)
 | [], T, _ => by simp [tabWith]
 | f :: fs, T, hp => by
  have e : tabWith T (f :: fs) = tabWith (setBit T f.1.toNat (numF f.2)) fs := rfl
  rw [e, tabWith_bit fs _ (by simpa [setBit] using hp), setBit_bit hp]
  constructor
  ·rintro ((h | h) | ⟨g, hg, h⟩)
   ·exact .inl h
   ·exact .inr ⟨f, List.mem_cons_self .., h⟩
   ·exact .inr ⟨g, List.mem_cons_of_mem _ hg, h⟩
  ·rintro (h | ⟨g, hg, h⟩)
   ·exact .inl (.inl h)
   ·rcases List.mem_cons.1 hg with rfl | hg
    ·exact .inl (.inr h)
    ·exact .inr ⟨g, hg, h⟩
theorem zero_bit {p n : Nat} : (zeroT.getD p 0).testBit n = false := by
 have : zeroT.getD p 0 = 0 := by
  by_cases hp : p < zeroT.length
  ·rw [getD_at hp]
   exact (List.mem_replicate.1 (List.getElem_mem hp)).2
  ·simp [List.getD_eq_getElem?_getD, List.getElem?_eq_none (by omega : zeroT.length <= p)]
 rw [this, Nat.zero_testBit]
theorem numF_inj {xs ys : List Int} (hx : xs.all constOk = true) (hy : ys.all constOk = true) (hl : xs.length = ys.length) (h2 : xs.length <= 2) (e : numF xs = numF ys) : xs = ys := by
 rcases xs with _ | ⟨x, _ | ⟨y, _ | ⟨z, xs⟩⟩⟩ <;> rcases ys with _ | ⟨x', _ | ⟨y', _ | ⟨z', ys⟩⟩⟩ <;> (try (simp at hl; done)) <;> (try (simp at h2; done))
 ·rfl
 ·simp only [List.all_cons, List.all_nil, Bool.and_true] at hx hy
  have := const_range hx
  have := const_range hy
  simp [numF] at e
  simp; omega
 ·simp only [List.all_cons, List.all_nil, Bool.and_true, Bool.and_eq_true] at hx hy
  have := const_range hx.1
  have := const_range hx.2
  have := const_range hy.1
  have := const_range hy.2
  simp [numF] at e
  simp; omega
theorem fact_of_bit {ar : List Int} {f g : LFact} (ha : arityOk ar = true) (hf : factFits ar f = true) (hg : factFits ar g = true) (e1 : f.1.toNat = g.1.toNat) (e2 : numF f.2 = numF g.2) : f = g := by
 obtain ⟨⟨h0, _, hl⟩, hc⟩ := fits_parts hf
 obtain ⟨⟨h0', _, hl'⟩, hc'⟩ := fits_parts hg
 have e : f.1 = g.1 := by omega
 rw [<- e] at hl'
 exact Prod.ext e (numF_inj hc hc' (by omega) (fits_short ha hf) e2)
open Go.RowKit
theorem setBit_lt {T : List Nat} {p n : Nat} (h : ∀ x ∈ T, x < 18446744073709551616) (hn : n < 64) : ∀ x ∈ setBit T p n, x < 18446744073709551616 := by
 intro x hx
 rcases List.mem_or_eq_of_mem_set hx with h4 | rfl
 ·exact h x h4
 ·refine Nat.or_lt_two_pow (n := 64) ?_ (Nat.pow_lt_pow_right (by decide) hn)
  by_cases hp : p < T.length
  ·rw [getD_at hp]
   exact h _ (List.getElem_mem hp)
  ·simp [List.getD_eq_getElem?_getD, List.getElem?_eq_none (by omega : T.length <= p)]
theorem word_lt {T : List Nat} {p : Nat} (h : ∀ x ∈ T, x < 18446744073709551616) : T.getD p 0 < 18446744073709551616 := by
 by_cases hp : p < T.length
 ·rw [getD_at hp]
  exact h _ (List.getElem_mem hp)
 ·simp [List.getD_eq_getElem?_getD, List.getElem?_eq_none (by omega : T.length <= p)]
theorem zeroT_lt : ∀ x ∈ zeroT, x < 18446744073709551616 := fun x hx => by
 obtain ⟨_, rfl⟩ := List.mem_replicate.1 hx
 decide
open Go.RowKit
def DomL (ls : List LLit) (b : List Int) : Prop := ∀ v, v < 4 -> (b.getD v (-1) ≠ -1 <-> ∃ l ∈ ls, (maskOf l.2.2).testBit v = true)
def SolOf (fs : List LFact) (ls : List LLit) (b : List Int) : Prop := bindOk b = true /\ DomL ls b /\ ∀ l ∈ ls, litHolds fs l b = true
theorem isSols_iff {fs : List LFact} {ls : List LLit} {S : List (List Int)} : IsSols (questL fs ls) S <-> S.Nodup /\ ∀ b, b ∈ S <-> SolOf fs ls b := by
 have e : ∀ b, (bindOk b = true /\ (∀ v, v < 4 -> (b.getD v (-1) ≠ -1 <-> ∃ q ∈ questL fs ls, (maskOf q.1.2.2).testBit v = true)) /\ ∀ q ∈ questL fs ls, holdsQ q b = true) <-> SolOf fs ls b := fun b => by
  have e1 : ∀ v, (∃ q ∈ questL fs ls, (maskOf q.1.2.2).testBit v = true) <-> ∃ l ∈ ls, (maskOf l.2.2).testBit v = true := fun v => by
   constructor
   ·rintro ⟨q, hq, h⟩
    obtain ⟨l, hl, rfl⟩ := List.mem_map.1 hq
    exact ⟨l, hl, h⟩
   ·rintro ⟨l, hl, h⟩
    exact ⟨(l, fs), List.mem_map.2 ⟨l, hl, rfl⟩, h⟩
  have e2 : (∀ q ∈ questL fs ls, holdsQ q b = true) <-> ∀ l ∈ ls, litHolds fs l b = true := by
   constructor
   ·intro h l hl
    exact h (l, fs) (List.mem_map.2 ⟨l, hl, rfl⟩)
   ·intro h q hq
    obtain ⟨l, hl, rfl⟩ := List.mem_map.1 hq
    exact h l hl
  unfold SolOf DomL
  rw [e2]
  refine and_congr_right fun _ => and_congr_left fun _ => ?_
  exact forall_congr' fun v => forall_congr' fun _ => by rw [e1 v]
 unfold IsSols
 exact and_congr_right fun _ => forall_congr' fun b => by rw [e b]
theorem hold_yes {fs : List LFact} {l : LLit} {b : List Int} (h : l.1 = 0) : litHolds fs l b = true <-> headOk l.2 b = true /\ headOf l.2 b ∈ fs := by
 unfold litHolds
 rw [if_neg (by omega), factsHas_in, h]
 cases headOk l.2 b <;> simp
theorem hold_no {fs : List LFact} {l : LLit} {b : List Int} (h : l.1 = 1) : litHolds fs l b = true <-> headOk l.2 b = true /\ headOf l.2 b ∉ fs := by
 unfold litHolds
 rw [if_neg (by omega), factsHas_in, h]
 cases headOk l.2 b <;> simp
theorem hold_cmp {fs gs : List LFact} {l : LLit} {b : List Int} (h : l.1 = 2 \/ l.1 = 3) : litHolds fs l b = litHolds gs l b := by
 unfold litHolds
 rw [if_pos h, if_pos h]
def ofP (L : List LFact) (p : Int) : List LFact := L.filter fun f => decide (f.1 = p)
theorem ofP_mem {L : List LFact} {p : Int} {f : LFact} : f ∈ ofP L p <-> f ∈ L /\ f.1 = p := by simp [ofP]
theorem ofP_append (L M : List LFact) (p : Int) : ofP (L ++ M) p = ofP L p ++ ofP M p := by simp [ofP]
theorem take_mid {L : List LFact} {o e : Nat} (h : o <= e) : L.take e = L.take o ++ (L.take e).drop o := by
 have h1 := (List.take_append_drop o (L.take e)).symm
 rw [List.take_take, Nat.min_eq_left h] at h1
 exact h1
theorem ofP_take (L : List LFact) (p : Int) (n : Nat) : ofP (L.take n) p = (ofP L p).take (ofP (L.take n) p).length := by
 have h := congrArg (fun x => ofP x p) (List.take_append_drop n L)
 simp only [ofP_append] at h
 rw [<- h, List.take_left']
 rfl
theorem ofP_take_le (L : List LFact) (p : Int) (n : Nat) : (ofP (L.take n) p).length <= (ofP L p).length := by
 have h := congrArg (fun x => ofP x p) (List.take_append_drop n L)
 simp only [ofP_append] at h
 rw [<- h, List.length_append]
 omega
theorem head_pred {a : LFact} {b : List Int} (h : headOk a b = true) : (headOf a b).1 = a.1 := by rw [headOf_yes h]
theorem hold_ofP {fs : List LFact} {l : LLit} {b : List Int} : litHolds (ofP fs l.2.1) l b = litHolds fs l b := by
 unfold litHolds
 split
 ·rfl
 ·rw [factsHas_in, factsHas_in]
  cases h : headOk l.2 b
  ·rfl
  ·congr 2
   exact decide_eq_decide.2 (by rw [ofP_mem]; exact ⟨fun h => h.1, fun h2 => ⟨h2, head_pred h⟩⟩)
abbrev LAge := List LFact × List LFact × List LFact
def litD (ls : List LLit) (j : Nat) : LLit := ls.getD j (0, 0, [])
def ageD (ag : List LAge) (j : Nat) : LAge := ag.getD j ([], [], [])
theorem litD_lt {ls : List LLit} {j : Nat} (h : j < ls.length) : litD ls j = ls[j] := by simp [litD, h]
theorem ageD_lt {ag : List LAge} {j : Nat} (h : j < ag.length) : ageD ag j = ag[j] := by simp [ageD, h]
theorem litD_mem {ls : List LLit} {j : Nat} (h : j < ls.length) : litD ls j ∈ ls := by rw [litD_lt h]; exact List.getElem_mem h
def qAt (ls : List LLit) (ag : List LAge) (i j : Nat) : LQ := (litD ls j, if j < i /\ (litD ls j).1 = 0 then (ageD ag j).2.1 else (ageD ag j).1)
def freshTo (ls : List LLit) (ag : List LAge) (i k : Nat) : List LQ := (litD ls i, (ageD ag i).2.2) :: (List.range k).flatMap fun j => if j = i then [] else [qAt ls ag i j]
theorem freshTo_zero (ls : List LLit) (ag : List LAge) (i : Nat) : freshTo ls ag i 0 = [(litD ls i, (ageD ag i).2.2)] := by simp [freshTo]
theorem freshTo_same (ls : List LLit) (ag : List LAge) (i : Nat) : freshTo ls ag i (i + 1) = freshTo ls ag i i := by simp [freshTo, List.range_succ]
theorem freshTo_snoc (ls : List LLit) (ag : List LAge) {i k : Nat} (h : k ≠ i) : freshTo ls ag i (k + 1) = freshTo ls ag i k ++ [qAt ls ag i k] := by simp [freshTo, List.range_succ, h]
theorem freshTo_len (ls : List LLit) (ag : List LAge) (i : Nat) : ∀ k, (freshTo ls ag i k).length <= k + 1 /\ (i < k -> (freshTo ls ag i k).length = k) /\ (k <= i -> (freshTo ls ag i k).length = k + 1)
 | 0 => by simp [freshTo_zero]
 | k + 1 => by
  obtain ⟨h1, h2, h3⟩ := freshTo_len ls ag i k
  by_cases e : k = i
  ·subst e
   rw [freshTo_same]
   refine ⟨by omega, fun _ => h3 (Nat.le_refl _), fun h => absurd h (by omega)⟩
  ·rw [freshTo_snoc ls ag e, List.length_append, List.length_singleton]
   refine ⟨by omega, fun h => ?_, fun h => ?_⟩
   ·rw [h2 (by omega)]
   ·rw [h3 (by omega)]
theorem freshTo_mem {ls : List LLit} {ag : List LAge} {i k : Nat} {q : LQ} : q ∈ freshTo ls ag i k <-> q = (litD ls i, (ageD ag i).2.2) \/ ∃ j, j < k /\ j ≠ i /\ q = qAt ls ag i j := by
 unfold freshTo
 rw [List.mem_cons, List.mem_flatMap]
 refine or_congr_right ?_
 constructor
 ·rintro ⟨j, hj, h⟩
  split at h
  ·cases h
  ·rename_i e
   exact ⟨j, List.mem_range.1 hj, e, by simpa using h⟩
 ·rintro ⟨j, hj, e, rfl⟩
  exact ⟨j, List.mem_range.2 hj, by rw [if_neg e]; exact List.mem_singleton_self _⟩
def FreshAt (ls : List LLit) (ag : List LAge) (i : Nat) (b : List Int) : Prop :=
 litHolds (ageD ag i).2.2 (litD ls i) b = true /\ ∀ j, j < ls.length -> j ≠ i -> litHolds (qAt ls ag i j).2 (litD ls j) b = true
theorem freshQ_dom {ls : List LLit} {ag : List LAge} {i v : Nat} (hi : i < ls.length) : (∃ q ∈ freshTo ls ag i ls.length, (maskOf q.1.2.2).testBit v = true) <-> ∃ l ∈ ls, (maskOf l.2.2).testBit v = true := by
 constructor
 ·rintro ⟨q, hq, h⟩
  rcases freshTo_mem.1 hq with rfl | ⟨j, hj, _, rfl⟩
  ·exact ⟨_, litD_mem hi, h⟩
  ·exact ⟨_, litD_mem hj, h⟩
 ·rintro ⟨l, hl, h⟩
  obtain ⟨j, hj, rfl⟩ := List.getElem_of_mem hl
  rw [<- litD_lt hj] at h
  by_cases e : j = i
  ·subst e
   exact ⟨_, freshTo_mem.2 (.inl rfl), h⟩
  ·exact ⟨_, freshTo_mem.2 (.inr ⟨j, hj, e, rfl⟩), h⟩
theorem freshQ_is {ls : List LLit} {ag : List LAge} {i : Nat} (hi : i < ls.length) {S : List (List Int)} (h : IsSols (freshTo ls ag i ls.length) S) : S.Nodup /\ ∀ b, b ∈ S <-> bindOk b = true /\ DomL ls b /\ FreshAt ls ag i b := by
 refine ⟨h.1, fun b => ?_⟩
 rw [h.2 b]
 refine and_congr_right fun _ => and_congr ?_ ?_
 ·exact forall_congr' fun v => forall_congr' fun _ => by rw [freshQ_dom hi]
 ·constructor
  ·intro hq
   exact ⟨hq _ (freshTo_mem.2 (.inl rfl)), fun j hj e => hq (qAt ls ag i j) (freshTo_mem.2 (.inr ⟨j, hj, e, rfl⟩))⟩
  ·rintro ⟨h1, h2⟩ q hq
   rcases freshTo_mem.1 hq with rfl | ⟨j, hj, e, rfl⟩
   ·exact h1
   ·exact h2 j hj e
theorem freshQ_safe {ls : List LLit} {ag : List LAge} {i : Nat} (hi : i < ls.length) (h : SafeB ls) : SafeQ (freshTo ls ag i ls.length) := fun q hq v hv hm => by
 have hl : ∃ l ∈ ls, (maskOf l.2.2).testBit v = true := (freshQ_dom (ag := ag) hi).1 ⟨q, hq, hm⟩
 obtain ⟨l, hl, hm⟩ := hl
 obtain ⟨l', hl', h0, hm'⟩ := h.safe l hl v hv hm
 obtain ⟨j, hj, rfl⟩ := List.getElem_of_mem hl'
 rw [<- litD_lt hj] at h0 hm'
 by_cases e : j = i
 ·subst e
  exact ⟨_, freshTo_mem.2 (.inl rfl), h0, hm'⟩
 ·exact ⟨_, freshTo_mem.2 (.inr ⟨j, hj, e, rfl⟩), h0, hm'⟩
structure AgeOk (a : LAge) : Prop where
 consts : ∀ f ∈ a.1, f.2.all constOk = true
 len : a.1.length <= 1048576
 tot : tot a.1 <= 1048576
 constsO : ∀ f ∈ a.2.1, f.2.all constOk = true
 lenO : a.2.1.length <= 1048576
 totO : Go.Proofs.YtmnolnmpglanfaaGreatDoor.tot a.2.1 <= 1048576
 constsF : ∀ f ∈ a.2.2, f.2.all constOk = true
 lenF : a.2.2.length <= 1048576
 totF : Go.Proofs.YtmnolnmpglanfaaGreatDoor.tot a.2.2 <= 1048576
theorem freshQ_ok {ls : List LLit} {ag : List LAge} {i : Nat} (hi : i < ls.length) (hl : ag.length = ls.length) (h : SafeB ls) (ht : totL ls <= 1048576) (ha : ∀ a ∈ ag, AgeOk a) : ∀ q ∈ freshTo ls ag i ls.length, QOk q := fun q hq => by
 have key : ∀ j, j < ls.length -> ((litD ls j).1 = 0 \/ (litD ls j).1 = 1 \/ (litD ls j).1 = 2 \/ (litD ls j).1 = 3) /\ (litD ls j).2.2.all termOk = true /\ (litD ls j).2.2.length <= 1048576 /\ AgeOk (ageD ag j) := fun j hj => by
  have hk := h.kind _ (litD_mem hj)
  refine ⟨by omega, h.terms _ (litD_mem hj), ?_, by rw [ageD_lt (by omega)]; exact ha _ (List.getElem_mem _)⟩
  rw [litD_lt hj]
  exact Nat.le_trans (len_le_totL ls j hj) ht
 rcases freshTo_mem.1 hq with rfl | ⟨j, hj, e, rfl⟩
 ·obtain ⟨k1, k2, k3, k4⟩ := key i hi
  exact ⟨k1, k2, k4.constsF, k3, k4.lenF, k4.totF⟩
 ·obtain ⟨k1, k2, k3, k4⟩ := key j hj
  unfold qAt
  by_cases e2 : j < i /\ (litD ls j).1 = 0
  ·rw [if_pos e2]
   exact ⟨k1, k2, k4.constsO, k3, k4.lenO, k4.totO⟩
  ·rw [if_neg e2]
   exact ⟨k1, k2, k4.consts, k3, k4.len, k4.tot⟩
def FreshSol (ls : List LLit) (ag : List LAge) (b : List Int) : Prop := bindOk b = true /\ DomL ls b /\ ∃ i, i < ls.length /\ (litD ls i).1 = 0 /\ FreshAt ls ag i b
def FreshSolTo (ls : List LLit) (ag : List LAge) (k : Nat) (b : List Int) : Prop := bindOk b = true /\ DomL ls b /\ ∃ i, i < k /\ (litD ls i).1 = 0 /\ FreshAt ls ag i b
theorem fresh_all {ls : List LLit} {ag : List LAge} {b : List Int} (h : SafeB ls) (ha : ∀ j, j < ls.length -> ∀ f, f ∈ (ageD ag j).1 <-> f ∈ (ageD ag j).2.1 \/ f ∈ (ageD ag j).2.2) :
 FreshSol ls ag b <-> bindOk b = true /\ DomL ls b /\ (∀ j, j < ls.length -> litHolds (ageD ag j).1 (litD ls j) b = true) /\ ∃ i, i < ls.length /\ (litD ls i).1 = 0 /\ litHolds (ageD ag i).2.2 (litD ls i) b = true := by
 unfold FreshSol
 refine and_congr_right fun _ => and_congr_right fun _ => ?_
 constructor
 ·rintro ⟨i, hi, h0, h1, h2⟩
  refine ⟨fun j hj => ?_, i, hi, h0, h1⟩
  by_cases e : j = i
  ·subst e
   rw [hold_yes h0] at h1 ⊢
   exact ⟨h1.1, (ha j hj _).2 (.inr h1.2)⟩
  ·have h3 := h2 j hj e
   unfold qAt at h3
   by_cases e2 : j < i /\ (litD ls j).1 = 0
   ·rw [if_pos e2, hold_yes e2.2] at h3
    rw [hold_yes e2.2]
    exact ⟨h3.1, (ha j hj _).2 (.inl h3.2)⟩
   ·rw [if_neg e2] at h3
    exact h3
 ·rintro ⟨hall, hex⟩
  -- the least one
  have least : ∀ n, (∃ i, i < n /\ i < ls.length /\ (litD ls i).1 = 0 /\ litHolds (ageD ag i).2.2 (litD ls i) b = true) -> ∃ i, i < ls.length /\ (litD ls i).1 = 0 /\ litHolds (ageD ag i).2.2 (litD ls i) b = true /\ ∀ j, j < i -> (litD ls j).1 = 0 -> litHolds (ageD ag j).2.2 (litD ls j) b = false := by
   intro n
   induction n with
   | zero => rintro ⟨i, hi, _⟩; omega
   | succ n ih =>
    rintro ⟨i, hi, h1, h2, h3⟩
    by_cases hl : ∃ j, j < i /\ (litD ls j).1 = 0 /\ litHolds (ageD ag j).2.2 (litD ls j) b = true
    ·obtain ⟨j, hj, h4, h5⟩ := hl
     exact ih ⟨j, by omega, by omega, h4, h5⟩
    ·refine ⟨i, h1, h2, h3, fun j hj h4 => ?_⟩
     cases h5 : litHolds (ageD ag j).2.2 (litD ls j) b
     ·rfl
     ·exact absurd ⟨j, hj, h4, h5⟩ hl
  obtain ⟨i0, g1, g2, g3⟩ := hex
  obtain ⟨i, hi, h0, h1, hmin⟩ := least (i0 + 1) ⟨i0, Nat.lt_succ_self _, g1, g2, g3⟩
  refine ⟨i, hi, h0, h1, fun j hj e => ?_⟩
  unfold qAt
  by_cases e2 : j < i /\ (litD ls j).1 = 0
  ·rw [if_pos e2]
   have h4 := hall j hj
   have h5 := hmin j e2.1 e2.2
   rw [hold_yes e2.2] at h4
   show litHolds _ (litD ls j) b = true
   rw [hold_yes e2.2]
   refine ⟨h4.1, ?_⟩
   rcases (ha j hj _).1 h4.2 with h6 | h6
   ·exact h6
   ·rw [(hold_yes e2.2).2 ⟨h4.1, h6⟩] at h5
    cases h5
  ·rw [if_neg e2]
   exact hall j hj
theorem fresh_apart {ls : List LLit} {ag : List LAge} {b : List Int} {i j : Nat} (hi : i < ls.length) (hij : i < j) (h0 : (litD ls i).1 = 0) (hd : ∀ f, f ∈ (ageD ag i).2.1 -> f ∉ (ageD ag i).2.2) (h1 : FreshAt ls ag i b) (h2 : FreshAt ls ag j b) : False := by
 have h3 := h2.2 i hi (by omega)
 unfold qAt at h3
 rw [if_pos ⟨hij, h0⟩, hold_yes h0] at h3
 have h4 := (hold_yes h0).1 h1.1
 exact hd _ h3.2 h4.2
def ageOf (L : List LFact) (o e : Nat) (p : Int) : LAge := (ofP (L.take e) p, ofP (L.take o) p, (ofP (L.take e) p).drop (ofP (L.take o) p).length)
def agesOf (L : List LFact) (o e : Nat) (ls : List LLit) : List LAge := ls.map fun l => ageOf L o e l.2.1
theorem agesOf_at {L : List LFact} {o e j : Nat} {ls : List LLit} (h : j < ls.length) : ageD (agesOf L o e ls) j = ageOf L o e (litD ls j).2.1 := by
 rw [ageD_lt (by simpa [agesOf] using h), litD_lt h]
 simp [agesOf]
theorem ageOf_split {L : List LFact} {o e : Nat} (h : o <= e) (p : Int) : (ageOf L o e p).1 = (ageOf L o e p).2.1 ++ (ageOf L o e p).2.2 := by
 unfold ageOf
 have h1 := congrArg (fun x => ofP x p) (take_mid (L := L) h)
 simp only [ofP_append] at h1
 show ofP (L.take e) p = ofP (L.take o) p ++ (ofP (L.take e) p).drop (ofP (L.take o) p).length
 rw [h1, List.drop_left']
 rfl
theorem solOf_mono_neg {L : List LFact} {o e : Nat} (h : o <= e) {f : LFact} (hf : f ∈ L.take o) : f ∈ L.take e := by
 rw [take_mid h]
 exact List.mem_append_left _ hf
theorem fresh_or_old {L : List LFact} {o e : Nat} (h : o <= e) {ls : List LLit} (hs : SafeB ls) {b : List Int} : (SolOf (L.take e) ls b -> FreshSol ls (agesOf L o e ls) b \/ SolOf (L.take o) ls b) /\ (FreshSol ls (agesOf L o e ls) b -> SolOf (L.take e) ls b) := by
 have hspl : ∀ j, j < ls.length -> ∀ f, f ∈ (ageD (agesOf L o e ls) j).1 <-> f ∈ (ageD (agesOf L o e ls) j).2.1 \/ f ∈ (ageD (agesOf L o e ls) j).2.2 := fun j hj f => by
  rw [agesOf_at hj, ageOf_split h, List.mem_append]
 rw [fresh_all hs hspl]
 have hat : ∀ j, j < ls.length -> litHolds (ageD (agesOf L o e ls) j).1 (litD ls j) b = litHolds (L.take e) (litD ls j) b := fun j hj => by
  rw [agesOf_at hj]
  exact hold_ofP
 constructor
 ·rintro ⟨h1, h2, h3⟩
  by_cases hex : ∃ i, i < ls.length /\ (litD ls i).1 = 0 /\ litHolds (ageD (agesOf L o e ls) i).2.2 (litD ls i) b = true
  ·exact .inl ⟨h1, h2, fun j hj => by rw [hat j hj]; exact h3 _ (litD_mem hj), hex⟩
  ·refine .inr ⟨h1, h2, fun l hl => ?_⟩
   obtain ⟨j, hj, rfl⟩ := List.getElem_of_mem hl
   rw [<- litD_lt hj]
   have h4 := h3 _ (litD_mem hj)
   have hk := hs.kind _ (litD_mem hj)
   rcases (by omega : (litD ls j).1 = 0 \/ (litD ls j).1 = 1 \/ ((litD ls j).1 = 2 \/ (litD ls j).1 = 3)) with e0 | e0 | e0
   ·rw [hold_yes e0] at h4 ⊢
    refine ⟨h4.1, ?_⟩
    have h5 : headOf (litD ls j).2 b ∈ (ageOf L o e (litD ls j).2.1).1 := ofP_mem.2 ⟨h4.2, head_pred h4.1⟩
    rw [ageOf_split h] at h5
    rcases List.mem_append.1 h5 with h6 | h6
    ·exact (ofP_mem.1 h6).1
    ·exact absurd ⟨j, hj, e0, by rw [agesOf_at hj, hold_yes e0]; exact ⟨h4.1, h6⟩⟩ hex
   ·rw [hold_no e0] at h4 ⊢
    exact ⟨h4.1, fun hc => h4.2 (solOf_mono_neg h hc)⟩
   ·rw [hold_cmp (gs := L.take e) e0]
    exact h4
 ·rintro ⟨h1, h2, h3, _⟩
  refine ⟨h1, h2, fun l hl => ?_⟩
  obtain ⟨j, hj, rfl⟩ := List.getElem_of_mem hl
  rw [<- litD_lt hj, <- hat j hj]
  exact h3 j hj
def hdOf' (r : LRule) (b : List Int) : LFact := (r.1.1, r.1.2.map (termVal b))
theorem headsL_sol {ar : List Int} {r : LRule} {fs : List LFact} (h : ruleFits ar r = true) (hc : ∀ f ∈ fs, f.2.all constOk = true) (hn : fs.Nodup) (f : LFact) : f ∈ headsL r fs <-> ∃ b, SolOf fs r.2 b /\ f = hdOf' r b := by
 obtain ⟨_, h2⟩ := solsOf_is (fs := fs) (gs := fs) (SafeB.of (fits_body h)) hc hn (fun _ => Iff.rfl)
 rw [headsL_mem h h2 hc hn]
 have h3 := (isSols_iff.1 h2).2
 constructor
 ·rintro ⟨b, hb, e⟩; exact ⟨b, (h3 b).1 hb, e⟩
 ·rintro ⟨b, hb, e⟩; exact ⟨b, (h3 b).2 hb, e⟩
theorem headsAll_sol {ar : List Int} {rs : List LRule} {fs : List LFact} (h : ∀ r ∈ rs, ruleFits ar r = true) (hc : ∀ f ∈ fs, f.2.all constOk = true) (hn : fs.Nodup) (f : LFact) : f ∈ headsAll rs fs <-> ∃ r ∈ rs, ∃ b, SolOf fs r.2 b /\ f = hdOf' r b := by
 unfold headsAll
 rw [setOf_mem, List.mem_flatMap]
 constructor
 ·rintro ⟨r, hr, hf⟩; exact ⟨r, hr, (headsL_sol (h r hr) hc hn f).1 hf⟩
 ·rintro ⟨r, hr, hf⟩; exact ⟨r, hr, (headsL_sol (h r hr) hc hn f).2 hf⟩
theorem solOf_same {fs gs : List LFact} (h : ∀ f, f ∈ fs <-> f ∈ gs) (ls : List LLit) (b : List Int) : SolOf fs ls b <-> SolOf gs ls b := by
 unfold SolOf
 refine and_congr_right fun _ => and_congr_right fun _ => forall_congr' fun l => forall_congr' fun _ => ?_
 rw [litHolds_same h]
theorem nodup_sub {α : Type} [DecidableEq α] : ∀ {l m : List α}, l.Nodup -> (∀ x ∈ l, x ∈ m) -> l.length <= m.length
 | [], _, _, _ => Nat.zero_le _
 | x :: l, m, hn, hs => by
  rw [List.nodup_cons] at hn
  have h1 := nodup_sub (m := m.erase x) hn.2 fun y hy => (List.mem_erase_of_ne (show y ≠ x from fun e => by subst e; exact hn.1 hy)).2 (hs y (List.mem_cons_of_mem _ hy))
  have hx := hs x List.mem_cons_self
  rw [List.length_erase_of_mem hx] at h1
  have := List.length_pos_of_mem hx
  simp only [List.length_cons]
  omega
theorem setOf_len {L : List LFact} (h : L.Nodup) : (setOf L).length = L.length :=
 Nat.le_antisymm (nodup_sub (asc_nodup (setOf_asc L)) fun x hx => (setOf_mem L x).1 hx) (nodup_sub h fun x hx => (setOf_mem L x).2 hx)
def Brings (L : List LFact) (X : LFact -> Prop) (L' : List LFact) : Prop := (∃ N, L' = L ++ N) /\ L'.Nodup /\ ∀ f, f ∈ L' <-> f ∈ L \/ X f
theorem Brings.refl {L : List LFact} (h : L.Nodup) {X : LFact -> Prop} (hX : ∀ f, X f -> f ∈ L) : Brings L X L := ⟨⟨[], by simp⟩, h, fun f => ⟨.inl, fun h => h.elim id (hX f)⟩⟩
theorem Brings.trans {L L1 L2 : List LFact} {X Y Z : LFact -> Prop} (h : Brings L X L1) (h2 : Brings L1 Y L2) (hZ : ∀ f, Z f <-> X f \/ Y f) : Brings L Z L2 := by
 obtain ⟨⟨N, e⟩, _, m1⟩ := h
 obtain ⟨⟨N2, e2⟩, n2, m2⟩ := h2
 exact ⟨⟨N ++ N2, by rw [e2, e, List.append_assoc]⟩, n2, fun f => by rw [m2, m1, hZ, or_assoc]⟩
theorem Brings.step {L : List LFact} {f : LFact} (h : L.Nodup) (hf : f ∉ L) : Brings L (fun g => g = f) (L ++ [f]) :=
 ⟨⟨[f], rfl⟩, by
  rw [List.nodup_append]
  exact ⟨h, by simp, fun a ha b hb e => hf (by rw [List.mem_singleton.1 hb] at e; exact e ▸ ha)⟩, fun g => by simp⟩
def stepL (rs : List LRule) (F : List LFact) : List LFact := setOf (F ++ headsAll rs F)
def iterL (rs : List LRule) (F : List LFact) : Nat -> List LFact
 | 0 => F
 | n + 1 => stepL rs (iterL rs F n)
def RoundsM (rs : List LRule) (F : List LFact) (m : Nat) : Prop := (∀ k, k < m -> (iterL rs F (k + 1)).length ≠ (iterL rs F k).length) /\ (iterL rs F (m + 1)).length = (iterL rs F m).length
theorem RoundsM.unique {rs : List LRule} {F : List LFact} {m n : Nat} (h : RoundsM rs F m) (h2 : RoundsM rs F n) : m = n := by
 rcases Nat.lt_trichotomy m n with h3 | h3 | h3
 ·exact absurd h.2 (h2.1 m h3)
 ·exact h3
 ·exact absurd h2.2 (h.1 n h3)
theorem iter_succ (rs : List LRule) (F : List LFact) : ∀ n, iterL rs F (n + 1) = iterL rs (stepL rs F) n
 | 0 => rfl
 | n + 1 => by
  show stepL rs (iterL rs F (n + 1)) = stepL rs (iterL rs (stepL rs F) n)
  rw [iter_succ rs F n]
structure FitL (ar : List Int) (L : List LFact) : Prop where
 nodup : L.Nodup
 fits : ∀ f ∈ L, factFits ar f = true
theorem FitL.take {ar : List Int} {L : List LFact} (h : FitL ar L) (n : Nat) : FitL ar (L.take n) := ⟨List.Nodup.sublist (List.take_sublist _ _) h.nodup, fun f hf => h.fits f (List.mem_of_mem_take hf)⟩
theorem FitL.consts {ar : List Int} {L : List LFact} (h : FitL ar L) : ∀ f ∈ L, f.2.all constOk = true := fun f hf => (fits_parts (h.fits f hf)).2
theorem FitL.set {ar : List Int} {L : List LFact} (h : ∀ f ∈ L, factFits ar f = true) : FitL ar (setOf L) := ⟨asc_nodup (setOf_asc L), fun f hf => h f ((setOf_mem L f).1 hf)⟩
theorem stepL_fit {ar : List Int} {rs : List LRule} {F : List LFact} (h : ∀ r ∈ rs, ruleFits ar r = true) (hF : FitL ar F) : FitL ar (stepL rs F) :=
 FitL.set fun f hf => by
  rcases List.mem_append.1 hf with h1 | h1
  ·exact hF.fits f h1
  ·exact headsAll_fits F h f h1
theorem iterL_fit {ar : List Int} {rs : List LRule} {F : List LFact} (h : ∀ r ∈ rs, ruleFits ar r = true) (hF : FitL ar F) : ∀ n, FitL ar (iterL rs F n)
 | 0 => hF
 | n + 1 => stepL_fit h (iterL_fit h hF n)
theorem headsAll_same {ar : List Int} {rs : List LRule} {F G : List LFact} (h : ∀ r ∈ rs, ruleFits ar r = true) (hF : FitL ar F) (hG : FitL ar G) (e : ∀ f, f ∈ F <-> f ∈ G) (f : LFact) : f ∈ headsAll rs F <-> f ∈ headsAll rs G := by
 rw [headsAll_sol h hF.consts hF.nodup, headsAll_sol h hG.consts hG.nodup]
 constructor
 ·rintro ⟨r, hr, b, hb, e2⟩; exact ⟨r, hr, b, (solOf_same e _ _).1 hb, e2⟩
 ·rintro ⟨r, hr, b, hb, e2⟩; exact ⟨r, hr, b, (solOf_same e _ _).2 hb, e2⟩
theorem stepL_mem {rs : List LRule} {F : List LFact} (f : LFact) : f ∈ stepL rs F <-> f ∈ F \/ f ∈ headsAll rs F := by unfold stepL; rw [setOf_mem, List.mem_append]
theorem round_brings {ar : List Int} {rs : List LRule} {L L' : List LFact} {o e : Nat} (h : ∀ r ∈ rs, ruleFits ar r = true) (hL : FitL ar L) (ho : o <= e) (he : e = L.length) (hb : ∀ f, f ∈ headsAll rs (L.take o) -> f ∈ L)
 (hB : Brings L (fun f => ∃ r ∈ rs, ∃ b, FreshSol r.2 (agesOf L o e r.2) b /\ f = hdOf' r b) L') : ∀ f, f ∈ L' <-> f ∈ L \/ f ∈ headsAll rs L := by
 intro f
 have hte : L.take e = L := by rw [he, List.take_length]
 rw [hB.2.2 f, headsAll_sol h hL.consts hL.nodup]
 constructor
 ·rintro (h1 | ⟨r, hr, b, hb, e2⟩)
  ·exact .inl h1
  ·refine .inr ⟨r, hr, b, ?_, e2⟩
   have := (fresh_or_old (L := L) ho (SafeB.of (fits_body (h r hr))) (b := b)).2 hb
   rw [hte] at this
   exact this
 ·rintro (h1 | ⟨r, hr, b, h2, e2⟩)
  ·exact .inl h1
  ·rw [<- hte] at h2
   rcases (fresh_or_old (L := L) ho (SafeB.of (fits_body (h r hr))) (b := b)).1 h2 with h3 | h3
   ·exact .inr ⟨r, hr, b, h3, e2⟩
   ·exact .inl (hb f ((headsAll_sol h (hL.take o).consts (hL.take o).nodup f).2 ⟨r, hr, b, h3, e2⟩))
theorem brings_pre {L L' : List LFact} {X : LFact -> Prop} (h : Brings L X L') : L'.take L.length = L /\ L.length <= L'.length := by
 obtain ⟨⟨N, e⟩, _⟩ := h
 subst e
 simp
theorem lastD_snoc (E : List Nat) (x : Nat) : (E ++ [x]).getLastD 0 = x := by simp
structure OnInv (ar : List Int) (rs : List LRule) (L0 : List LFact) (E0 : List Nat) (L : List LFact) (E : List Nat) (e j : Nat) : Prop where
 fit : FitL ar L
 pre : ∃ N, L = L0 ++ N
 ends : ∃ M, E = E0 ++ M /\ M.length = j /\ ∀ k, k < j -> M.getD k 0 <= L.length /\ ∀ f, f ∈ L.take (M.getD k 0) <-> f ∈ iterL rs (setOf L0) k
 last : E.getLastD 0 = e
 le : e <= L.length
 heads : ∀ f, f ∈ headsAll rs (L.take e) -> f ∈ L
 now : ∀ f, f ∈ L <-> f ∈ iterL rs (setOf L0) j
 grow : ∀ k, k + 1 < j -> (iterL rs (setOf L0) (k + 1)).length ≠ (iterL rs (setOf L0) k).length
 zero : j = 0 -> L = L0
 up : E.Pairwise (· < ·)
 ub : ∀ x ∈ E, x <= e
 first : 0 < j -> E0.getLastD 0 < L0.length
 lst : 0 < j -> (iterL rs (setOf L0) (j - 1)).length = e
theorem OnInv.start {ar : List Int} {rs : List LRule} {L : List LFact} {E : List Nat} {e : Nat} (hL : FitL ar L) (he : E.getLastD 0 = e) (hl : e <= L.length) (hh : ∀ f, f ∈ headsAll rs (L.take e) -> f ∈ L) (hu : E.Pairwise (· < ·)) (hb : ∀ x ∈ E, x <= e) : OnInv ar rs L E L E e 0 :=
 ⟨hL, ⟨[], by simp⟩, ⟨[], by simp, rfl, fun k hk => absurd hk (by omega)⟩, he, hl, hh, fun f => (setOf_mem L f).symm, fun k hk => absurd hk (by omega), fun _ => rfl, hu, hb, fun h => absurd h (by omega), fun h => absurd h (by omega)⟩
theorem set_len {ar : List Int} {F G : List LFact} (hF : FitL ar F) (hG : FitL ar G) (h : ∀ f, f ∈ F <-> f ∈ G) : F.length = G.length :=
 Nat.le_antisymm (nodup_sub hF.nodup fun x hx => (h x).1 hx) (nodup_sub hG.nodup fun x hx => (h x).2 hx)
theorem OnInv.step {ar : List Int} {rs : List LRule} {L0 L L' : List LFact} {E0 E : List Nat} {e j : Nat} (hr : ∀ r ∈ rs, ruleFits ar r = true) (h0 : FitL ar L0) (h : OnInv ar rs L0 E0 L E e j) (hlt : e < L.length)
 (hf : FitL ar L') (hB : Brings L (fun f => ∃ r ∈ rs, ∃ b, FreshSol r.2 (agesOf L e L.length r.2) b /\ f = hdOf' r b) L') : OnInv ar rs L0 E0 L' (E ++ [L.length]) L.length (j + 1) := by
 obtain ⟨hp, hpl⟩ := brings_pre hB
 have hm := round_brings hr h.fit h.le rfl h.heads hB
 have hS : FitL ar (setOf L0) := FitL.set h0.fits
 have hi := iterL_fit hr hS
 have hlen : (iterL rs (setOf L0) j).length = L.length := (set_len h.fit (hi j) h.now).symm
 refine ⟨hf, ?_, ?_, lastD_snoc _ _, hpl, ?_, ?_, ?_, fun e => absurd e (by omega), ?_, ?_, fun _ => ?_, fun _ => by simpa using hlen⟩
 ·obtain ⟨N, e1⟩ := h.pre
  obtain ⟨N2, e2⟩ := hB.1
  exact ⟨N ++ N2, by rw [e2, e1, List.append_assoc]⟩
 ·obtain ⟨M, e1, e2, e3⟩ := h.ends
  refine ⟨M ++ [L.length], by rw [e1, List.append_assoc], by simp [e2], fun k hk => ?_⟩
  by_cases hkj : k < j
  ·obtain ⟨g1, g2⟩ := e3 k hkj
   have e4 : (M ++ [L.length]).getD k 0 = M.getD k 0 := by
    simp only [List.getD_eq_getElem?_getD]
    rw [List.getElem?_append_left (by omega)]
   rw [e4]
   refine ⟨by omega, fun f => ?_⟩
   rw [<- g2 f]
   obtain ⟨N2, e5⟩ := hB.1
   rw [e5, List.take_append_of_le_length g1]
  ·have e4 : (M ++ [L.length]).getD k 0 = L.length := by
    have : k = M.length := by omega
    subst this
    simp
   rw [e4]
   refine ⟨hpl, fun f => ?_⟩
   rw [hp, show k = j by omega]
   exact h.now f
 ·intro f hfh
  rw [hp] at hfh
  exact (hm f).2 (.inr hfh)
 ·intro f
  rw [hm f]
  show _ <-> f ∈ stepL rs (iterL rs (setOf L0) j)
  rw [stepL_mem, h.now f, headsAll_same hr h.fit (hi j) h.now]
 ·intro k hk
  by_cases e1 : k + 1 < j
  ·exact h.grow k e1
  ·have e2 : k + 1 = j := by omega
   have h3 := h.lst (by omega)
   rw [e2, hlen, show k = j - 1 by omega, h3]
   omega
 ·rw [List.pairwise_append]
  exact ⟨h.up, by simp, fun a ha b hb => by
   have := h.ub a ha
   rw [List.mem_singleton.1 hb]
   omega⟩
 ·intro x hx
  rcases List.mem_append.1 hx with h1 | h1
  ·have := h.ub x h1
   omega
  ·rw [List.mem_singleton.1 h1]
   exact Nat.le_refl _
 ·by_cases e1 : 0 < j
  ·exact h.first e1
  ·have e2 : j = 0 := by omega
   subst e2
   obtain ⟨M, e3, e4, _⟩ := h.ends
   have e5 : M = [] := List.eq_nil_of_length_eq_zero e4
   subst e5
   rw [List.append_nil] at e3
   rw [<- e3, h.last, <- h.zero rfl]
   exact hlt
structure GrewOn (ar : List Int) (rs : List LRule) (L0 : List LFact) (E0 : List Nat) (L : List LFact) (E : List Nat) (m : Nat) : Prop where
 fit : FitL ar L
 pre : ∃ N, L = L0 ++ N
 rounds : RoundsM rs (setOf L0) m
 now : ∀ f, f ∈ L <-> f ∈ iterL rs (setOf L0) m
 last : E.getLastD 0 = L.length
 up : E.Pairwise (· < ·)
 ub : ∀ x ∈ E, x <= L.length
 ends : (m = 0 /\ E = E0 /\ L = L0) \/ (E0.getLastD 0 < L0.length /\ ∃ M, E = E0 ++ M /\ M.length = m + 1 /\ ∀ k, k <= m -> M.getD k 0 <= L.length /\ ∀ f, f ∈ L.take (M.getD k 0) <-> f ∈ iterL rs (setOf L0) k)
theorem OnInv.done {ar : List Int} {rs : List LRule} {L0 L : List LFact} {E0 E : List Nat} {e j : Nat} (hr : ∀ r ∈ rs, ruleFits ar r = true) (h0 : FitL ar L0) (h : OnInv ar rs L0 E0 L E e j) (hge : e = L.length) : ∃ m, GrewOn ar rs L0 E0 L E m := by
 have hS : FitL ar (setOf L0) := FitL.set h0.fits
 have hi := iterL_fit hr hS
 have hlen : (iterL rs (setOf L0) j).length = L.length := (set_len h.fit (hi j) h.now).symm
 have hte : L.take e = L := by rw [hge, List.take_length]
 obtain ⟨M, e1, e2, e3⟩ := h.ends
 by_cases hj : j = 0
 ·subst hj
  have hz := h.zero rfl
  subst hz
  have hM : M = [] := List.eq_nil_of_length_eq_zero e2
  subst hM
  rw [List.append_nil] at e1
  subst e1
  refine ⟨0, h.fit, ⟨[], by simp⟩, ⟨fun k hk => absurd hk (by omega), ?_⟩, h.now, by rw [h.last, hge], h.up, fun x hx => by have := h.ub x hx; omega, .inl ⟨rfl, rfl, rfl⟩⟩
  refine set_len (hi 1) (hi 0) fun f => ?_
  show f ∈ stepL rs (setOf L) <-> f ∈ setOf L
  rw [stepL_mem]
  refine ⟨fun h1 => h1.elim id fun h2 => ?_, .inl⟩
  have := h.heads f
  rw [hte] at this
  exact (setOf_mem L f).2 (this ((headsAll_same hr hS h.fit (setOf_mem L) f).1 h2))
 ·have hl := h.lst (by omega)
  refine ⟨j - 1, h.fit, h.pre, ⟨fun k hk => h.grow k (by omega), ?_⟩, fun f => ?_, by rw [h.last, hge], h.up, fun x hx => by have := h.ub x hx; omega, .inr ⟨h.first (by omega), M, e1, by omega, fun k hk => e3 k (by omega)⟩⟩
  ·rw [show j - 1 + 1 = j by omega, hlen, hl, hge]
  ·obtain ⟨g1, g2⟩ := e3 (j - 1) (by omega)
   have hL : E.getLastD 0 = M.getD (j - 1) 0 := by
    rw [e1]
    have hM : M ≠ [] := fun e => by rw [e] at e2; simp at e2; omega
    obtain ⟨M', x, rfl⟩ : ∃ M' x, M = M' ++ [x] := ⟨M.dropLast, M.getLast hM, (List.dropLast_concat_getLast hM).symm⟩
    rw [<- List.append_assoc, lastD_snoc]
    have e5 : j - 1 = M'.length := by rw [<- e2]; simp
    rw [e5]
    simp
   have := g2 f
   rw [<- hL, h.last, hte] at this
   exact this
structure GrewBy (ar : List Int) (rs : List LRule) (L0 : List LFact) (E0 : List Nat) (L : List LFact) (E : List Nat) (m : Nat) : Prop where
 fit : FitL ar L
 pre : ∃ N, L = L0 ++ N
 rounds : RoundsM rs (setOf L0) m
 now : ∀ f, f ∈ L <-> f ∈ iterL rs (setOf L0) m
 last : E.getLastD 0 = L.length
 up : E.Pairwise (· < ·)
 ub : ∀ x ∈ E, x <= L.length
 ends : ∃ M, E = E0 ++ M /\ M.length = m /\ ∀ k, k < m -> M.getD k 0 <= L.length /\ ∀ f, f ∈ L.take (M.getD k 0) <-> f ∈ iterL rs (setOf L0) (k + 1)
theorem GrewBy.of {ar : List Int} {rs : List LRule} {L0 L1 L : List LFact} {E0 E : List Nat} {m : Nat} (hr : ∀ r ∈ rs, ruleFits ar r = true) (h0 : FitL ar L0) (h1 : FitL ar L1) (hl : E0.getLastD 0 = L0.length) (hpre : ∃ N, L1 = L0 ++ N)
 (hm : ∀ f, f ∈ L1 <-> f ∈ L0 \/ f ∈ headsAll rs L0) (h : GrewOn ar rs L1 E0 L E m) : ∃ m', GrewBy ar rs L0 E0 L E m' := by
 have hS : FitL ar (setOf L0) := FitL.set h0.fits
 have hi := iterL_fit hr hS
 have hst : setOf L1 = stepL rs (setOf L0) := by
  refine (setOf_asc L1).unique (setOf_asc _) fun f => ?_
  rw [stepL_mem, setOf_mem, setOf_mem, hm f, headsAll_same hr hS h0 (setOf_mem L0)]
 have hit : ∀ n, iterL rs (setOf L1) n = iterL rs (setOf L0) (n + 1) := fun n => by rw [hst, iter_succ]
 obtain ⟨N1, hN1⟩ := hpre
 have hpre2 : ∃ N, L = L0 ++ N := by
  obtain ⟨N, e⟩ := h.pre
  exact ⟨N1 ++ N, by rw [e, hN1, List.append_assoc]⟩
 rcases h.ends with ⟨e1, e2, e3⟩ | ⟨e1, M, e2, e3, e4⟩
 ·subst e1 e2 e3
  have hN : N1 = [] := by
   have := h.last
   rw [hl, hN1, List.length_append] at this
   exact List.eq_nil_of_length_eq_zero (by omega)
  subst hN
  rw [List.append_nil] at hN1
  subst hN1
  exact ⟨0, h.fit, ⟨[], by simp⟩, h.rounds, h.now, h.last, h.up, h.ub, [], by simp, rfl, fun k hk => absurd hk (by omega)⟩
 ·refine ⟨m + 1, h.fit, hpre2, ⟨fun k hk => ?_, ?_⟩, fun f => by rw [h.now f, hit], h.last, h.up, h.ub, M, e2, e3, fun k hk => ?_⟩
  ·rcases k with _ | k
   ·rw [<- hit 0]
    show (setOf L1).length ≠ (setOf L0).length
    rw [setOf_len h0.nodup, setOf_len h1.nodup]
    omega
   ·rw [<- hit, <- hit]
    exact h.rounds.1 k (by omega)
  ·rw [<- hit, <- hit]
   exact h.rounds.2
  ·obtain ⟨g1, g2⟩ := e4 k (by omega)
   exact ⟨g1, fun f => by rw [g2 f, hit]⟩
def firstM (rs : List LRule) (F : List LFact) : Nat -> Nat -> Nat
 | 0, k => k
 | n + 1, k => if (iterL rs F (k + 1)).length = (iterL rs F k).length then k else firstM rs F n (k + 1)
theorem firstM_is {rs : List LRule} {F : List LFact} {m : Nat} (h : RoundsM rs F m) : ∀ n k, k <= m -> m <= k + n -> firstM rs F n k = m
 | 0, k, h1, h2 => by show k = m; omega
 | n + 1, k, h1, h2 => by
  show (if _ then _ else _) = m
  by_cases e : k = m
  ·subst e
   rw [if_pos h.2]
  ·rw [if_neg (h.1 k (by omega))]
   exact firstM_is h n (k + 1) (by omega) (by omega)
theorem iter_len_mono {rs : List LRule} {F : List LFact} {m : Nat} (h : ∀ k, k < m -> (iterL rs F (k + 1)).length ≠ (iterL rs F k).length) (hF : F.Nodup) (hn : ∀ k, (iterL rs F k).Nodup) : ∀ k, k <= m -> k <= (iterL rs F k).length
 | 0, _ => Nat.zero_le _
 | k + 1, hk => by
  have ih := iter_len_mono h hF hn k (by omega)
  have h1 := h k (by omega)
  have h2 := nodup_sub (hn k) (m := iterL rs F (k + 1)) fun f hf => (stepL_mem f).2 (.inl hf)
  omega
theorem RoundsM.few {ar : List Int} {rs : List LRule} {F : List LFact} {m : Nat} (har : arityOk ar = true) (hr : ∀ r ∈ rs, ruleFits ar r = true) (hF : FitL ar F) (h : RoundsM rs F m) : m <= 1536 := by
 have hi := iterL_fit hr hF
 have h1 := iter_len_mono h.1 hF.nodup (fun k => (hi k).nodup) m (Nat.le_refl _)
 have h2 := (facts_few har (hi m).nodup (hi m).fits).1
 omega
def roundsM (rs : List LRule) (F : List LFact) : Nat := firstM rs F 2000 0
theorem roundsM_is {ar : List Int} {rs : List LRule} {F : List LFact} {m : Nat} (har : arityOk ar = true) (hr : ∀ r ∈ rs, ruleFits ar r = true) (hF : FitL ar F) (h : RoundsM rs F m) : roundsM rs F = m :=
 firstM_is h 2000 0 (Nat.zero_le _) (by have := h.few har hr hF; omega)
def roundsFrom (rs : List LRule) (F : List LFact) : List (List LFact) := (List.range (roundsM rs F + 1)).map (iterL rs F)
def leastFrom (rs : List LRule) (F : List LFact) : List LFact := iterL rs F (roundsM rs F)
open Go.RowKit
theorem agesOf_pre {L N : List LFact} {o e : Nat} (ho : o <= L.length) (he : e <= L.length) (ls : List LLit) : agesOf (L ++ N) o e ls = agesOf L o e ls := by
 unfold agesOf ageOf
 rw [List.take_append_of_le_length ho, List.take_append_of_le_length he]
def allQ (L : List LFact) (e : Nat) (ls : List LLit) : List LQ := ls.map fun l => (l, ofP (L.take e) l.2.1)
theorem allQ_is {L : List LFact} {e : Nat} {ls : List LLit} {S : List (List Int)} (h : IsSols (allQ L e ls) S) : S.Nodup /\ ∀ b, b ∈ S <-> SolOf (L.take e) ls b := by
 refine ⟨h.1, fun b => ?_⟩
 rw [h.2 b]
 unfold SolOf DomL
 refine and_congr_right fun _ => and_congr ?_ ?_
 ·refine forall_congr' fun v => forall_congr' fun _ => ?_
  have e1 : (∃ q ∈ allQ L e ls, (maskOf q.1.2.2).testBit v = true) <-> ∃ l ∈ ls, (maskOf l.2.2).testBit v = true := by
   constructor
   ·rintro ⟨q, hq, h⟩
    obtain ⟨l, hl, rfl⟩ := List.mem_map.1 hq
    exact ⟨l, hl, h⟩
   ·rintro ⟨l, hl, h⟩
    exact ⟨_, List.mem_map.2 ⟨l, hl, rfl⟩, h⟩
  rw [e1]
 ·constructor
  ·intro hq l hl
   have := hq _ (List.mem_map.2 ⟨l, hl, rfl⟩)
   unfold holdsQ at this
   rw [hold_ofP] at this
   exact this
  ·intro hq q hm
   obtain ⟨l, hl, rfl⟩ := List.mem_map.1 hm
   unfold holdsQ
   rw [hold_ofP]
   exact hq l hl
theorem allQ_safe {L : List LFact} {e : Nat} {ls : List LLit} (h : SafeB ls) : SafeQ (allQ L e ls) := fun q hq v hv hm => by
 obtain ⟨l, hl, rfl⟩ := List.mem_map.1 hq
 obtain ⟨l', hl', h0, hm'⟩ := h.safe l hl v hv hm
 exact ⟨_, List.mem_map.2 ⟨l', hl', rfl⟩, h0, hm'⟩
theorem tot_sub : ∀ {l m : List LFact}, l.Sublist m -> tot l <= tot m := fun {l m} h => by
 induction h with
 | slnil => exact Nat.le_refl _
 | cons a _ ih => rw [tot_cons]; omega
 | cons_cons a _ ih => rw [tot_cons, tot_cons]; omega
theorem ofP_sub (L : List LFact) (e : Nat) (p : Int) : (ofP (L.take e) p).Sublist L := (List.filter_sublist).trans (List.take_sublist _ _)
structure FewL (L : List LFact) : Prop where
 consts : ∀ f ∈ L, f.2.all constOk = true
 len : L.length <= 1048576
 tot : tot L <= 1048576
theorem FewL.sub {L M : List LFact} (h : FewL L) (hs : M.Sublist L) : FewL M := ⟨fun f hf => h.consts f (hs.subset hf), Nat.le_trans hs.length_le h.len, Nat.le_trans (tot_sub hs) h.tot⟩
theorem FitL.fewL {ar : List Int} {L : List LFact} (ha : arityOk ar = true) (h : FitL ar L) : FewL L := by
 have h1 := facts_few ha h.nodup h.fits
 exact ⟨h.consts, by omega, by omega⟩
theorem allQ_ok {L : List LFact} {e : Nat} {ls : List LLit} (h : SafeB ls) (hL : FewL L) (hl : totL ls <= 1048576) : ∀ q ∈ allQ L e ls, QOk q := fun q hq => by
 obtain ⟨l, hl', rfl⟩ := List.mem_map.1 hq
 have hk := h.kind l hl'
 have hf := hL.sub (ofP_sub L e l.2.1)
 refine ⟨by show l.1 = 0 \/ l.1 = 1 \/ l.1 = 2 \/ l.1 = 3; omega, h.terms l hl', hf.consts, ?_, hf.len, hf.tot⟩
 obtain ⟨k, hk', rfl⟩ := List.getElem_of_mem hl'
 exact Nat.le_trans (len_le_totL ls k hk') hl
theorem agesOf_ok {L : List LFact} {o e : Nat} {ls : List LLit} (hL : FewL L) : ∀ a ∈ agesOf L o e ls, AgeOk a := fun a ha => by
 obtain ⟨l, hl, rfl⟩ := List.mem_map.1 ha
 have h1 := hL.sub (ofP_sub L e l.2.1)
 have h2 := hL.sub (ofP_sub L o l.2.1)
 have h3 := h1.sub (List.drop_sublist (ofP (L.take o) l.2.1).length _)
 exact ⟨h1.consts, h1.len, h1.tot, h2.consts, h2.len, h2.tot, h3.consts, h3.len, h3.tot⟩
theorem agesOf_len (L : List LFact) (o e : Nat) (ls : List LLit) : (agesOf L o e ls).length = ls.length := by simp [agesOf]
theorem lit_pred {ar : List Int} {l : LLit} (ha : arityOk ar = true) (h : litFits ar l = true) : 0 <= l.2.1 /\ l.2.1 < 24 := by
 have h2 : ar.length <= 24 := by simp only [arityOk, Bool.and_eq_true, decide_eq_true_eq] at ha; exact ha.1
 unfold litFits at h
 split at h
 ·simp only [atomFits, Bool.and_eq_true, decide_eq_true_eq] at h
  omega
 ·split at h
  ·simp only [Bool.and_eq_true, decide_eq_true_eq] at h
   omega
  ·cases h
theorem rule_parts {ar : List Int} {r : LRule} (ha : arityOk ar = true) (h : ruleFits ar r = true) : (0 <= r.1.1 /\ r.1.1 < 24) /\ r.1.2.all termOk = true /\ r.1.2.length <= 2 /\ r.2.length <= 4 /\ ∀ l ∈ r.2, 0 <= l.2.1 /\ l.2.1 < 24 := by
 have h2 : ar.length <= 24 := by simp only [arityOk, Bool.and_eq_true, decide_eq_true_eq] at ha; exact ha.1
 simp only [ruleFits, atomFits, Bool.and_eq_true, decide_eq_true_eq] at h
 exact ⟨⟨h.1.1.1, by omega⟩, h.1.2, place_short ha h.1.1, h.2.1, fun l hl => lit_pred ha (List.all_eq_true.1 h.2.2.1 l hl)⟩
theorem sol_fits {ar : List Int} {r : LRule} {fs : List LFact} {b : List Int} (_ha : arityOk ar = true) (h : ruleFits ar r = true) (hf : FitL ar fs) (hb : SolOf fs r.2 b) : factFits ar (hdOf' r b) = true :=
 headsL_fits fs h _ ((headsL_sol h hf.consts hf.nodup _).2 ⟨b, hb, rfl⟩)
theorem ends_few : ∀ {E : List Nat} {m : Nat}, E.Pairwise (· < ·) -> (∀ x ∈ E, x <= m) -> E.length <= m + 1 := fun {E m} h hb =>
 nodup_len (m + 1) E (h.imp fun h => by omega) fun x hx => by have := hb x hx; omega
open Go.RowKit
open Go.RowKit
def szF (fs : List LFact) : Nat := fs.length + tot fs
def HdFacts (w : World) (lo hi : Nat) (v : Value) (fs : List LFact) (k z : Int) : Prop := OwnFacts w lo hi v (markF k fs) /\ z = endF k fs /\ 0 <= k /\ k <= 4294967296 /\ szF fs <= 1073741824
theorem HdFacts.below {w w' : World} {lo hi B : Nat} {v : Value} {fs : List LFact} {k z : Int} (h : HdFacts w lo hi v fs k z) (hb : Below B w w') (hB : hi <= B) : HdFacts w' lo hi v fs k z := ⟨h.1.below hb hB, h.2⟩
theorem HdFacts.only {w w' : World} {lo hi lo' hi' : Nat} {v : Value} {fs : List LFact} {k z : Int} (h : HdFacts w lo hi v fs k z) (ho : Only lo' hi' w w') (hd : hi <= lo' \/ hi' <= lo) : HdFacts w' lo hi v fs k z := ⟨h.1.only ho hd, h.2⟩
theorem um_facts {v : Value} {fs : List LFact} {lo hi : Nat} {w : World} (k : Int) (h : OwnFacts w lo hi v fs) (hk0 : 0 <= k) (hk : k <= 4294967296) (hs : szF fs <= 1073741824) :
 Calls Tryz.prog 21 #[v, .int .i64 k] w fun e w' => ∃ z, e = .returned (.int .i64 z) /\ k <= z /\ z <= k + szF fs /\ HdFacts w' lo hi v fs k z /\ Only lo hi w w' :=
 (markFactS_any v fs k lo hi w h hk0 hk (by unfold szF at hs; omega) (by unfold szF at hs; omega)).mono fun _ _ ⟨he, ho, hg⟩ =>
   ⟨_, he, by unfold endF; omega, by unfold endF szF; omega, ⟨ho, rfl, hk0, hk, hs⟩, hg⟩
theorem uh_facts {v : Value} {fs : List LFact} {lo hi : Nat} {w : World} {k z : Int} (h : HdFacts w lo hi v fs k z) (hh : hi <= w.heap.size) :
 Calls Tryz.prog 22 #[v, .int .i64 k] w fun e w' => e = .returned (.int .i64 z) /\ Below w.heap.size w w' := by
 have hs := h.2.2.2.2
 unfold szF at hs
 exact (heldFactS_any v fs k w (h.1.rd.more hh) h.2.2.1 h.2.2.2.1 (by omega) (by omega)).mono fun _ _ ⟨he, hw⟩ => ⟨by rw [he, h.2.1], hw ▸ Below.refl _ _⟩
theorem us_facts {v : Value} {fs : List LFact} {left : Int} {w : World} (h : RdFacts w w.heap.size v fs) (h0 : 0 <= left) (hl : left <= 1048576) (hn : fs.length <= maxLen) (hm : ∀ k (h : k < fs.length), fs[k].2.length <= maxLen) :
 Calls Tryz.prog 13 #[v, .int .i64 left] w fun e w' => ∃ z, e = .returned (.int .i64 z) /\ (z = -1 \/ (0 <= z /\ z + szF fs = left)) /\ Below w.heap.size w w' :=
 (szFactS_any v fs left w h h0 hl (by unfold maxLen at hn; omega) (fun k hk => by have := hm k hk; unfold maxLen at this; omega)).mono fun _ _ ⟨r, he, hr, hb⟩ => ⟨r, he, hr.imp id fun ⟨a, b⟩ => ⟨a, by unfold szF; omega⟩, hb⟩
end Go.Proofs.YtmnolnmpglanfaaGreatDoor
