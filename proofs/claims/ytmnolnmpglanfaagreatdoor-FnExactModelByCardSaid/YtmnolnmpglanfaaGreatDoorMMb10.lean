/-
  Texts that the claim's last one imports, laid together: part 10 of 15. No condition of its own.
-/
import Derived.Laws.BitsAllLaws
import Derived.Deep.RegionHeld3
import Derived.Deep.RegionWith
import Derived.Deep.RegionLaw
import Derived.Deep.WholeRow
import Derived.Laws.CopyOwn
import Derived.Deep.DeepCutAuto
import Derived.Test.YtmnolnmpglanfaaGreatDoorMMb1
import Derived.Test.YtmnolnmpglanfaaGreatDoorMMb2
import Derived.Test.YtmnolnmpglanfaaGreatDoorMMb3
import Derived.Test.YtmnolnmpglanfaaGreatDoorMMb8
import Derived.Test.YtmnolnmpglanfaaGreatDoorMMb9
namespace Go.Proofs.YtmnolnmpglanfaaGreatDoor
open Go.RowKit
theorem FFAt.empty (w : World) : FFAt (w.alloc (.cells #[] 29)) w.heap.size (w.heap.size + 1) (.slice (some ⟨w.heap.size, 0, none⟩) 0 0) [] [] (fun _ => 0) (fun _ => 0) :=
 ⟨World.ownsRow_made w #[] 0 (Nat.le_refl _) (by decide) rfl, fun g hg => by simp [Value.ownBlock] at hg; omega, fun i h => absurd h (by simp), fun i j _ h => absurd h (by simp)⟩
theorem firstM_le (rs : List LRule) (F : List LFact) : ∀ n k, firstM rs F n k <= k + n
 | 0, k => Nat.le_refl _
 | n + 1, k => by
  show (if _ then _ else _) <= _
  split
  ·omega
  ·have := firstM_le rs F n (k + 1)
   omega
def itersTo (rs : List LRule) (F : List LFact) (k : Nat) : List (List LFact) := (List.range k).map (iterL rs F)
theorem itersTo_len (rs : List LRule) (F : List LFact) (k : Nat) : (itersTo rs F k).length = k := by simp [itersTo]
theorem itersTo_snoc (rs : List LRule) (F : List LFact) (k : Nat) : itersTo rs F (k + 1) = itersTo rs F k ++ [iterL rs F k] := by simp [itersTo, List.range_succ]
theorem iter_few {ar : List Int} {rs : List LRule} {F : List LFact} (har : arityOk ar = true) (hr : ∀ r ∈ rs, ruleFits ar r = true) (hF : FitL ar F) (k : Nat) : (iterL rs F k).length <= 1536 /\ tot (iterL rs F k) <= 3072 :=
 facts_few har (iterL_fit hr hF k).nodup (iterL_fit hr hF k).fits
set_option maxHeartbeats 4000000 in
set_option maxRecDepth 100000 in
theorem l4Rounds_any (ar : List Int) (har : arityOk ar = true) (rs : List LRule) (hfit : ∀ r ∈ rs, ruleFits ar r = true) (hsz : totR rs <= 1048576) (hrl : rs.length <= 1048576) (v v2 : Value) (fs : List LFact) (w : World) (h : RdRules w w.heap.size v rs) (h2 : RdFacts w w.heap.size v2 fs) (hf : ∀ f ∈ fs, factFits ar f = true) (hn : fs.length <= 1048576) (ht : tot fs <= 1048576) :
 Calls Tryz.prog 133 #[v, v2] w fun e w' => ∃ A c, e = .returned (.slice A (roundsFrom rs (setOf fs)).length c) /\ OwnFF w' w.heap.size w'.heap.size (.slice A (roundsFrom rs (setOf fs)).length c) (roundsFrom rs (setOf fs)) /\ Below w.heap.size w w' := by
 obtain ⟨i0, hi0, hz0, hz1, hz2⟩ := info_parts Tryz.infoFactS
 obtain ⟨F, hF⟩ : ∃ F, F = setOf fs := ⟨_, rfl⟩
 have HFT := Lib.hid (show FitL ar F by rw [hF]; exact FitL.set hf)
 have HH := Lib.hid h
 have H2 := Lib.hid h2
 have HAR := Lib.hid har
 have HFIT := Lib.hid hfit
 have HFE := Lib.hid (show setOf (fs ++ []) = F by rw [hF, List.append_nil])
 obtain ⟨A, c, rfl, hc, _⟩ := h
 obtain ⟨A2, c2, rfl, hc2, _⟩ := h2
 have hw1 := below1 w (Obj.cells #[] 29)
 have CE := Lib.hid (specFactsEither_any (.slice A2 fs.length c2) (.slice none 0 0) fs [] _ (H2.out.on hw1) ⟨none, 0, rfl, by simp, fun h => absurd h (by simp)⟩ (by simp; omega) (by simp [tot] at ht ⊢; omega))
 rw [HFE.out] at CE
 have HE0 := Lib.hid (FFAt.empty w)
 rw [<- hF]
 clear hF har hfit hf hw1
 go_enter Tryz.func133, Tryz.ntmps133
 go_wp2_with (go_at_call 108; refine CE.out.mono ?_; rintro e1 w1 ⟨A3, c3, rfl, o3, b3⟩; have H3 := Lib.hid (And.intro o3 b3); clear o3 b3)
 have hs1 : w.heap.size + 1 <= w1.heap.size := by have := H3.out.2.size; simpa using this
 have HB1 := Lib.hid (show Below w.heap.size w w1 from (below1 w _).trans (H3.out.2.mono (by simp)))
 have HF1 := Lib.hid (show FFAt w1 w.heap.size (w.heap.size + 1) (.slice (some ⟨w.heap.size, 0, none⟩) 0 0) [] [] (fun _ => 0) (fun _ => 0) from HE0.out.below H3.out.2 (by simp))
 go_loopw [5, 6] (fun q x wr => ∃ (k : Nat) (A : Option Addr) (c : Nat) (hv : List Value) (P Q : Nat -> Nat) (A4 : Option Addr) (c4 a m hi : Nat), q = .slice A k c /\ x = .slice A4 (iterL rs F k).length c4 /\ FFAt wr w.heap.size hi (.slice A k c) hv (itersTo rs F k) P Q /\ OwnFacts wr a m (.slice A4 (iterL rs F k).length c4) (iterL rs F k) /\ hi <= a /\ w.heap.size <= a /\ a <= m /\ m <= wr.heap.size /\ (∀ j, j < k -> (iterL rs F (j + 1)).length ≠ (iterL rs F j).length) /\ Below w.heap.size w wr) (fun q _ _ => match q with | .slice _ n _ => 2000 - n | _ => 0)
 case atStart => exact ⟨0, _, 0, [], _, _, A3, c3, w.heap.size + 1, w1.heap.size, w.heap.size + 1, rfl, rfl, HF1.out, H3.out.1.mono (by simp) (Nat.le_refl _), Nat.le_refl _, by omega, hs1, Nat.le_refl _, fun j hj => absurd hj (by omega), HB1.out⟩
 case round =>
  obtain ⟨k, A5, c5, hv, P, Q, A4, c4, a, m, hi, rfl, rfl, hff, hno, hia, hla, ham, hm, hgr, hbe⟩ := hrel
  have HFF := Lib.hid hff
  have HNO := Lib.hid hno
  have HGR := Lib.hid hgr
  have HBE := Lib.hid hbe
  obtain ⟨G, hG⟩ : ∃ G, G = iterL rs F k := ⟨_, rfl⟩
  have hfew := iter_few HAR.out HFIT.out HFT.out k
  have HGF := Lib.hid (show FitL ar G by rw [hG]; exact iterL_fit HFIT.out HFT.out k)
  have hkm : k <= G.length := by rw [hG]; exact iter_len_mono hgr HFT.out.nodup (fun j => (iterL_fit HFIT.out HFT.out j).nodup) k (Nat.le_refl _)
  rw [<- hG] at HNO hfew
  rw [<- hG]
  obtain ⟨hG1, hG2⟩ := hfew
  have HGG := Lib.hid hG
  obtain ⟨G1, hG1e⟩ : ∃ G1, G1 = stepL rs G := ⟨_, rfl⟩
  have HG1 := Lib.hid (show G1 = iterL rs F (k + 1) by rw [hG1e, hG]; rfl)
  have HST := Lib.hid (show setOf (G ++ headsAll rs G) = G1 by rw [hG1e]; rfl)
  have hhf := headsAll_few (rs := rs) G HAR.out HFIT.out
  have HLEN := Lib.hid (itersTo_len rs F k)
  clear hff hno hgr hbe hG hG1e
  go_upto_region 4 with (at_builtin; refine wpList_append_lies _ rfl (.tmp 11) (.tmp 13) 58 rfl w.heap.size 29 i0 (.slice none 0 0) 1 24 Tryz.underlying58 hi0 hz0 hz1 hz2 rfl (by decide) (.slice A5 k c5) k hv rfl ?c1 ⟨wr.heap.size, 0, none⟩ 1 1 [.slice A4 G.length c4] rfl rfl (cell_one_new _ _ _) ?c2 (by omega) (by unfold maxLen; omega) (by omega) ?c3 _ rfl ?_)
  case c1 => have := HFF.out.row; rw [HLEN.out] at this; exact this.alloc _
  case c2 => first | rfl | (intro u hu; simp at hu; subst hu; rfl)
  case c3 => have := HBE.out.size; (try simp); omega
  intro g2 cap w4 hown hgrw hat _
  have HP := Lib.hid (HFF.out.push (v' := .slice (some ⟨g2, 0, none⟩) (k + 1) cap) HNO.out hia hla ham hm hgrw (by rw [HLEN.out]; exact hown) (by
   rcases hat with hat | hat
   ·exact .inl (by rw [hat]; rfl)
   ·exact .inr fun b hb => by
     have e : g2 = b := by simpa [Value.ownBlock] using hb
     rw [<- e, hat]
     simp))
  have HB4 := Lib.hid (show Below w.heap.size w w4 from (HBE.out.trans ((below1 wr _).mono HBE.out.size)).grown hgrw (by have := HBE.out.size; simp; omega) fun b hb => (HFF.out.row.lt b hb).1)
  have hs4 := (grown_from_alloc hgrw).size
  clear hown hgrw hat
  have CA := Lib.hid (l4All_any (.slice A rs.length c) (.slice A4 G.length c4) ar rs G w4 (HH.out.on HB4.out) HP.out.2.rdS HAR.out HFIT.out hsz hrl (by omega) (by omega) HGF.out.consts HGF.out.nodup)
  go_upto_region 5 with (first
   | (go_at_call 180; refine CA.out.mono ?_; rintro e5 w5 ⟨A6, c6, rfl, o6, b6⟩; have H6 := Lib.hid (And.intro o6 b6); clear o6 b6)
   | (go_at_call 108
      have CF := specFactsEither_any (.slice A4 G.length c4) (.slice A6 (headsAll rs G).length c6) G (headsAll rs G) w5 ((HP.out.2.rdS).on H6.out.2) H6.out.1.rd (by omega) (by omega)
      rw [HST.out] at CF
      refine CF.mono ?_
      clear CF
      rintro e7 w7 ⟨A7, c7, rfl, o7, b7⟩; have H7 := Lib.hid (And.intro o7 b7); clear o7 b7))
  have hs5 := H6.out.2.size
  have hs7 := H7.out.2.size
  have HB7 := Lib.hid (show Below w.heap.size w w7 from bthen (bthen HB4.out H6.out.2) H7.out.2)
  by_cases he : G1.length = G.length
  ·have hd : ((G1.length : Int) == (G.length : Int)) = true := by simp [he]
   have HE := Lib.hid (show roundsFrom rs F = itersTo rs F k ++ [G] from by
    have hM : RoundsM rs F k := ⟨HGR.out, by rw [<- HG1.out, he, HGG.out]⟩
    unfold roundsFrom
    rw [roundsM_is HAR.out HFIT.out HFT.out hM, HGG.out]
    exact itersTo_snoc rs F k)
   have HEL := Lib.hid (show (roundsFrom rs F).length = k + 1 by rw [HE.out, List.length_append, HLEN.out]; rfl)
   clear he
   go_wp2_with fail
   go_ret
   obtain ⟨P', Q', hff'⟩ := HP.out.1
   have hfin := (hff'.below (bthen H6.out.2 H7.out.2) (Nat.le_refl _)).mono (Nat.le_refl _) (Nat.le_trans hs5 hs7)
   rw [<- HE.out] at hfin
   rw [HEL.out]
   exact ⟨_, cap, rfl, ⟨_, P', Q', hfin⟩, HB7.out⟩
  ·have hd : ((G1.length : Int) == (G.length : Int)) = false := by simp; omega
   have HNE := Lib.hid he
   clear he
   go_wp2_with fail
   go_roundw
   case rel =>
    obtain ⟨P', Q', hff'⟩ := HP.out.1
    refine ⟨k + 1, some ⟨g2, 0, none⟩, cap, hv ++ [.slice A4 G.length c4], P', Q', A7, c7, w5.heap.size, w7.heap.size, w4.heap.size, rfl, by rw [HG1.out], ?_, ?_, hs5, by omega, hs7, Nat.le_refl _, fun j hj => ?_, HB7.out⟩
    ·rw [itersTo_snoc, <- HGG.out]
     exact hff'.below (bthen H6.out.2 H7.out.2) (Nat.le_refl _)
    ·rw [<- HG1.out]
     exact H7.out.1
    ·by_cases e : j = k
     ·subst e
      rw [<- HG1.out, <- HGG.out]
      exact HNE.out
     ·exact HGR.out j (by omega)
   case measure => simp; omega
set_option maxHeartbeats 1000000 in
set_option maxRecDepth 100000 in
theorem l4Least_any (ar : List Int) (har : arityOk ar = true) (rs : List LRule) (hfit : ∀ r ∈ rs, ruleFits ar r = true) (hsz : totR rs <= 1048576) (hrl : rs.length <= 1048576) (v v2 : Value) (fs : List LFact) (w : World) (h : RdRules w w.heap.size v rs) (h2 : RdFacts w w.heap.size v2 fs) (hf : ∀ f ∈ fs, factFits ar f = true) (hn : fs.length <= 1048576) (ht : tot fs <= 1048576) :
 Calls Tryz.prog 109 #[v, v2] w fun e w' => ∃ A c, e = .returned (.slice A (leastFrom rs (setOf fs)).length c) /\ OwnFacts w' w.heap.size w'.heap.size (.slice A (leastFrom rs (setOf fs)).length c) (leastFrom rs (setOf fs)) /\ Below w.heap.size w w' := by
 have CR := Lib.hid (l4Rounds_any ar har rs hfit hsz hrl v v2 fs w h h2 hf hn ht)
 obtain ⟨F, hF⟩ : ∃ F, F = setOf fs := ⟨_, rfl⟩
 rw [<- hF] at CR
 rw [<- hF]
 obtain ⟨FF, hFF⟩ : ∃ FF, FF = roundsFrom rs F := ⟨_, rfl⟩
 rw [<- hFF] at CR
 obtain ⟨m, hm⟩ : ∃ m, m = roundsM rs F := ⟨_, rfl⟩
 have hlen : FF.length = m + 1 := by rw [hFF, hm]; simp [roundsFrom]
 obtain ⟨G, hG⟩ : ∃ G, G = leastFrom rs F := ⟨_, rfl⟩
 have HAT := Lib.hid (show ∀ h : m < FF.length, FF[m] = G from fun h => by
  subst hFF
  rw [hG]
  simp [roundsFrom, leastFrom, hm])
 rw [<- hG]
 have HLEN := Lib.hid hlen
 rw [hlen] at CR
 have hmb : m <= 2000 := by rw [hm]; exact firstM_le rs F 2000 0
 clear hF hFF hG hm hlen h h2 har hfit hf
 go_enter Tryz.func109, Tryz.ntmps109
 go_upto_region 2 with (go_at_call 133; refine CR.out.mono ?_; rintro e1 w1 ⟨A1, c1, rfl, o1, b1⟩; have H1 := Lib.hid (And.intro o1 b1); clear o1 b1)
 obtain ⟨hv, P, Q, hff⟩ := H1.out.1
 have hmlt : m < FF.length := by rw [HLEN.out]; omega
 have hff2 := hff
 rw [<- HLEN.out] at hff2
 obtain ⟨g, A2, c2, rfl, hg, hlo, k0, o0, _, _⟩ := hff2.get hmlt
 rw [HAT.out hmlt] at k0 o0
 obtain ⟨q1, q2, -⟩ := hff.own m hmlt (by rw [hff.len]; exact hmlt)
 have HO := Lib.hid (o0.mono (lo' := w.heap.size) (hi' := w1.heap.size) q1 q2.2)
 have hm6 : (m : Int) <= 2000 := by omega
 have hm7 : (m : Int) < (m : Int) + 1 := by omega
 clear hff hff2 o0 q1 q2
 go_wp2_with fail
 go_ret
 exact ⟨A2, c2, rfl, HO.out, H1.out.2⟩
open Go.RowKit
theorem Tryz.infoRuleV : (Tryz.prog.info? 138).map (fun i => (i.zero, i.size, i.bytes)) = some (some (.agg #[.int .i64 0, .slice none 0 0, .slice none 0 0]), 3, 56) := by kernel_rfl
def inLayer (ls : List Int) (low : Int) (r : LRule) : Bool := ls.getD r.1.1.toNat 0 == low
def rulesAt (rs : List LRule) (ls : List Int) (low : Int) : List LRule := rs.filter (inLayer ls low)
theorem rulesAt_yes {rs : List LRule} {ls : List Int} {low : Int} {k : Nat} (h : k < rs.length) (e : inLayer ls low rs[k] = true) : rulesAt (rs.take (k + 1)) ls low = rulesAt (rs.take k) ls low ++ [rs[k]] := by
 unfold rulesAt
 rw [take_snoc rs k h, List.filter_append]
 simp [e]
theorem rulesAt_no {rs : List LRule} {ls : List Int} {low : Int} {k : Nat} (h : k < rs.length) (e : inLayer ls low rs[k] = false) : rulesAt (rs.take (k + 1)) ls low = rulesAt (rs.take k) ls low := by
 unfold rulesAt
 rw [take_snoc rs k h, List.filter_append]
 simp [e]
theorem rulesAt_len (rs : List LRule) (ls : List Int) (low : Int) (k : Nat) : (rulesAt (rs.take k) ls low).length <= rs.length := by
 unfold rulesAt
 refine Nat.le_trans (List.length_filter_le _ _) ?_
 simp
 omega
set_option maxHeartbeats 4000000 in
set_option maxRecDepth 100000 in
theorem l6Rules_any (v v2 : Value) (p : LProg) (ls : List Int) (low : Int) (w : World) (h : RdProg w w.heap.size v p) (h2 : RdInts w w.heap.size v2 ls) (hb : ∀ r ∈ p.2, 0 <= r.1.1 /\ r.1.1 < ls.length) (hn : p.2.length <= 1048576) :
 Calls Tryz.prog 110 #[v, v2, .int .i64 low] w fun e w' => ∃ u, e = .returned u /\ RdRules w' w'.heap.size u (rulesAt p.2 ls low) /\ Below w.heap.size w w' := by
 obtain ⟨a, bv, rfl, hpa, hpr⟩ := h
 obtain ⟨ar, rs⟩ := p
 simp only at hpr hb hn
 have H := Lib.hid hpr
 obtain ⟨A, c, rfl, hc, _⟩ := hpr
 have H2 := Lib.hid h2
 obtain ⟨A2, c2, rfl, _, _⟩ := h2
 have HBD := Lib.hid hb
 clear hpa hb
 obtain ⟨i0, hi0, hz0, hz1, hz2⟩ := info_parts Tryz.infoRuleV
 go_enter Tryz.func110, Tryz.ntmps110
 go_upto_region 1 with fail
 obtain ⟨w1, hw1⟩ : ∃ w1, w1 = w.alloc (Obj.cells #[a, Value.slice A rs.length c] 34) := ⟨_, rfl⟩
 have B1 : Below w.heap.size w w1 := by rw [hw1]; exact below1 _ _
 have s1 : w1.heap.size = w.heap.size + 1 := by rw [hw1]; simp
 have x1 : Blk w1 w.heap.size 34 #[a, .slice A rs.length c] := by rw [hw1]; exact Blk.new w _ _
 rw [<- hw1]
 clear hw1
 have HX := Lib.hid x1
 have hs1g : w.heap.size < w1.heap.size := by omega
 have hw1s : w.heap.size <= w1.heap.size := by omega
 clear s1 x1
 go_upto_region 2 with fail
 have V0 := Lib.hid (show ViewR w1.heap.size w1.heap.size (w1.alloc (.cells #[] 138)) [] (some ⟨w1.heap.size, 0, none⟩) 0 from ViewR.empty _ _)
 go_wp2_with fail
 go_loopw [7, 8] (fun o i wr => ∃ (k : Nat) (A' : Option Addr) (c' : Nat) (es : List REnt), k <= rs.length /\ i = .int .i64 k /\ o = .slice A' es.length c' /\ Hid (es.map (·.1) = rulesAt (rs.take k) ls low) /\ ViewR w1.heap.size w1.heap.size wr es A' c' /\ Below w1.heap.size w1 wr) (fun _ i _ => rs.length - (intOf i).toNat)
 case atStart => exact ⟨0, _, 0, [], Nat.zero_le _, rfl, rfl, Lib.hid (by simp [rulesAt]), V0.out, below1 _ _⟩
 case round =>
  obtain ⟨k, A', c', es, hk, rfl, rfl, HE, hv, hbe⟩ := hrel
  have HV := Lib.hid hv
  have HBE := Lib.hid hbe
  have BW := Lib.hid (bthen B1 hbe)
  have hsw := hbe.size
  have hel : es.length <= 1048576 := by
   have h1 := congrArg List.length HE.out
   rw [List.length_map] at h1
   rw [h1]
   exact Nat.le_trans (rulesAt_len rs ls low k) hn
  have q1 : wr.cell? ⟨w.heap.size, 1, none⟩ = some (.slice A rs.length c) := (HX.out.below hbe (by omega)).cell 1
  clear hv hbe
  by_cases hlt : k < rs.length
  ·obtain ⟨b, o, u0, u1, u2, rfl, hbB, k0, k1, k2, hq0, hq1, hq2⟩ := (H.out.on BW.out).get hlt
   subst hq0
   have hbd := HBD.out rs[k] (List.getElem_mem hlt)
   obtain ⟨y, hy⟩ := Int.eq_ofNat_of_zero_le hbd.1
   have hyl : y < ls.length := by omega
   obtain ⟨A3, c3, e3, _, hx⟩ := H2.out.on BW.out
   injection e3 with e3 _ e4
   subst e3 e4
   obtain ⟨b6, o6, rfl, hb6, hx⟩ := hx (by omega)
   have hcj : wr.cell? ⟨b6, o6 + y, none⟩ = some (.int .i64 ls[y]) := hx y hyl
   rw [hy] at k0
   have hyz : (0 : Int) <= (y : Int) := by omega
   have hyi : (y : Int) < (ls.length : Int) := by omega
   have hkz : (0 : Int) <= (k : Int) := by omega
   have hki : (k : Int) < (rs.length : Int) := by omega
   have HQ := Lib.hid (show RdInts wr wr.heap.size u1 rs[k].1.2 /\ RdLits wr wr.heap.size u2 rs[k].2 from ⟨hq1, hq2⟩)
   have HW := Lib.hid (H.out.below BW.out (Nat.le_refl _))
   obtain ⟨e1, he1⟩ : ∃ e1, e1 = (ls[y] == low) := ⟨_, rfl⟩
   have hin : inLayer ls low rs[k] = e1 := by
    unfold inLayer
    rw [he1, hy]
    simp [hyl]
   have HIN := Lib.hid hin
   have g1' := he1.symm
   have HY := Lib.hid hy
   obtain ⟨x, hx2⟩ : ∃ x, x = ls[y] := ⟨_, rfl⟩
   rw [<- hx2] at hcj g1'
   clear hbd hy hx hq1 hq2 hin he1 hx2
   cases e1
   ·have HN := Lib.hid (show es.map (·.1) = rulesAt (rs.take (k + 1)) ls low by rw [HE.out, rulesAt_no hlt HIN.out])
    go_wp2_with fail
    go_roundw
    case rel => exact ⟨k + 1, A', c', es, by omega, by go_num, rfl, HN, HV.out, HBE.out⟩
    case measure => simp [intOf]; omega
   ·obtain ⟨b0, o0, t0, t1, t2, e0, hb0, j0, j1, j2, f0, f1, f2⟩ := HW.out.get hlt
    injection e0 with e0
    injection e0 with e0 e0' _
    subst e0 e0'
    have ej1 := Option.some.inj (j1.symm.trans k1)
    have ej2 := Option.some.inj (j2.symm.trans k2)
    rw [ej1] at f1
    rw [ej2] at f2
    have HF := Lib.hid (And.intro (f1.more hw1s) (f2.more hw1s))
    have HN := Lib.hid (show (es ++ [(rs[k], u1, u2)]).map (·.1) = rulesAt (rs.take (k + 1)) ls low by rw [List.map_append, HE.out, rulesAt_yes hlt HIN.out]; rfl)
    clear j0 j1 j2 f0 f1 f2 ej1 ej2
    go_wp2_with (at_builtin; refine wpList_append_lies _ rfl (.tmp 29) (.tmp 35) 32 rfl w1.heap.size 138 i0 (.agg #[.int .i64 0, .slice none 0 0, .slice none 0 0]) 3 56 Tryz.underlying32 hi0 hz0 hz1 hz2 rfl (by decide) (.slice A' es.length c') es.length (flatG es) rfl ?c1 ⟨_, 0, none⟩ 1 1 [.int .i64 (y : Int), u1, u2] rfl rfl (news3r _ _ _ _ _ _ (by simp)) ?c2 (by omega) (by unfold maxLen; omega) (by omega) ?c3 _ rfl ?_)
    case c1 => exact HV.out.row.alloc _
    case c2 =>
     have k1 : u1.oneCell' = true := by obtain ⟨_, _, e, _⟩ := HQ.out.1; rw [e]; rfl
     have k2 : u2.oneCell' = true := by obtain ⟨_, _, e, _⟩ := HQ.out.2; rw [e]; rfl
     first
      | exact ⟨rfl, k1, k2⟩
      | (intro u hu; simp at hu; rcases hu with rfl | rfl | rfl; rfl; exact k1; exact k2)
    case c3 => first | omega | (simp; omega)
    intro g2 cap w8 hown hg _ _
    rw [<- HY.out] at hown
    have hpu := HV.out.push (e := (rs[k], u1, u2)) (Nat.le_refl _) hsw (Below.refl _ _) HF.out.1 HF.out.2 hg hown
    have HPU := Lib.hid hpu
    have hlen : es.length + 1 = (es ++ [(rs[k], u1, u2)]).length := by simp
    rw [hlen]
    clear hown hg hpu hlen
    go_wp2_with fail
    go_roundw
    case rel => exact ⟨k + 1, _, _, _, by omega, by go_num, rfl, HN, HPU.out.1, HBE.out.trans HPU.out.2⟩
    case measure => simp [intOf]; omega
  ·have HR := Lib.hid (show RdRules wr wr.heap.size (.slice A' es.length c') (rulesAt rs ls low) from by
    have h1 := HV.out.rules hsw
    rw [HE.out, show k = rs.length by omega, List.take_length] at h1
    exact h1)
   go_wp2_with fail
   go_ret
   exact ⟨_, rfl, HR.out, BW.out⟩
open Go.RowKit
def lowF (low x : Int) : Int := if 0 <= x /\ (low < 0 \/ x < low) then x else low
def lowTo (s : List Int) (k : Nat) : Int := (s.take k).foldl lowF (-1)
def lowOf (s : List Int) : Int := s.foldl lowF (-1)
def markI (low x : Int) : Int := if x = low then -1 else x
def markTo (s : List Int) (low : Int) (k : Nat) : List Int := (s.take k).map (markI low) ++ s.drop k
def markOf (s : List Int) (low : Int) : List Int := s.map (markI low)
theorem lowTo_succ {s : List Int} {k : Nat} (h : k < s.length) : lowTo s (k + 1) = lowF (lowTo s k) s[k] := by
 unfold lowTo
 rw [take_snoc s k h, List.foldl_append]
 rfl
theorem markTo_length (s : List Int) (low : Int) (k : Nat) : (markTo s low k).length = s.length := by
 unfold markTo
 simp
 omega
theorem markTo_at {s : List Int} {low : Int} {k : Nat} (h : k < s.length) (h2 : k < (markTo s low k).length) : (markTo s low k)[k] = s[k] := by
 have h3 : ((s.take k).map (markI low)).length = k := by simp; omega
 have e : (markTo s low k)[k]? = some s[k] := by
  unfold markTo
  rw [List.getElem?_append_right (by omega), h3, Nat.sub_self, List.getElem?_drop]
  simp [h]
 rw [List.getElem?_eq_getElem h2] at e
 exact Option.some.inj e
theorem markTo_no {s : List Int} {low : Int} {k : Nat} (h : k < s.length) (e : s[k] ≠ low) : markTo s low (k + 1) = markTo s low k := by
 unfold markTo
 rw [take_snoc s k h, List.map_append, List.drop_eq_getElem_cons h]
 simp [markI, e]
theorem markTo_yes {s : List Int} {low : Int} {k : Nat} (h : k < s.length) (e : s[k] = low) : markTo s low (k + 1) = (markTo s low k).set k (-1) := by
 unfold markTo
 rw [take_snoc s k h, List.map_append, List.drop_eq_getElem_cons h, List.set_append_right _ _ (by simp; omega)]
 have h1 : k - ((s.take k).map (markI low)).length = 0 := by simp; omega
 rw [h1]
 simp [markI, e]
theorem markTo_end (s : List Int) (low : Int) : markTo s low s.length = markOf s low := by simp [markTo, markOf]
theorem markTo_zero (s : List Int) (low : Int) : markTo s low 0 = s := by simp [markTo]
def modelS (rs : List LRule) (ls : List Int) (most : Int) : Nat -> List Int -> List LFact -> List LFact
 | 0, _, F => F
 | n + 1, s, F => if lowOf s < 0 \/ most < lowOf s then F else modelS rs ls most n (markOf s (lowOf s)) (leastFrom (rulesAt rs ls (lowOf s)) (setOf F))
theorem sum_filter {α : Type} (f : α -> Nat) (p : α -> Bool) : ∀ l : List α, ((l.filter p).map f).sum <= (l.map f).sum
 | [] => by simp
 | x :: l => by
  have ih := sum_filter f p l
  rw [List.filter_cons]
  split <;> simp <;> omega
theorem rulesAt_tot (rs : List LRule) (ls : List Int) (low : Int) : totR (rulesAt rs ls low) <= totR rs := sum_filter _ _ _
theorem rulesAt_all (rs : List LRule) (ls : List Int) (low : Int) : (rulesAt rs ls low).length <= rs.length := by
 have := rulesAt_len rs ls low rs.length
 rwa [List.take_length] at this
theorem rulesAt_fit {ar : List Int} {rs : List LRule} {ls : List Int} {low : Int} (h : ∀ r ∈ rs, ruleFits ar r = true) : ∀ r ∈ rulesAt rs ls low, ruleFits ar r = true := fun r hr => h r (List.mem_filter.1 hr).1
theorem OwnInts.spot {w : World} {lo hi n c : Nat} {A : Option Addr} {xs : List Int} (h : OwnInts w lo hi (.slice A n c) xs) (hn : xs.length = n) {k : Nat} (hk : k < xs.length) :
 ∃ g, A = some ⟨g, 0, .none⟩ /\ lo <= g /\ g < hi /\ w.cell? ⟨g, k, .none⟩ = some (.int .i64 xs[k]) /\ w.frozen? ⟨g, k, .none⟩ = false /\ ∀ u, OwnInts (w.setCell ⟨g, k, .none⟩ (.int .i64 u)) lo hi (.slice A n c) (xs.set k u) := by
 subst hn
 have h' := h
 obtain ⟨A', c', e, _, hx⟩ := h.rd
 injection e with e1 _ _
 subst e1
 obtain ⟨b, o, e2, hbh, hx⟩ := hx (by omega)
 rcases h.1.2 with ⟨e, _⟩ | ⟨g, cap, cur, e, hlo, hgg, _⟩
 ·injection e with e3 _ _
  rw [e3] at e2
  cases e2
 ·injection e with e3 _ _
  subst e3
  injection e2 with e2
  injection e2 with e2 e4 _
  subst e2 e4
  exact ⟨g, rfl, hlo, hbh, by simpa using hx k hk, by simp [World.frozen?, hgg], fun u => h'.store rfl hk u⟩
theorem modelS_stop {rs : List LRule} {ls : List Int} {most : Int} {n : Nat} {s : List Int} {F : List LFact} (h : lowOf s < 0 \/ most < lowOf s) : modelS rs ls most (n + 1) s F = F := if_pos h
theorem modelS_on {rs : List LRule} {ls : List Int} {most : Int} {n : Nat} {s : List Int} {F : List LFact} (h : ¬ (lowOf s < 0 \/ most < lowOf s)) : modelS rs ls most (n + 1) s F = modelS rs ls most n (markOf s (lowOf s)) (leastFrom (rulesAt rs ls (lowOf s)) (setOf F)) := if_neg h
set_option maxHeartbeats 8000000 in
set_option maxRecDepth 100000 in
theorem l6Model_any (v v1 v2 : Value) (p : LProg) (db : List LFact) (ls : List Int) (most : Int) (R : List LFact) (hR : R = modelS p.2 ls most (ls.length + 1) ls (setOf db)) (w : World) (h : RdProg w w.heap.size v p) (h1 : RdFacts w w.heap.size v1 db) (h2 : RdInts w w.heap.size v2 ls)
 (har : arityOk p.1 = true) (hfit : ∀ r ∈ p.2, ruleFits p.1 r = true) (hsz : totR p.2 <= 1048576) (hrl : p.2.length <= 1048576) (hb : ∀ r ∈ p.2, 0 <= r.1.1 /\ r.1.1 < ls.length) (hf : ∀ f ∈ db, factFits p.1 f = true) (hn : db.length <= 1048576) (ht : tot db <= 1048576) (hll : ls.length <= 1048576) :
 Calls Tryz.prog 68 #[v, v1, v2, .int .i64 most] w fun e w' => ∃ A c, e = .returned (.slice A R.length c) /\ OwnFacts w' w.heap.size w'.heap.size (.slice A R.length c) R /\ Below w.heap.size w w' := by
 obtain ⟨a, bv, rfl, hpa, hpr⟩ := h
 obtain ⟨ar, rs⟩ := p
 simp only at hpa hpr hb hrl hsz hfit har hf hR
 have HPA := Lib.hid hpa
 have HPR := Lib.hid hpr
 have HARF := Lib.hid (And.intro har (And.intro hfit (And.intro hsz hb)))
 have H1 := Lib.hid h1
 have H2 := Lib.hid h2
 have HR := Lib.hid hR
 have HFT := Lib.hid (show FitL ar (setOf db) from FitL.set hf)
 clear har hfit hsz hb hf hR h1 h2
 obtain ⟨A1, c1, rfl, _, _⟩ := id H1.out
 obtain ⟨A2, c2, rfl, _, _⟩ := id H2.out
 obtain ⟨Ab, cb, rfl, _, _⟩ := hpr
 obtain ⟨i0, hi0, hz0, hz1, hz2⟩ := info_parts Tryz.infoInt
 go_enter Tryz.func68, Tryz.ntmps68
 go_upto_region 1 with fail
 obtain ⟨w1, hw1⟩ : ∃ w1, w1 = w.alloc (Obj.cells #[a, Value.slice Ab rs.length cb] 34) := ⟨_, rfl⟩
 have B1 : Below w.heap.size w w1 := by rw [hw1]; exact below1 _ _
 have hw1g : w.heap.size < w1.heap.size := by rw [hw1]; simp
 have x1 : Blk w1 w.heap.size 34 #[a, .slice Ab rs.length cb] := by rw [hw1]; exact Blk.new w _ _
 rw [<- hw1]
 clear hw1
 have HX := Lib.hid x1
 have FE := Lib.hid (specFactsEither_any (.slice A1 db.length c1) (.slice none 0 0) db [] w1 (H1.out.on B1) ⟨none, 0, rfl, by simp, fun h => absurd h (by simp)⟩ (by simp; exact hn) (by simp [tot]; exact ht))
 rw [List.append_nil] at FE
 clear x1
 go_upto_region 2 with (go_at_call 108; refine FE.out.mono ?_; rintro e w2 ⟨A3, c3, rfl, o3, b3⟩)
 have B2 := bthen B1 b3
 have hs2 := b3.size
 have HO2 := Lib.hid o3
 have HB12 := Lib.hid b3
 clear o3 b3
 have C0 := Lib.hid (ColI.empty (Below.refl w2.heap.size w2))
 go_wp2_with fail
 go_loopw [10, 11] (fun o i wr => ∃ (k : Nat) (A' : Option Addr) (c' : Nat), k <= ls.length /\ i = .int .i64 k /\ o = .slice A' (ls.take k).length c' /\ ColI w2 wr (ls.take k) A' c') (fun _ i _ => ls.length - (intOf i).toNat)
 case atStart => exact ⟨0, some ⟨w2.heap.size, 0, none⟩, 0, Nat.zero_le _, rfl, rfl, C0.out⟩
 case round =>
  obtain ⟨k, A', c', hk, rfl, rfl, hr'⟩ := hrel
  have hln : (ls.take k).length <= k := by simp; omega
  by_cases hlt : k < ls.length
  ·have hre := H2.out.on (bthen B2 hr'.below)
   obtain ⟨_, _, e3, _, hx⟩ := hre
   injection e3 with e3 _ e4
   subst e3 e4
   obtain ⟨b, o, rfl, hbB, hx⟩ := hx (by omega)
   have hck : wr.cell? ⟨b, o + k, none⟩ = some (.int .i64 ls[k]) := hx k hlt
   have HS := Lib.hid (take_snoc ls k hlt)
   have HP := Lib.hid hr'
   clear hx hr'
   obtain ⟨x, hx⟩ : ∃ x, x = ls[k] := ⟨_, rfl⟩
   rw [<- hx] at hck HS
   clear hx
   obtain ⟨zs, hzs⟩ : ∃ zs, zs = ls.take k := ⟨_, rfl⟩
   have HZ := Lib.hid hzs
   rw [<- hzs] at HP hln ⊢
   clear hzs
   have hkz : (0 : Int) <= (k : Int) := by omega
   have hki : (k : Int) < (ls.length : Int) := by omega
   go_wp2_with (at_builtin; refine wpList_append_lies _ rfl (.tmp 25) (.tmp 30) 22 rfl w2.heap.size 3 i0 (.int .i64 0) 1 8 Tryz.underlying22 hi0 hz0 hz1 hz2 rfl (by decide) (.slice A' zs.length c') zs.length (zs.map (Value.int .i64)) rfl ?c1 ⟨_, 0, none⟩ 1 1 [.int .i64 x] rfl rfl (news1s _ _ _ _ (by simp)) ?c2 (by omega) (by unfold maxLen; omega) (by omega) ?c3 _ rfl ?_)
   case c1 => exact HP.out.own.1.alloc _
   case c2 => first | rfl | (intro u hu; simp at hu; subst hu; rfl)
   case c3 => have := HP.out.below.size; simp; omega
   intro g cap w4 hown hg _ _
   have hcol := HP.out.push (Below.refl _ _) hg hown
   rw [HZ.out, <- HS.out] at hcol
   have hlen : zs.length + 1 = (ls.take (k + 1)).length := by rw [HS.out, HZ.out]; simp
   rw [hlen]
   have HC := Lib.hid hcol
   clear hcol hlen hown hg
   go_wp2_with fail
   go_roundw
   case rel => exact ⟨k + 1, _, _, by omega, by go_num, rfl, HC.out⟩
   case measure => simp [intOf]; omega
  ·obtain ⟨w3, rfl⟩ : ∃ w3, w3 = wr := ⟨_, rfl⟩
   have hkn : k = ls.length := by omega
   subst hkn
   have HS := Lib.hid (show OwnInts w3 w2.heap.size w3.heap.size (.slice A' ls.length c') ls from by
    have := hr'.own
    rw [List.take_length] at this
    exact this)
   have hlq : (ls.take ls.length).length = ls.length := by simp
   rw [hlq]
   have B23 := Lib.hid hr'.below
   have B3 := Lib.hid (bthen B2 hr'.below)
   have hs3 := hr'.below.size
   have HF0 := Lib.hid (show OwnFacts w3 w1.heap.size w2.heap.size (.slice A3 (setOf db).length c3) (setOf db) from HO2.out.below hr'.below (Nat.le_refl _))
   have HX3 := Lib.hid ((HX.out.below HB12.out HX.out.lt).below hr'.below (Nat.lt_of_lt_of_le HX.out.lt hs2))
   have hw3 : w.heap.size < w3.heap.size := by omega
   have hw12 : w.heap.size <= w1.heap.size := by omega
   clear hr' hlt hk hlq hln
   go_wp2_with fail
   go_loopw [9, 12, 13, 14, 15] (fun o i _ _ _ wr => ∃ (j : Nat) (F : List LFact) (Af : Option Addr) (cf l h : Nat) (s : List Int), j <= ls.length + 1 /\ i = .int .i64 j /\ o = .slice Af F.length cf /\ Hid (R = modelS rs ls most (ls.length + 1 - j) s F /\ FitL ar F /\ s.length = ls.length) /\ OwnInts wr w2.heap.size w3.heap.size (.slice A' ls.length c') s /\ OwnFacts wr l h (.slice Af F.length cf) F /\ w.heap.size <= l /\ (h <= w2.heap.size \/ w3.heap.size <= l) /\ h <= wr.heap.size /\ Only w2.heap.size w3.heap.size w3 wr) (fun _ i _ _ _ _ => ls.length + 1 - (intOf i).toNat)
   case atStart => exact ⟨0, setOf db, A3, c3, w1.heap.size, w2.heap.size, ls, Nat.zero_le _, rfl, rfl, Lib.hid ⟨HR.out, HFT.out, rfl⟩, HS.out, HF0.out, hw12, .inl (Nat.le_refl _), hs3, Only.refl _ _ _⟩
   case round =>
    obtain ⟨j, F, Af, cf, l, h, s, hj, rfl, rfl, HI, hsn, hof, hl1, hdis, hh, hon⟩ := hrel
    obtain ⟨wo, rfl⟩ : ∃ wo, wo = wr := ⟨_, rfl⟩
    have HSN := Lib.hid hsn
    have HOF := Lib.hid hof
    have HON := Lib.hid hon
    have BW := Lib.hid (show Below w.heap.size w wo from B3.out.trans (hon.below (by omega) (by omega)))
    have hso := hon.size
    have HSL := Lib.hid HI.out.2.2
    have hsl : s.length <= 1048576 := by rw [HSL.out]; exact hll
    clear hsn hof hon
    by_cases hjl : j <= ls.length
    ·have hjd : decide ((j : Int) <= (ls.length : Int)) = true := decide_eq_true (by omega)
     go_wp2_with fail
     go_loopw [13, 14] (fun lo i wr => ∃ k : Nat, k <= s.length /\ i = .int .i64 k /\ lo = .int .i64 (lowTo s k) /\ wr = wo) (fun _ i _ => s.length - (intOf i).toNat)
     case atStart => exact ⟨0, Nat.zero_le _, rfl, by simp [lowTo], rfl⟩
     case round =>
      obtain ⟨k, hk, rfl, rfl, rfl⟩ := hrel
      obtain ⟨wo, rfl⟩ : ∃ wo, wo = wr := ⟨_, rfl⟩
      by_cases hlt : k < s.length
      ·obtain ⟨g, hA, hg1, hg2, hck, _, _⟩ := HSN.out.spot HSL.out hlt
       subst hA
       have hkl : k < ls.length := by rw [<- HSL.out]; exact hlt
       have hkz : (0 : Int) <= (k : Int) := by omega
       have hki : (k : Int) < (ls.length : Int) := by omega
       have HLT := Lib.hid (lowTo_succ hlt)
       obtain ⟨x, hx⟩ : ∃ x, x = s[k] := ⟨_, rfl⟩
       obtain ⟨L, hL⟩ : ∃ L, L = lowTo s k := ⟨_, rfl⟩
       rw [<- hx] at hck HLT
       rw [<- hL] at HLT ⊢
       clear hx hL
       obtain ⟨b1, hb1⟩ : ∃ b1, b1 = decide (0 <= x) := ⟨_, rfl⟩
       obtain ⟨b2, hb2⟩ : ∃ b2, b2 = decide (L < 0) := ⟨_, rfl⟩
       obtain ⟨b3, hb3⟩ : ∃ b3, b3 = decide (x < L) := ⟨_, rfl⟩
       have HB1 := Lib.hid hb1
       have HB2 := Lib.hid hb2
       have HB3 := Lib.hid hb3
       have g1 := hb1.symm
       have g2 := hb2.symm
       have g3 := hb3.symm
       clear hb1 hb2 hb3
       cases b1
       ·have HN := Lib.hid (show lowTo s (k + 1) = L by
         have := of_decide_eq_false HB1.out.symm
         rw [HLT.out]; unfold lowF; rw [if_neg (by omega)])
        go_wp2_with fail
        go_roundw
        case rel => exact ⟨k + 1, by omega, by go_num, by rw [HN.out], by first | trivial | rfl⟩
        case measure => simp [intOf]; omega
       cases b2
       ·cases b3
        ·have HN := Lib.hid (show lowTo s (k + 1) = L by
          have := of_decide_eq_false HB2.out.symm
          have := of_decide_eq_false HB3.out.symm
          rw [HLT.out]; unfold lowF; rw [if_neg (by omega)])
         go_wp2_with fail
         go_roundw
         case rel => exact ⟨k + 1, by omega, by go_num, by rw [HN.out], by first | trivial | rfl⟩
         case measure => simp [intOf]; omega
        ·have HN := Lib.hid (show lowTo s (k + 1) = x by
          have := of_decide_eq_true HB1.out.symm
          have := of_decide_eq_true HB3.out.symm
          rw [HLT.out]; unfold lowF; rw [if_pos (by omega)])
         go_wp2_with fail
         go_roundw
         case rel => exact ⟨k + 1, by omega, by go_num, by rw [HN.out], by first | trivial | rfl⟩
         case measure => simp [intOf]; omega
       ·have HN := Lib.hid (show lowTo s (k + 1) = x by
         have := of_decide_eq_true HB1.out.symm
         have := of_decide_eq_true HB2.out.symm
         rw [HLT.out]; unfold lowF; rw [if_pos (by omega)])
        go_wp2_with fail
        go_roundw
        case rel => exact ⟨k + 1, by omega, by go_num, by rw [HN.out], by first | trivial | rfl⟩
        case measure => simp [intOf]; omega
      ·have hks : lowTo s k = lowOf s := by unfold lowTo lowOf; rw [show k = s.length by omega, List.take_length]
       have hkn : k = ls.length := by rw [<- HSL.out]; omega
       subst hkn
       rw [hks]
       obtain ⟨L, hL⟩ : ∃ L, L = lowOf s := ⟨_, rfl⟩
       rw [<- hL]
       have HL := Lib.hid hL
       clear hks hL hlt hk
       have hls0 : ls.length + 1 - j = (ls.length - j) + 1 := by omega
       have HMD := Lib.hid (show R = modelS rs ls most ((ls.length - j) + 1) s F from by rw [<- hls0]; exact HI.out.1)
       clear hls0
       obtain ⟨b4, hb4⟩ : ∃ b4, b4 = decide (L < 0) := ⟨_, rfl⟩
       obtain ⟨b5, hb5⟩ : ∃ b5, b5 = decide (most < L) := ⟨_, rfl⟩
       have HB4 := Lib.hid hb4
       have HB5 := Lib.hid hb5
       have g4 := hb4.symm
       have g5 := hb5.symm
       clear hb4 hb5
       cases b4
       ·cases b5
        ·have HN := Lib.hid (show R = modelS rs ls most (ls.length - j) (markOf s L) (leastFrom (rulesAt rs ls L) (setOf F)) by
          have h4 := of_decide_eq_false HB4.out.symm
          have h5 := of_decide_eq_false HB5.out.symm
          rw [HMD.out, modelS_on (by rw [<- HL.out]; omega), <- HL.out])
         have HF2 := Lib.hid (show FitL ar (leastFrom (rulesAt rs ls L) (setOf F)) from iterL_fit (rulesAt_fit HARF.out.2.1) (FitL.set HI.out.2.1.fits) _)
         have HFW := Lib.hid (iter_few (rs := []) HARF.out.1 (fun r hr => absurd hr (by simp)) HI.out.2.1 0)
         have LR := Lib.hid (l6Rules_any (.agg #[a, .slice Ab rs.length cb]) (.slice A2 ls.length c2) (ar, rs) ls L wo ⟨_, _, rfl, HPA.out.on BW.out, HPR.out.on BW.out⟩ (H2.out.on BW.out) HARF.out.2.2.2 hrl)
         have z0 := (HON.out.blk HX3.out (.inl (by omega)))
         have p0 : wo.cell? ⟨w.heap.size, 0, none⟩ = some a := z0.cell 0
         have p1 : wo.cell? ⟨w.heap.size, 1, none⟩ = some (.slice Ab rs.length cb) := z0.cell 1
         clear z0
         go_wp2_with fail
         refine LR.out.mono ?_
         rintro e w5 ⟨u, rfl, hu, hb5⟩
         have LL := Lib.hid (l4Least_any ar HARF.out.1 (rulesAt rs ls L) (rulesAt_fit HARF.out.2.1) (Nat.le_trans (rulesAt_tot _ _ _) HARF.out.2.2.1) (Nat.le_trans (rulesAt_all _ _ _) hrl) u (.slice Af F.length cf) F w5 hu (((HOF.out.rd.more hh).on hb5)) HI.out.2.1.fits (by have := HFW.out.1; simp only [iterL] at this; omega) (by have := HFW.out.2; simp only [iterL] at this; omega))
         have HB56 := Lib.hid hb5
         have hs5 := hb5.size
         clear p0 p1 hu hb5
         go_wp2_with fail
         refine LL.out.mono ?_
         rintro e w6 ⟨A6, c6, rfl, o6, hb6⟩
         have HB6 := Lib.hid (bthen HB56.out hb6)
         have hs6 := hb6.size
         have HS6 := Lib.hid (HSN.out.below HB6.out hso)
         have HO6 := Lib.hid (HON.out.trans (Only.of_below HB6.out))
         have HF6 := Lib.hid o6
         obtain ⟨F2, hF2⟩ : ∃ F2, F2 = leastFrom (rulesAt rs ls L) (setOf F) := ⟨_, rfl⟩
         rw [<- hF2] at HF6 HF2 HN ⊢
         clear hF2 o6 hb6
         go_wp2_with fail
         go_loopw [15] (fun i wr => ∃ k : Nat, k <= s.length /\ i = .int .i64 k /\ OwnInts wr w2.heap.size w3.heap.size (.slice A' ls.length c') (markTo s L k) /\ Only w2.heap.size w3.heap.size w6 wr) (fun i _ => s.length - (intOf i).toNat)
         case atStart => exact ⟨0, Nat.zero_le _, rfl, by rw [markTo_zero]; exact HS6.out, Only.refl _ _ _⟩
         case round =>
          obtain ⟨k, hk, rfl, hsk, honk⟩ := hrel
          have HSK := Lib.hid hsk
          have HOK := Lib.hid honk
          clear hsk honk
          have hml := markTo_length s L k
          by_cases hlt : k < s.length
          ·obtain ⟨g, hA, hg1, hg2, hck, hfz, hup⟩ := HSK.out.spot (hml.trans HSL.out) (k := k) (by omega)
           rw [markTo_at hlt] at hck
           subst hA
           have HUP := Lib.hid hup
           have HYE := Lib.hid (fun e => markTo_yes (low := L) hlt e)
           have HNO := Lib.hid (fun e => markTo_no (low := L) hlt e)
           have hkl : k < ls.length := by rw [<- HSL.out]; exact hlt
           have hkz : (0 : Int) <= (k : Int) := by omega
           have hki : (k : Int) < (ls.length : Int) := by omega
           obtain ⟨x, hx⟩ : ∃ x, x = s[k] := ⟨_, rfl⟩
           rw [<- hx] at hck HYE HNO
           clear hx hup hml
           obtain ⟨b6, hb6⟩ : ∃ b6, b6 = (x == L) := ⟨_, rfl⟩
           have HB6' := Lib.hid hb6
           have g6 := hb6.symm
           clear hb6
           cases b6
           ·have HN2 := Lib.hid (HNO.out (by have := HB6'.out.symm; simpa using this))
            go_wp2_with fail
            go_roundw
            case rel => exact ⟨k + 1, by omega, by go_num, by rw [HN2.out]; exact HSK.out, HOK.out⟩
            case measure => simp [intOf]; omega
           ·have HN2 := Lib.hid (HYE.out (by have := HB6'.out.symm; simpa using this))
            go_wp2_with fail
            go_roundw
            case rel => exact ⟨k + 1, by omega, by go_num, by rw [HN2.out]; exact HUP.out (-1), HOK.out.setCell ⟨hg1, hg2⟩ _⟩
            case measure => simp [intOf]; omega
          ·have HE := Lib.hid (show OwnInts wr w2.heap.size w3.heap.size (.slice A' ls.length c') (markOf s L) from by
            have := HSK.out
            rw [show k = s.length by omega, markTo_end] at this
            exact this)
           have hkn : k = ls.length := by rw [<- HSL.out]; omega
           have hszk := HOK.out.size
           subst hkn
           clear hml hlt hk
           go_wp2_with fail
           go_roundw
           case rel => exact ⟨j + 1, F2, A6, c6, w5.heap.size, w6.heap.size, markOf s L, by omega, by go_num, rfl, Lib.hid ⟨by rw [show ls.length + 1 - (j + 1) = ls.length - j by omega]; exact HN.out, HF2.out, by rw [<- HSL.out]; simp [markOf]⟩, HE.out, HF6.out.only HOK.out (.inr (by omega)), by omega, .inr (by omega), hszk, HO6.out.trans HOK.out⟩
           case measure => simp [intOf]; omega
        ·have HE := Lib.hid (show F = R by
          have h5 := of_decide_eq_true HB5.out.symm
          rw [HMD.out, modelS_stop (by rw [<- HL.out]; omega)])
         go_wp2_with fail
         go_ret
         rw [<- HE.out]
         exact ⟨Af, cf, rfl, HOF.out.mono hl1 hh, BW.out⟩
       ·have HE := Lib.hid (show F = R by
         have h4 := of_decide_eq_true HB4.out.symm
         rw [HMD.out, modelS_stop (by rw [<- HL.out]; omega)])
        go_wp2_with fail
        go_ret
        rw [<- HE.out]
        exact ⟨Af, cf, rfl, HOF.out.mono hl1 hh, BW.out⟩
    ·have HE := Lib.hid (show F = R by
      have h3 := HI.out.1
      rw [show ls.length + 1 - j = 0 by omega] at h3
      exact h3.symm)
     go_wp2_with fail
     go_ret
     rw [<- HE.out]
     exact ⟨Af, cf, rfl, HOF.out.mono hl1 hh, BW.out⟩
def has (x n : Nat) : Prop := x.testBit n = true
instance (x n : Nat) : Decidable (has x n) := by unfold has; infer_instance
theorem has_or {x y n : Nat} : has (x ||| y) n <-> has x n \/ has y n := by simp [has, Nat.testBit_or]
theorem has_pow {m n : Nat} : has (2 ^ m) n <-> m = n := by simp [has, Nat.testBit_two_pow]
def bitsN (x : Nat) : List Nat := (List.range 64).filter fun j => x.testBit j
theorem bitsN_mem {x n : Nat} : n ∈ bitsN x <-> n < 64 /\ has x n := by simp [bitsN, has]
open Go.RowKit
abbrev LAsk := Int × LLit
def asksOf (rs : List LRule) : List LAsk := rs.flatMap fun r => r.2.map fun l => (r.1.1, l)
def asked (kd : Int) (ps : List LAsk) (i k : Nat) : Bool := ps.any fun x => decide (x.1 = (i : Int) /\ x.2.1 = kd /\ x.2.2.1 = (k : Int))
theorem asked_snoc (kd : Int) (ps : List LAsk) (x : LAsk) (i k : Nat) : asked kd (ps ++ [x]) i k = (asked kd ps i k || decide (x.1 = (i : Int) /\ x.2.1 = kd /\ x.2.2.1 = (k : Int))) := by simp [asked]
def AskFits (n : Nat) (x : LAsk) : Prop := (0 <= x.1 /\ x.1 < n) /\ (x.2.1 = 0 \/ x.2.1 = 1 -> 0 <= x.2.2.1 /\ x.2.2.1 < n)
def askMask (kd : Int) (ps : List LAsk) (i : Nat) : Nat := ps.foldl (fun m x => if x.1 = (i : Int) /\ x.2.1 = kd then m ||| 2 ^ x.2.2.1.toNat else m) 0
theorem askMask_snoc (kd : Int) (ps : List LAsk) (x : LAsk) (i : Nat) : askMask kd (ps ++ [x]) i = if x.1 = (i : Int) /\ x.2.1 = kd then askMask kd ps i ||| 2 ^ x.2.2.1.toNat else askMask kd ps i := by simp [askMask]
theorem has_mask_from {n : Nat} {kd : Int} (hk : kd = 0 \/ kd = 1) (i k : Nat) : ∀ (ps : List LAsk) (m : Nat), (∀ x ∈ ps, AskFits n x) -> (has (ps.foldl (fun m x => if x.1 = (i : Int) /\ x.2.1 = kd then m ||| 2 ^ x.2.2.1.toNat else m) m) k <-> has m k \/ asked kd ps i k = true)
 | [], m, _ => by simp [asked]
 | x :: ps, m, h => by
  have h2 := (h x (List.mem_cons_self ..)).2
  have ea : asked kd (x :: ps) i k = (decide (x.1 = (i : Int) /\ x.2.1 = kd /\ x.2.2.1 = (k : Int)) || asked kd ps i k) := rfl
  rw [List.foldl_cons, has_mask_from hk i k ps _ fun y hy => h y (List.mem_cons_of_mem _ hy), ea, Bool.or_eq_true, decide_eq_true_eq]
  by_cases e : x.1 = (i : Int) /\ x.2.1 = kd
  ·rw [if_pos e, has_or, has_pow]
   have h3 := h2 (by rcases hk with rfl | rfl <;> simp [e.2])
   constructor
   ·rintro ((h | h) | h)
    ·exact .inl h
    ·exact .inr (.inl ⟨e.1, e.2, by omega⟩)
    ·exact .inr (.inr h)
   ·rintro (h | h | h)
    ·exact .inl (.inl h)
    ·exact .inl (.inr (by omega))
    ·exact .inr h
  ·rw [if_neg e]
   constructor
   ·rintro (h | h)
    ·exact .inl h
    ·exact .inr (.inr h)
   ·rintro (h | h | h)
    ·exact .inl h
    ·exact absurd ⟨h.1, h.2.1⟩ e
    ·exact .inr h
theorem has_mask {n : Nat} {kd : Int} (hk : kd = 0 \/ kd = 1) (i k : Nat) (ps : List LAsk) (h : ∀ x ∈ ps, AskFits n x) : has (askMask kd ps i) k <-> asked kd ps i k = true := by
 unfold askMask
 rw [has_mask_from hk i k ps 0 h]
 simp [has]
theorem asked_lt {n : Nat} {kd : Int} (hk : kd = 0 \/ kd = 1) {i k : Nat} {ps : List LAsk} (h : ∀ x ∈ ps, AskFits n x) (ha : asked kd ps i k = true) : i < n /\ k < n := by
 unfold asked at ha
 rw [List.any_eq_true] at ha
 obtain ⟨x, hx, e⟩ := ha
 rw [decide_eq_true_eq] at e
 have h1 := h x hx
 have h2 := h1.2 (by rcases hk with rfl | rfl <;> simp [e.2.1])
 have := h1.1
 omega
theorem word_of_bits {x n : Nat} (h : ∀ k, has x k -> k < n) : x < 2 ^ n := by
 apply Nat.lt_pow_two_of_testBit
 intro i hi
 have := h i
 unfold has at this
 cases e : x.testBit i
 ·rfl
 ·have := this e
  omega
theorem askMask_lt {n : Nat} {kd : Int} (hn : n <= 24) (hk : kd = 0 \/ kd = 1) {i : Nat} {ps : List LAsk} (h : ∀ x ∈ ps, AskFits n x) : askMask kd ps i < 16777216 := by
 have h1 := word_of_bits (x := askMask kd ps i) (n := n) fun k hx => (asked_lt hk h ((has_mask hk i k ps h).1 hx)).2
 exact Nat.lt_of_lt_of_le h1 (Nat.pow_le_pow_right (by decide) hn)
def askWords (kd : Int) (ps : List LAsk) : List Nat := (List.range 24).map (askMask kd ps)
theorem askWords_len (kd : Int) (ps : List LAsk) : (askWords kd ps).length = 24 := by simp [askWords]
theorem askWords_at {kd : Int} {ps : List LAsk} {i : Nat} (h : i < 24) : (askWords kd ps).getD i 0 = askMask kd ps i := by simp [askWords, h]
theorem askWords_no {kd : Int} {ps : List LAsk} {x : LAsk} (h : x.2.1 ≠ kd) : askWords kd (ps ++ [x]) = askWords kd ps := by
 unfold askWords
 apply List.map_congr_left
 intro i _
 rw [askMask_snoc, if_neg (fun e => h e.2)]
theorem askWords_yes {kd : Int} {ps : List LAsk} {x : LAsk} (h : x.2.1 = kd) {p : Nat} (hp : x.1 = (p : Int)) : askWords kd (ps ++ [x]) = (askWords kd ps).set p (askMask kd ps p ||| 2 ^ x.2.2.1.toNat) := by
 apply List.ext_getElem
 ·simp [askWords]
 ·intro i h1 h2
  have hi : i < 24 := by simpa [askWords] using h1
  rw [List.getElem_set]
  simp only [askWords, List.getElem_map, List.getElem_range, askMask_snoc]
  by_cases e : p = i
  ·subst e
   rw [if_pos rfl, if_pos ⟨hp, h⟩]
  ·rw [if_neg e, if_neg (fun e2 => e (by have := e2.1; omega))]
def cellV (ps : List LAsk) (i k : Nat) : Nat := (if asked 0 ps i k then 1 else 0) + (if asked 1 ps i k then 2 else 0)
theorem cellV_le (ps : List LAsk) (i k : Nat) : cellV ps i k <= 3 := by unfold cellV; split <;> split <;> omega
theorem cellV_snoc (ps : List LAsk) (x : LAsk) (i k : Nat) : cellV (ps ++ [x]) i k =
 if x.1 = (i : Int) /\ x.2.2.1 = (k : Int) then (if x.2.1 = 0 /\ cellV ps i k % 2 = 0 then cellV ps i k + 1 else if x.2.1 = 1 /\ cellV ps i k < 2 then cellV ps i k + 2 else cellV ps i k) else cellV ps i k := by
 unfold cellV
 rw [asked_snoc, asked_snoc]
 by_cases e : x.1 = (i : Int) /\ x.2.2.1 = (k : Int)
 ·rw [if_pos e]
  have e0 : decide (x.1 = (i : Int) /\ x.2.1 = 0 /\ x.2.2.1 = (k : Int)) = decide (x.2.1 = 0) := by simp [e.1, e.2]
  have e1 : decide (x.1 = (i : Int) /\ x.2.1 = 1 /\ x.2.2.1 = (k : Int)) = decide (x.2.1 = 1) := by simp [e.1, e.2]
  rw [e0, e1]
  by_cases h0 : x.2.1 = 0
  ·have h1 : ¬ x.2.1 = 1 := by omega
   cases asked 0 ps i k <;> cases asked 1 ps i k <;> simp [h0]
  ·by_cases h1 : x.2.1 = 1
   ·cases asked 0 ps i k <;> cases asked 1 ps i k <;> simp [h1]
   ·cases asked 0 ps i k <;> cases asked 1 ps i k <;> simp [h0, h1]
 ·rw [if_neg e]
  have e0 : decide (x.1 = (i : Int) /\ x.2.1 = 0 /\ x.2.2.1 = (k : Int)) = false := by simp; intro a _; exact fun b => e ⟨a, b⟩
  have e1 : decide (x.1 = (i : Int) /\ x.2.1 = 1 /\ x.2.2.1 = (k : Int)) = false := by simp; intro a _; exact fun b => e ⟨a, b⟩
  rw [e0, e1]
  simp
abbrev LLink := Int × Int × Bool
def linkAt (ps : List LAsk) (i k : Nat) : List LLink := (if asked 0 ps i k then [((i : Int), (k : Int), false)] else []) ++ (if asked 1 ps i k then [((i : Int), (k : Int), true)] else [])
def linksFrom (n : Nat) (ps : List LAsk) (i : Nat) : List LLink := (List.range n).flatMap (linkAt ps i)
def linksL (n m : Nat) (ps : List LAsk) : List LLink := (List.range m).flatMap (linksFrom n ps)
def linksOf (p : LProg) : List LLink := if progOk p then linksL p.1.length p.1.length (asksOf p.2) else []
theorem linkAt_len (ps : List LAsk) (i k : Nat) : (linkAt ps i k).length <= 2 := by
 unfold linkAt
 split <;> split <;> simp
theorem flatMap_len {α β : Type} {f : α -> List β} {m : Nat} (h : ∀ x, (f x).length <= m) : ∀ l : List α, (l.flatMap f).length <= l.length * m
 | [] => by simp
 | x :: l => by
  have := flatMap_len h l
  have := h x
  rw [List.flatMap_cons, List.length_append, List.length_cons, Nat.succ_mul]
  omega
theorem linksFrom_len (n : Nat) (ps : List LAsk) (i : Nat) : (linksFrom n ps i).length <= n * 2 := by
 have := flatMap_len (linkAt_len ps i) (List.range n)
 simpa [linksFrom] using this
theorem linksL_len (n m : Nat) (ps : List LAsk) : (linksL n m ps).length <= m * (n * 2) := by
 have := flatMap_len (linksFrom_len n ps) (List.range m)
 simpa [linksL] using this
theorem linksL_snoc (n m : Nat) (ps : List LAsk) : linksL n (m + 1) ps = linksL n m ps ++ linksFrom n ps m := by simp [linksL, List.range_succ]
theorem flatMap_filter {α β : Type} {f : α -> List β} {q : α -> Bool} : ∀ (l : List α), (∀ x ∈ l, q x = false -> f x = []) -> (l.filter q).flatMap f = l.flatMap f
 | [], _ => rfl
 | x :: l, h => by
  have ih := flatMap_filter l fun y hy => h y (List.mem_cons_of_mem _ hy)
  cases e : q x
  ·rw [List.filter_cons_of_neg (by simp [e]), List.flatMap_cons, h x (List.mem_cons_self ..) e, ih]
   rfl
  ·rw [List.filter_cons_of_pos e, List.flatMap_cons, List.flatMap_cons, ih]
theorem linksFrom_bits {n : Nat} (hn : n <= 24) {ps : List LAsk} (h : ∀ x ∈ ps, AskFits n x) (i : Nat) : (bitsN (askMask 0 ps i ||| askMask 1 ps i)).flatMap (linkAt ps i) = linksFrom n ps i := by
 have hno : ∀ k, ¬ has (askMask 0 ps i ||| askMask 1 ps i) k -> linkAt ps i k = [] := fun k hk => by
  rw [has_or, has_mask (.inl rfl) i k ps h, has_mask (.inr rfl) i k ps h] at hk
  have h0 : asked 0 ps i k = false := by simpa using fun e => hk (.inl e)
  have h1 : asked 1 ps i k = false := by simpa using fun e => hk (.inr e)
  simp [linkAt, h0, h1]
 unfold bitsN linksFrom
 rw [flatMap_filter _ fun k _ hk => hno k (by unfold has; simp [hk])]
 obtain ⟨d, hd⟩ : ∃ d, 64 = n + d := ⟨64 - n, by omega⟩
 rw [hd, List.range_add, List.flatMap_append]
 have : ((List.range d).map (n + ·)).flatMap (linkAt ps i) = [] := by
  rw [List.flatMap_eq_nil_iff]
  intro k hk
  obtain ⟨j, _, rfl⟩ := List.mem_map.1 hk
  refine hno _ fun hb => ?_
  rw [has_or, has_mask (.inl rfl) i _ ps h, has_mask (.inr rfl) i _ ps h] at hb
  rcases hb with hb | hb
  ·have := (asked_lt (.inl rfl) h hb).2; omega
  ·have := (asked_lt (.inr rfl) h hb).2; omega
 rw [this, List.append_nil]
theorem asksOf_fits {p : LProg} (h : progOk p = true) : p.1.length <= 24 /\ ∀ x ∈ asksOf p.2, AskFits p.1.length x := by
 simp only [progOk, arityOk, Bool.and_eq_true, decide_eq_true_eq, List.all_eq_true] at h
 refine ⟨h.1.1, fun x hx => ?_⟩
 unfold asksOf at hx
 obtain ⟨r, hr, hx⟩ := List.mem_flatMap.1 hx
 obtain ⟨l, hl, rfl⟩ := List.mem_map.1 hx
 have hf := h.2.2 r hr
 simp only [ruleFits, atomFits, Bool.and_eq_true, decide_eq_true_eq, List.all_eq_true] at hf
 refine ⟨⟨hf.1.1.1, hf.1.1.2.1⟩, fun hk => ?_⟩
 have h2 := hf.2.2.1 l hl
 unfold litFits at h2
 rw [if_pos hk] at h2
 simp only [atomFits, Bool.and_eq_true, decide_eq_true_eq] at h2
 exact ⟨h2.1.1, h2.1.2.1⟩
def fitBad (ls : List Int) (ps : List LAsk) (i k : Nat) : Bool := (decide (0 < cellV ps i k) && decide (ls.getD i 0 < ls.getD k 0)) || (decide (1 < cellV ps i k) && decide (ls.getD k 0 = ls.getD i 0))
def linkBad (ls : List Int) (l : LLink) : Bool := decide (ls.getD l.1.toNat 0 < ls.getD l.2.1.toNat 0) || (decide (ls.getD l.2.1.toNat 0 = ls.getD l.1.toNat 0) && l.2.2)
def layersFit (p : LProg) (ls : List Int) : Bool := (progOk p && decide (ls.length = p.1.length)) && (ls.all (fun x => decide (0 <= x)) && !(linksOf p).any (linkBad ls))
theorem linkAt_bad (ls : List Int) (ps : List LAsk) (i k : Nat) : (linkAt ps i k).any (linkBad ls) = fitBad ls ps i k := by
 unfold linkAt fitBad cellV linkBad
 cases asked 0 ps i k <;> cases asked 1 ps i k <;> simp
theorem links_bad {p : LProg} (h : progOk p = true) (ls : List Int) : (linksOf p).any (linkBad ls) = (List.range p.1.length).any fun i => (List.range p.1.length).any fun k => fitBad ls (asksOf p.2) i k := by
 unfold linksOf linksL
 rw [if_pos h, List.any_flatMap]
 congr 1
 funext i
 unfold linksFrom
 rw [List.any_flatMap]
 congr 1
 funext k
 exact linkAt_bad ls _ i k
open Go.RowKit
theorem bit_one (x n : Nat) (hx : x < 18446744073709551616) : (bits .and .u64 ((x : Int) / 2 ^ n) 1 == 1) = x.testBit n := by
 have e : ((x : Int) / 2 ^ n) = ((x / 2 ^ n : Nat) : Int) := by simp
 have h1 : x / 2 ^ n < 18446744073709551616 := Nat.lt_of_le_of_lt (Nat.div_le_self _ _) hx
 rw [e, show (1 : Int) = ((1 : Nat) : Int) from rfl, u64_and_nat _ 1 h1 (by decide), Nat.and_one_is_mod]
 have h2 : x.testBit n = decide (x / 2 ^ n % 2 = 1) := by
  rw [Nat.testBit, Nat.shiftRight_eq_div_pow, Nat.one_and_eq_mod_two]
  have := Nat.mod_two_eq_zero_or_one (x / 2 ^ n)
  rcases this with h | h <;> simp [h]
 rw [h2, Bool.eq_iff_iff, beq_iff_eq, decide_eq_true_eq]
 omega
set_option maxHeartbeats 1000000 in
theorem hasBit_any (x n : Nat) (hx : x < 18446744073709551616) (hn : n < 64) (w : World) :
 Calls Tryz.prog 164 #[.int .u64 x, .int .i64 n] w fun e w' => e = .returned (.bool (x.testBit n)) /\ w = w' := by
 go_enter Tryz.func164, Tryz.ntmps164
 go_wp2_with (fail)
 go_ret
 exact ⟨ret_bool (bit_one x n hx), rfl⟩
def askCells (Y N : List Nat) : Array Value := ((Y ++ N).map fun x => Value.int .u64 ((x : Nat) : Int)).toArray
def AskAt (w : World) (g : Nat) (Y N : List Nat) : Prop := Blk w g 156 (askCells Y N) /\ Y.length = 24 /\ N.length = 24
theorem AskAt.yes {w : World} {g p : Nat} {Y N : List Nat} (h : AskAt w g Y N) (hp : p < 24) : w.cell? ⟨g, p, none⟩ = some (.int .u64 ((Y.getD p 0 : Nat) : Int)) := by
 rw [h.1.cell p]
 have : p < Y.length := by rw [h.2.1]; exact hp
 simp [askCells, List.getElem?_append_left, this]
theorem AskAt.no {w : World} {g p : Nat} {Y N : List Nat} (h : AskAt w g Y N) (hp : p < 24) : w.cell? ⟨g, 24 + p, none⟩ = some (.int .u64 ((N.getD p 0 : Nat) : Int)) := by
 rw [h.1.cell (24 + p)]
 have h1 : p < N.length := by rw [h.2.2]; exact hp
 have h2 : Y.length <= 24 + p := by rw [h.2.1]; omega
 have h3 : 24 + p - Y.length = p := by rw [h.2.1]; omega
 simp [askCells, List.getElem?_append_right, h2, h3, h1]
theorem AskAt.setYes {w : World} {g p x : Nat} {Y N : List Nat} (h : AskAt w g Y N) (hp : p < 24) : AskAt (w.setCell ⟨g, p, none⟩ (.int .u64 ((x : Nat) : Int))) g (Y.set p x) N := by
 obtain ⟨h1, h2, h3⟩ := h
 refine ⟨?_, by simp [h2], h3⟩
 have := h1.set_ p (.int .u64 ((x : Nat) : Int))
 have e : askCells (Y.set p x) N = (askCells Y N).setIfInBounds p (.int .u64 ((x : Nat) : Int)) := by
  unfold askCells
  rw [<- List.set_append_left _ _ (by rw [h2]; exact hp), List.map_set]
  simp
 rw [e]
 exact this
theorem AskAt.setNo {w : World} {g p x : Nat} {Y N : List Nat} (h : AskAt w g Y N) (hp : p < 24) : AskAt (w.setCell ⟨g, 24 + p, none⟩ (.int .u64 ((x : Nat) : Int))) g Y (N.set p x) := by
 obtain ⟨h1, h2, h3⟩ := h
 refine ⟨?_, h2, by simp [h3]⟩
 have := h1.set_ (24 + p) (.int .u64 ((x : Nat) : Int))
 have e : askCells Y (N.set p x) = (askCells Y N).setIfInBounds (24 + p) (.int .u64 ((x : Nat) : Int)) := by
  unfold askCells
  have e2 : (Y ++ N).set (24 + p) x = Y ++ N.set p x := by
   rw [List.set_append_right _ _ (by rw [h2]; omega), h2]
   congr 2
   omega
  rw [<- e2, List.map_set]
  simp
 rw [e]
 exact this
theorem AskAt.below {w w' : World} {g B : Nat} {Y N : List Nat} (h : AskAt w g Y N) (hb : Below B w w') (hg : g < B) : AskAt w' g Y N := ⟨h.1.below hb hg, h.2⟩
theorem AskAt.only {w w' : World} {g lo hi : Nat} {Y N : List Nat} (h : AskAt w g Y N) (ho : Only lo hi w w') (hg : g < lo \/ hi <= g) : AskAt w' g Y N := ⟨h.1.only ho hg, h.2⟩
set_option maxHeartbeats 1000000 in
theorem askAll_any (g p : Nat) (Y N : List Nat) (w : World) (h : AskAt w g Y N) (hp : p < 24) (hy : Y.getD p 0 < 18446744073709551616) (hn : N.getD p 0 < 18446744073709551616) :
 Calls Tryz.prog 173 #[.pointer (some ⟨g, 0, none⟩), .int .i64 p] w fun e w' => e = .returned (.int .u64 ((Y.getD p 0 ||| N.getD p 0 : Nat) : Int)) /\ Below w.heap.size w w' := by
 have c0 := h.yes hp
 have c1 := h.no hp
 obtain ⟨y, hye⟩ : ∃ y, y = Y.getD p 0 := ⟨_, rfl⟩
 obtain ⟨z, hze⟩ : ∃ z, z = N.getD p 0 := ⟨_, rfl⟩
 rw [<- hye] at c0 hy ⊢
 rw [<- hze] at c1 hn ⊢
 have ho : bits .or .u64 (y : Int) (z : Int) = ((y ||| z : Nat) : Int) := u64_or_nat y z hy hn
 clear h hye hze
 go_enter Tryz.func173, Tryz.ntmps173
 go_wp2_with (fail)
 go_big_region
 go_wp2_with (fail)
 go_ret
 exact ⟨rfl, (Below.refl _ _).drew⟩
def zeroA : List Nat := List.replicate 24 0
theorem askWords_nil (kd : Int) : askWords kd [] = zeroA := by unfold askWords askMask zeroA; rfl
theorem asksOf_snoc (rs : List LRule) (k : Nat) (h : k < rs.length) : asksOf (rs.take (k + 1)) = asksOf (rs.take k) ++ rs[k].2.map fun l => (rs[k].1.1, l) := by
 unfold asksOf
 rw [take_snoc rs k h, List.flatMap_append]
 simp
theorem AskAt.drewn {w : World} {g : Nat} {Y N : List Nat} (h : AskAt w g Y N) : AskAt w.drew g Y N := ⟨h.1, h.2⟩
theorem AskAt.new (w : World) : AskAt (w.alloc (Obj.cells (askCells zeroA zeroA) 156)) w.heap.size zeroA zeroA := ⟨Blk.new _ _ _, by simp [zeroA], by simp [zeroA]⟩
theorem Only.drewn {lo hi : Nat} {w w' : World} (h : Only lo hi w w') : Only lo hi w w'.drew := h.trans (Only.of_below (Below.refl _ _).drew)
theorem asksOf_mem {rs : List LRule} {k m : Nat} (hk : k < rs.length) (hm : m < rs[k].2.length) : (rs[k].1.1, rs[k].2[m]) ∈ asksOf rs :=
 List.mem_flatMap.2 ⟨rs[k], List.getElem_mem hk, List.mem_map.2 ⟨rs[k].2[m], List.getElem_mem hm, rfl⟩⟩
theorem asksOf_take_sub {rs : List LRule} {k m : Nat} (hk : k < rs.length) : ∀ x ∈ asksOf (rs.take k) ++ (rs[k].2.take m).map (fun l => (rs[k].1.1, l)), x ∈ asksOf rs := by
 intro x hx
 rcases List.mem_append.1 hx with h | h
 ·unfold asksOf at *
  obtain ⟨r, hr, h⟩ := List.mem_flatMap.1 h
  exact List.mem_flatMap.2 ⟨r, List.mem_of_mem_take hr, h⟩
 ·obtain ⟨l, hl, rfl⟩ := List.mem_map.1 h
  exact List.mem_flatMap.2 ⟨rs[k], List.getElem_mem hk, List.mem_map.2 ⟨l, List.mem_of_mem_take hl, rfl⟩⟩
set_option maxHeartbeats 4000000 in
set_option maxRecDepth 100000 in
theorem askingOf_any (v : Value) (rs : List LRule) (n : Nat) (w : World) (h : RdRules w w.heap.size v rs) (hn : n <= 24) (hf : ∀ x ∈ asksOf rs, AskFits n x) (hl : rs.length <= 1048576) (hb : ∀ r ∈ rs, r.2.length <= 1048576) :
 Calls Tryz.prog 163 #[v] w fun e w' => e = .returned (.agg (askCells (askWords 0 (asksOf rs)) (askWords 1 (asksOf rs)))) /\ Below w.heap.size w w' := by
 have H := Lib.hid h
 have HF := Lib.hid hf
 have HBL := Lib.hid hb
 obtain ⟨A, c, rfl, hcA, _⟩ := h
 clear hf hb
 go_enter Tryz.func163, Tryz.ntmps163
 go_upto_region 2 with fail
 obtain ⟨w0, hw0⟩ : ∃ w0, w0 = (w.alloc (Obj.cells (askCells zeroA zeroA) 156)).alloc (Obj.cells (askCells zeroA zeroA) 156) := ⟨_, rfl⟩
 obtain ⟨g, hg⟩ : ∃ g, g = w.heap.size + 1 := ⟨_, rfl⟩
 have T0 : AskAt w0 g zeroA zeroA := by rw [hw0, hg]; have := AskAt.new (w.alloc (Obj.cells (askCells zeroA zeroA) 156)); simpa using this
 have R0 : AskAt w0 w.heap.size zeroA zeroA := by rw [hw0]; exact (AskAt.new w).below (below1 _ _) (by simp)
 have B0 : Below w.heap.size w w0 := by rw [hw0]; exact bthen (below1 _ _) (below1 _ _)
 rw [show ((w.alloc (Obj.cells #[Value.int IntKind.u64 0, Value.int IntKind.u64 0, Value.int IntKind.u64 0, Value.int IntKind.u64 0, Value.int IntKind.u64 0, Value.int IntKind.u64 0, Value.int IntKind.u64 0, Value.int IntKind.u64 0, Value.int IntKind.u64 0, Value.int IntKind.u64 0, Value.int IntKind.u64 0, Value.int IntKind.u64 0, Value.int IntKind.u64 0, Value.int IntKind.u64 0, Value.int IntKind.u64 0, Value.int IntKind.u64 0, Value.int IntKind.u64 0, Value.int IntKind.u64 0, Value.int IntKind.u64 0, Value.int IntKind.u64 0, Value.int IntKind.u64 0, Value.int IntKind.u64 0, Value.int IntKind.u64 0, Value.int IntKind.u64 0, Value.int IntKind.u64 0, Value.int IntKind.u64 0, Value.int IntKind.u64 0, Value.int IntKind.u64 0, Value.int IntKind.u64 0, Value.int IntKind.u64 0, Value.int IntKind.u64 0, Value.int IntKind.u64 0, Value.int IntKind.u64 0, Value.int IntKind.u64 0, Value.int IntKind.u64 0, Value.int IntKind.u64 0, Value.int IntKind.u64 0, Value.int IntKind.u64 0, Value.int IntKind.u64 0, Value.int IntKind.u64 0, Value.int IntKind.u64 0, Value.int IntKind.u64 0, Value.int IntKind.u64 0, Value.int IntKind.u64 0, Value.int IntKind.u64 0, Value.int IntKind.u64 0, Value.int IntKind.u64 0, Value.int IntKind.u64 0] 156)).alloc (Obj.cells #[Value.int IntKind.u64 0, Value.int IntKind.u64 0, Value.int IntKind.u64 0, Value.int IntKind.u64 0, Value.int IntKind.u64 0, Value.int IntKind.u64 0, Value.int IntKind.u64 0, Value.int IntKind.u64 0, Value.int IntKind.u64 0, Value.int IntKind.u64 0, Value.int IntKind.u64 0, Value.int IntKind.u64 0, Value.int IntKind.u64 0, Value.int IntKind.u64 0, Value.int IntKind.u64 0, Value.int IntKind.u64 0, Value.int IntKind.u64 0, Value.int IntKind.u64 0, Value.int IntKind.u64 0, Value.int IntKind.u64 0, Value.int IntKind.u64 0, Value.int IntKind.u64 0, Value.int IntKind.u64 0, Value.int IntKind.u64 0, Value.int IntKind.u64 0, Value.int IntKind.u64 0, Value.int IntKind.u64 0, Value.int IntKind.u64 0, Value.int IntKind.u64 0, Value.int IntKind.u64 0, Value.int IntKind.u64 0, Value.int IntKind.u64 0, Value.int IntKind.u64 0, Value.int IntKind.u64 0, Value.int IntKind.u64 0, Value.int IntKind.u64 0, Value.int IntKind.u64 0, Value.int IntKind.u64 0, Value.int IntKind.u64 0, Value.int IntKind.u64 0, Value.int IntKind.u64 0, Value.int IntKind.u64 0, Value.int IntKind.u64 0, Value.int IntKind.u64 0, Value.int IntKind.u64 0, Value.int IntKind.u64 0, Value.int IntKind.u64 0, Value.int IntKind.u64 0] 156)) = w0 from by rw [hw0]; rfl, show w.heap.size + 1 = g from hg.symm]
 have hgs : g < w0.heap.size := T0.1.lt
 have hgw : w.heap.size <= g := by omega
 have HT0 := Lib.hid T0
 have HR0 := Lib.hid R0
 have HGE := Lib.hid hg
 clear hw0 T0 R0 hg
 go_wp2_with fail
 go_loopw [10] (fun i wr => ∃ (k : Nat), k <= rs.length /\ i = .int .i64 k /\ AskAt wr g (askWords 0 (asksOf (rs.take k))) (askWords 1 (asksOf (rs.take k))) /\ Only g (g + 1) w0 wr) (fun i _ => rs.length - (intOf i).toNat)
 case atStart => exact ⟨0, Nat.zero_le _, rfl, by simpa [asksOf, askWords_nil] using HT0.out, Only.refl _ _ _⟩
 case round =>
  obtain ⟨k, hk, rfl, hat, hon⟩ := hrel
  have BW : Below w.heap.size w wr := Only.then_ B0 hon hgw
  have HON := Lib.hid hon
  have hsz0 := hon.size
  by_cases hlt : k < rs.length
  ·obtain ⟨b, o, u0, u1, u2, rfl, hbB, k0, k1, k2, rfl, q1, q2⟩ := (H.out.below BW (Nat.le_refl _)).get hlt
   have hwr : w.heap.size <= wr.heap.size := BW.size
   have Q2 := Lib.hid q2
   obtain ⟨A3, c3, rfl, _⟩ := q1
   obtain ⟨A4, c4, rfl, _⟩ := q2
   have hbl := HBL.out _ (List.getElem_mem hlt)
   clear hon
   go_upto_region 5 with fail
   obtain ⟨wv, hwv⟩ : ∃ wv, wv = wr.alloc (Obj.cells #[Value.int .i64 rs[k].1.1, Value.slice A3 rs[k].1.2.length c3, Value.slice A4 rs[k].2.length c4] 138) := ⟨_, rfl⟩
   have bv : Below wr.heap.size wr wv := by rw [hwv]; exact below1 _ _
   have X : Blk wv wr.heap.size 138 #[.int .i64 rs[k].1.1, .slice A3 rs[k].1.2.length c3, .slice A4 rs[k].2.length c4] := by rw [hwv]; exact Blk.new _ _ _
   rw [<- hwv]
   have hvl := X.lt
   clear hwv k0 k1 k2
   have x2 : wv.cell? ⟨wr.heap.size, 2, none⟩ = some (.slice A4 rs[k].2.length c4) := X.cell 2
   have hgr : g + 1 <= wr.heap.size := hat.1.lt
   have HATV := Lib.hid (hat.below bv hat.1.lt)
   have HX := Lib.hid X
   have HBV := Lib.hid bv
   clear hat X bv
   go_wp2_with fail
   clear x2
   obtain ⟨wo, rfl⟩ : ∃ wo, wo = wr := ⟨_, rfl⟩
   go_loopw [17] (fun i wr => ∃ m : Nat, m <= rs[k].2.length /\ i = .int .i64 m /\ AskAt wr g (askWords 0 (asksOf (rs.take k) ++ (rs[k].2.take m).map fun l => (rs[k].1.1, l))) (askWords 1 (asksOf (rs.take k) ++ (rs[k].2.take m).map fun l => (rs[k].1.1, l))) /\ Only g (g + 1) wv wr) (fun i _ => rs[k].2.length - (intOf i).toNat)
   case atStart => exact ⟨0, Nat.zero_le _, rfl, by simpa using HATV.out, Only.refl _ _ _⟩
   case round =>
    obtain ⟨m, hm, rfl, hax, honx⟩ := hrel
    have hsx := honx.size
    by_cases hltm : m < rs[k].2.length
    ·obtain ⟨b5, o5, y0, y1, y2, rfl, hb5, l0, l1, l2, rfl, rfl, q5⟩ := (Q2.out.below ((HBV.out.mono hwr).trans (honx.below hgw (by omega))) (Nat.le_refl _)).get hltm
     obtain ⟨A5, c5, rfl, _⟩ := q5
     have HFX := Lib.hid (HF.out _ (asksOf_mem hlt hltm))
     obtain ⟨ps, hps⟩ : ∃ ps, ps = asksOf (rs.take k) ++ (rs[k].2.take m).map fun l => (rs[k].1.1, l) := ⟨_, rfl⟩
     have HSUB := Lib.hid (show ∀ x ∈ ps, AskFits n x from by rw [hps]; exact fun x hx => HF.out x (asksOf_take_sub hlt x hx))
     have HPS := Lib.hid (show asksOf (rs.take k) ++ (rs[k].2.take (m + 1)).map (fun l => (rs[k].1.1, l)) = ps ++ [(rs[k].1.1, rs[k].2[m])] from by
      rw [take_snoc _ _ hltm, List.map_append, <- List.append_assoc, <- hps]; rfl)
     rw [<- hps] at hax
     obtain ⟨p, hpe⟩ : ∃ p : Nat, rs[k].1.1 = (p : Int) := ⟨rs[k].1.1.toNat, by have := HFX.out.1; omega⟩
     have hp24 : p < 24 := by have := HFX.out.1; omega
     have Xx := HX.out.only honx (.inr hgr)
     have x0 : wr.cell? ⟨wo.heap.size, 0, none⟩ = some (.int .i64 p) := by rw [<- hpe]; exact Xx.cell 0
     clear hps Xx
     go_upto_region 8 with fail
     obtain ⟨wl, hwl⟩ : ∃ wl, wl = wr.alloc (Obj.cells #[Value.int .i64 rs[k].2[m].1, Value.int .i64 rs[k].2[m].2.1, Value.slice A5 rs[k].2[m].2.2.length c5] 191) := ⟨_, rfl⟩
     have bl : Below wr.heap.size wr wl := by rw [hwl]; exact below1 _ _
     have Y : Blk wl wr.heap.size 191 #[.int .i64 rs[k].2[m].1, .int .i64 rs[k].2[m].2.1, .slice A5 rs[k].2[m].2.2.length c5] := by rw [hwl]; exact Blk.new _ _ _
     rw [<- hwl]
     clear hwl l0 l1 l2
     have e0 : wl.cell? ⟨wr.heap.size, 0, none⟩ = some (.int .i64 rs[k].2[m].1) := Y.cell 0
     have z0 : wl.drew.cell? ⟨wo.heap.size, 0, none⟩ = some (.int .i64 p) := (bl.cell (World.block_lt_of_cell? _ _ x0)).trans x0
     have HAL := Lib.hid (hax.below bl hax.1.lt)
     have HOL := Lib.hid (honx.trans (Only.of_below bl))
     have hpi : (p : Int) < 24 := by omega
     clear x0 hax honx
     by_cases hk0 : rs[k].2[m].1 = 0
     ·obtain ⟨hx1, hx2⟩ : 0 <= rs[k].2[m].2.1 /\ rs[k].2[m].2.1 < n := HFX.out.2 (.inl hk0)
      obtain ⟨q, hqe⟩ : ∃ q : Nat, rs[k].2[m].2.1 = (q : Int) := ⟨rs[k].2[m].2.1.toNat, by omega⟩
      have hq24 : q < 24 := by omega
      clear hx1 hx2
      have z1 : wl.drew.cell? ⟨wr.heap.size, 1, none⟩ = some (.int .i64 q) := by rw [<- hqe]; exact Y.cell 1
      obtain ⟨y, hye⟩ : ∃ y, y = (askWords 0 ps).getD p 0 := ⟨_, rfl⟩
      have hy : y < 18446744073709551616 := by rw [hye, askWords_at hp24]; have := askMask_lt (i := p) hn (.inl rfl) HSUB.out; omega
      have z2 : wl.drew.cell? ⟨g, p, none⟩ = some (.int .u64 ((y : Nat) : Int)) := by rw [hye]; exact HAL.out.yes hp24
      have z3 : wl.drew.frozen? ⟨g, p, none⟩ = false := HAL.out.1.frozen p
      obtain ⟨mm, hmm⟩ : ∃ mm, mm = 2 ^ q := ⟨_, rfl⟩
      have hml : mm < 18446744073709551616 := by rw [hmm]; exact Nat.lt_of_lt_of_le (Nat.pow_lt_pow_right (by decide) hq24) (by decide)
      have hwr2 : IntKind.u64.wrap (2 ^ q) = (mm : Int) := by
       have e : ((2 : Int) ^ q) = ((mm : Nat) : Int) := by rw [hmm]; simp
       rw [e]
       unfold IntKind.wrap
       simp [IntKind.bits, IntKind.signed] <;> omega
      have hor : bits .or .u64 (y : Int) (mm : Int) = ((y ||| mm : Nat) : Int) := u64_or_nat y mm hy hml
      have HN := Lib.hid (show AskAt (wl.setCell ⟨g, p, none⟩ (.int .u64 ((y ||| mm : Nat) : Int))).drew g (askWords 0 (ps ++ [(rs[k].1.1, rs[k].2[m])])) (askWords 1 (ps ++ [(rs[k].1.1, rs[k].2[m])])) from by
       rw [askWords_yes (x := (rs[k].1.1, rs[k].2[m])) hk0 hpe, askWords_no (x := (rs[k].1.1, rs[k].2[m])) (by show rs[k].2[m].1 ≠ 1; omega), hye, askWords_at hp24, hmm]
       show AskAt _ g ((askWords 0 ps).set p (askMask 0 ps p ||| 2 ^ rs[k].2[m].2.1.toNat)) _
       rw [hqe]
       exact (HAL.out.setYes hp24).drewn)
      have hb0 : (rs[k].2[m].1 == 0) = true := by simp [hk0]
      clear hye hmm hk0 hqe hpe Y
      go_upto_region 10 with fail
      go_region_law (fail)
      all_goals
       go_wp2_with fail
       go_roundw
       case rel => exact ⟨m + 1, by omega, by go_num, by rw [HPS.out]; exact HN.out, (HOL.out.setCell ⟨Nat.le_refl g, Nat.lt_succ_self g⟩ _).drewn⟩
       case measure => simp [intOf]; omega
     ·have hb0 : (rs[k].2[m].1 == 0) = false := by simp [hk0]
      by_cases hk1 : rs[k].2[m].1 = 1
      ·obtain ⟨hx1, hx2⟩ : 0 <= rs[k].2[m].2.1 /\ rs[k].2[m].2.1 < n := HFX.out.2 (.inr hk1)
       obtain ⟨q, hqe⟩ : ∃ q : Nat, rs[k].2[m].2.1 = (q : Int) := ⟨rs[k].2[m].2.1.toNat, by omega⟩
       have hq24 : q < 24 := by omega
       clear hx1 hx2
       have z1 : wl.drew.cell? ⟨wr.heap.size, 1, none⟩ = some (.int .i64 q) := by rw [<- hqe]; exact Y.cell 1
       obtain ⟨y, hye⟩ : ∃ y, y = (askWords 1 ps).getD p 0 := ⟨_, rfl⟩
       have hy : y < 18446744073709551616 := by rw [hye, askWords_at hp24]; have := askMask_lt (i := p) hn (.inr rfl) HSUB.out; omega
       have z2 : wl.drew.cell? ⟨g, 24 + p, none⟩ = some (.int .u64 ((y : Nat) : Int)) := by rw [hye]; exact HAL.out.no hp24
       have z3 : wl.drew.frozen? ⟨g, 24 + p, none⟩ = false := HAL.out.1.frozen (24 + p)
       obtain ⟨mm, hmm⟩ : ∃ mm, mm = 2 ^ q := ⟨_, rfl⟩
       have hml : mm < 18446744073709551616 := by rw [hmm]; exact Nat.lt_of_lt_of_le (Nat.pow_lt_pow_right (by decide) hq24) (by decide)
       have hwr2 : IntKind.u64.wrap (2 ^ q) = (mm : Int) := by
        have e : ((2 : Int) ^ q) = ((mm : Nat) : Int) := by rw [hmm]; simp
        rw [e]
        unfold IntKind.wrap
        simp [IntKind.bits, IntKind.signed] <;> omega
       have hor : bits .or .u64 (y : Int) (mm : Int) = ((y ||| mm : Nat) : Int) := u64_or_nat y mm hy hml
       have HN := Lib.hid (show AskAt (wl.setCell ⟨g, 24 + p, none⟩ (.int .u64 ((y ||| mm : Nat) : Int))).drew g (askWords 0 (ps ++ [(rs[k].1.1, rs[k].2[m])])) (askWords 1 (ps ++ [(rs[k].1.1, rs[k].2[m])])) from by
        rw [askWords_no (x := (rs[k].1.1, rs[k].2[m])) (show rs[k].2[m].1 ≠ 0 from hk0), askWords_yes (kd := 1) (x := (rs[k].1.1, rs[k].2[m])) hk1 hpe, hye, askWords_at hp24, hmm]
        show AskAt _ g _ ((askWords 1 ps).set p (askMask 1 ps p ||| 2 ^ rs[k].2[m].2.1.toNat))
        rw [hqe]
        exact (HAL.out.setNo hp24).drewn)
       have hb1 : (rs[k].2[m].1 == 1) = true := by simp [hk1]
       clear hye hmm hk0 hk1 hqe hpe Y
       go_upto_region 12 with fail
       go_region_law (fail)
       all_goals
        go_wp2_with fail
        go_roundw
        case rel => exact ⟨m + 1, by omega, by go_num, by rw [HPS.out]; exact HN.out, (HOL.out.setCell ⟨Nat.le_refl g, Nat.lt_succ_self g⟩ _).drewn⟩
        case measure => simp [intOf]; omega
      ·have hb1 : (rs[k].2[m].1 == 1) = false := by simp [hk1]
       have HN := Lib.hid (show AskAt wl g (askWords 0 (ps ++ [(rs[k].1.1, rs[k].2[m])])) (askWords 1 (ps ++ [(rs[k].1.1, rs[k].2[m])])) from by
        rw [askWords_no (x := (rs[k].1.1, rs[k].2[m])) (show rs[k].2[m].1 ≠ 0 from hk0), askWords_no (x := (rs[k].1.1, rs[k].2[m])) (show rs[k].2[m].1 ≠ 1 from hk1)]
        exact HAL.out)
       clear hk0 hk1 hpe Y
       go_wp2_with fail
       go_roundw
       case rel => exact ⟨m + 1, by omega, by go_num, by rw [HPS.out]; exact HN.out, HOL.out⟩
       case measure => simp [intOf]; omega
    ·have HE := Lib.hid (show AskAt wr g (askWords 0 (asksOf (rs.take (k + 1)))) (askWords 1 (asksOf (rs.take (k + 1)))) from by
      rw [show m = rs[k].2.length by omega, List.take_length] at hax
      rw [asksOf_snoc rs k hlt]
      exact hax)
     have HO2 := Lib.hid (HON.out.trans ((Only.of_below HBV.out).trans honx))
     clear hax honx
     go_wp2_with fail
     go_roundw
     case rel => exact ⟨k + 1, by omega, by go_num, HE.out, HO2.out⟩
     case measure => simp [intOf]; omega
  ·obtain rfl : k = rs.length := by omega
   rw [List.take_length] at hat
   obtain ⟨cs, hcs⟩ : ∃ cs, cs = askCells (askWords 0 (asksOf rs)) (askWords 1 (asksOf rs)) := ⟨_, rfl⟩
   have G := hat.1
   rw [<- hcs] at G
   have RR := HR0.out.only hon (.inl (by have := HGE.out; omega))
   have hcz : cs.size = 48 := by rw [hcs]; simp [askCells, askWords_len]
   have HONE := Lib.hid (show cs.all (·.oneCell') = true from by
    rw [hcs]
    unfold askCells
    rw [List.all_toArray, List.all_map, List.all_eq_true]
    intro x _
    rfl)
   have hsi : (Tryz.prog.info? 156).map (·.size) = some cs.size := by rw [hcz]; kernel_rfl
   have HOLD := Lib.hid (show (askCells zeroA zeroA).size = cs.size by rw [hcz]; rfl)
   have HBE := Lib.hid BW
   have HSI := Lib.hid hsi
   have HBK := Lib.hid G
   have HRR := Lib.hid RR.1
   have HCS := Lib.hid hcs
   clear hat hon hcs hcz hsi G RR
   go_wp2_with (first
    | (refine wpList_load_row rfl 156 _ rfl g rfl 156 cs (0, 0) _ HBK.out Tryz.underlying156 rfl HSI.out ?_)
    | (refine wpList_store_row rfl 156 _ _ rfl w.heap.size cs rfl rfl 156 (askCells zeroA zeroA) HRR.out HSI.out HOLD.out HONE.out ?_))
   refine bodyPost_ret_by (v := .agg cs) (results_cell_row Tryz.results163 _ _ w.heap.size _ cs (0, 0) _ rfl (setRow_heap _ _ _ cs _ _ HRR.out) Tryz.underlying156 rfl HSI.out) rfl ?_
   exact ⟨by rw [HCS.out], below_setRow HBE.out (Nat.le_refl _) _⟩
open Go.RowKit
theorem endR_le (k : Int) (r : LRule) : k <= endR k r /\ endR k r <= k + 2 * (szR r : Int) := by
 unfold endR endL szR
 omega
theorem totR_take_le (rs : List LRule) (j : Nat) : totR (rs.take j) <= totR rs := by
 have := congrArg (fun l => (l.map szR).sum) (List.take_append_drop j rs)
 simp only [List.map_append, List.sum_append] at this
 unfold totR
 omega
set_option maxHeartbeats 1000000 in
set_option maxRecDepth 100000 in
theorem wmarkRuleS_le (v : Value) (rs : List LRule) (k : Int) (lo hi : Nat) (w : World) (h : WrRules w lo hi v rs) (hk0 : 0 <= k) (hk : k <= 2097152) (hn : rs.length <= 1048576) (ht : totR rs <= 1048576) :
 Calls Tryz.prog 65 #[v, .int .i64 k] w fun e w' => ∃ z : Int, e = .returned (.int .i64 z) /\ (k <= z /\ z <= k + (rs.length : Int) + 2 * (totR rs : Int)) /\ Marked lo hi w w' := by
 have H := Lib.hid h
 obtain ⟨A, c, rfl, _⟩ := h
 go_enter Tryz.func65, Tryz.ntmps65
 go_wp2_with (fail)
 go_loopw [1, 5] (fun m i wr => ∃ (j : Nat) (q : Int), j <= rs.length /\ i = .int .i64 j /\ m = .int .i64 q /\ (k <= q /\ q <= k + (j : Int) + 2 * (totR (rs.take j) : Int)) /\ Marked lo hi w wr) (fun _ i _ => rs.length - (intOf i).toNat)
 case atStart => exact ⟨0, k, Nat.zero_le _, rfl, rfl, by simp [totR], Marked.refl _ _ _⟩
 case round =>
  obtain ⟨j, q, hj, rfl, rfl, ⟨hq, hq2⟩, hm⟩ := hrel
  by_cases hlt : j < rs.length
  ·obtain ⟨A', c', e, _, hx⟩ := H.out.marked hm
   injection e with e1 _ e3
   subst e1
   subst e3
   obtain ⟨b, o, rfl, h1, h2, hx⟩ := hx (by omega)
   obtain ⟨⟨f0, f1⟩, u0, u1, u2, c0, c1, c2, ⟨x, rfl⟩, hI, hL⟩ := hx j hlt
   have m0 := Marked.store (p := ⟨b, o + j * 3, none⟩) ⟨h1, h2⟩ c0 q
   have hI2 := hI.marked m0
   have hL2 := hL.marked m0
   obtain ⟨A3, n3, rfl, _⟩ := hI
   obtain ⟨A4, n4, rfl, _⟩ := hL
   have d1 := m0.slice c1
   have htk := totR_take rs j hlt
   have hle := totR_take_le rs (j + 1)
   have hsz : rs[j].1.2.length + (rs[j].2.length + totL rs[j].2) = szR rs[j] := rfl
   have hq0 : 0 <= q := by omega
   have hq1 : q <= 8388608 := by omega
   have HI := Lib.hid hI2
   have HL := Lib.hid hL2
   have HM := Lib.hid (hm.trans m0)
   have HE := endR_le (q + 1) rs[j]
   clear hx hI2 hL2
   go_wp2_with (fail)
   refine (wmarkIntS_any _ _ (q + 1) lo hi _ HI.out (by omega) (by omega)).mono ?_
   rintro e w3 ⟨rfl, hm3⟩
   have d2 := (m0.trans hm3).slice c2
   have HM3 := Lib.hid (HM.out.trans hm3)
   have HL3 := Lib.hid (HL.out.marked hm3)
   clear m0 hm3 c0 c1 c2 d1
   go_wp2_with (fail)
   refine (wmarkLitS_any _ rs[j].2 _ lo hi _ HL3.out (by omega) (by omega) (by omega) (by omega)).mono ?_
   rintro e w4 ⟨rfl, hm4⟩
   have HM4 := Lib.hid (HM3.out.trans hm4)
   have HQ := Lib.hid (show k <= endL (q + 1 + (rs[j].1.2.length : Int)) rs[j].2 /\ endL (q + 1 + (rs[j].1.2.length : Int)) rs[j].2 <= k + ((j + 1 : Nat) : Int) + 2 * (totR (rs.take (j + 1)) : Int) by
    unfold endR at HE
    rw [htk]
    omega)
   clear HE htk
   go_wp2_with (fail)
   go_roundw
   case rel => exact ⟨j + 1, _, by omega, by go_num, rfl, HQ.out, HM4.out⟩
   case measure => simp [intOf]; omega
  ·have HK := Lib.hid (show k <= q /\ q <= k + (rs.length : Int) + 2 * (totR rs : Int) by
    have := totR_take_le rs j
    omega)
   clear hq hq2
   go_wp2_with (fail)
   go_ret
   exact ⟨_, rfl, HK.out, hm⟩
set_option maxHeartbeats 400000 in
theorem wmarkProgram_le (a b : Value) (p : LProg) (k : Int) (lo hi : Nat) (w : World) (h : WrInts w lo hi a p.1.length) (h2 : WrRules w lo hi b p.2) (hk0 : 0 <= k) (hk : k <= 1048576) (hs : szP p <= 1048576) :
 Calls Tryz.prog 20 #[.agg #[a, b], .int .i64 k] w fun e w' => ∃ z : Int, e = .returned (.int .i64 z) /\ (k <= z /\ z <= k + 2 * (szP p : Int)) /\ Marked lo hi w w' := by
 have H := Lib.hid h
 have H2 := Lib.hid h2
 have HSZ := Lib.hid (show szP p = p.1.length + (p.2.length + totR p.2) from rfl)
 unfold szP at hs
 obtain ⟨A, c, rfl, _⟩ := h
 obtain ⟨A2, c2, rfl, _⟩ := h2
 go_enter Tryz.func20, Tryz.ntmps20
 go_wp2_with (fail)
 obtain ⟨w1, hw1⟩ : ∃ w1, w1 = w.alloc (Obj.cells #[Value.slice A p.1.length c, Value.slice A2 p.2.length c2] 34) := ⟨_, rfl⟩
 have M1 : Marked lo hi w w1 := by rw [hw1]; exact Marked.of_below (below1 _ _)
 have x1 : Blk w1 w.heap.size 34 #[.slice A p.1.length c, .slice A2 p.2.length c2] := by rw [hw1]; exact Blk.new _ _ _
 rw [<- hw1]
 clear hw1
 refine (wmarkIntS_any _ _ k lo hi _ (H.out.marked M1) hk0 (by omega)).mono ?_
 rintro e w2 ⟨rfl, hm2⟩
 have y2 : w2.cell? ⟨w.heap.size, 1, none⟩ = some (.slice A2 p.2.length c2) := hm2.slice (x1.cell 1)
 have M2 := M1.trans hm2
 go_wp2_with (fail)
 refine (wmarkRuleS_le _ p.2 _ lo hi _ (H2.out.marked M2) (by omega) (by omega) (by omega) (by omega)).mono ?_
 rintro e w3 ⟨z, rfl, hz, hm3⟩
 have M3 := M2.trans hm3
 have HZ := Lib.hid (show k <= z /\ z <= k + 2 * (szP p : Int) by rw [HSZ.out]; omega)
 clear hz
 go_wp2_with (fail)
 go_ret
 exact ⟨_, rfl, HZ.out, M3⟩
open Go.RowKit
theorem ruleLens_in {r : LRule} (h : ruleFitsIn r) : ruleLens r := by
 obtain ⟨h1, h2, h3⟩ := h
 unfold maxLen at *
 exact ⟨by omega, by omega, fun k hk => by have := h3 k hk; omega⟩
theorem progLens_in {p : LProg} (h : p.1.length <= maxLen /\ p.2.length <= maxLen /\ ∀ k (h : k < p.2.length), ruleFitsIn p.2[k]) : progLens p := by
 obtain ⟨h1, h2, h3⟩ := h
 refine ⟨?_, ?_, fun k hk => ruleLens_in (h3 k hk)⟩ <;> (unfold maxLen at *; omega)
end Go.Proofs.YtmnolnmpglanfaaGreatDoor
