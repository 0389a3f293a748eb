/-
  Texts that the claim's last one imports, laid together: part 14 of 15. No condition of its own.
-/
import Derived.Test.YtmnolnmpglanfaaGreatDoorMMb1
import Derived.Test.YtmnolnmpglanfaaGreatDoorMMb2
import Derived.Test.YtmnolnmpglanfaaGreatDoorMMb3
import Derived.Test.YtmnolnmpglanfaaGreatDoorMMb6
import Derived.Test.YtmnolnmpglanfaaGreatDoorMMb8
import Derived.Test.YtmnolnmpglanfaaGreatDoorMMb9
import Derived.Test.YtmnolnmpglanfaaGreatDoorMMb10
import Derived.Test.YtmnolnmpglanfaaGreatDoorMMb11
import Derived.Test.YtmnolnmpglanfaaGreatDoorMMb12
import Derived.Test.YtmnolnmpglanfaaGreatDoorMMb13
namespace Go.Proofs.YtmnolnmpglanfaaGreatDoor
open Go.RowKit
def measE (g : Nat) (w : World) : Nat := match w.cell? ⟨g, 1, none⟩ with
 | some (.slice _ n _) => 2000 - n
 | _ => 0
theorem GrAt.meas {w : World} {g o e : Nat} {X : List FV} {E : List Nat} {R : Nat -> Value} (h : GrAt w g X E o e R) : measE g w = 2000 - E.length := by
 obtain ⟨A, c, hv⟩ := h.raw.formE
 unfold measE
 rw [h.raw.cellEnds, hv]
theorem GrAt.lastEnd {w : World} {g o e m : Nat} {X : List FV} {E : List Nat} {R : Nat -> Value} (h : GrAt w g X E o e R) (hm : E.length = m + 1) (hl : E.getLastD 0 = e) : ∃ b c, R 1 = .slice (some ⟨b, 0, none⟩) (m + 1) c /\ w.cell? ⟨b, m, none⟩ = some (.int .i64 (e : Int)) /\ m + 1 <= c := by
 have hcells := @World.ownsRow.cells w (g + 1) 3 1 _ E.length (E.map inN) h.raw.ends
 rcases h.raw.ends.2 with ⟨e1, e0⟩ | ⟨b, cap, cur, e1, hb, hg, hc, _⟩
 ·omega
 ·refine ⟨b, cap, by rw [e1, hm], ?_, by omega⟩
  have hget : (E.map inN)[m]? = some (.int .i64 (e : Int)) := by
   rw [List.getElem?_map]
   have : E[m]? = some e := by
    rw [<- hl, List.getLastD_eq_getLast?, List.getLast?_eq_getElem?, hm]
    simp [show m < E.length by omega]
   rw [this]
   rfl
  have := hcells (g := b) (by rw [e1]; rfl) m _ hget
  rw [Go.WideShapes.add_plain, Nat.zero_add] at this
  exact this
theorem SolOk.new {w w' : World} {g : Nat} {XL : List FV} {E : List Nat} {XP : Nat -> List FV} {O La : Nat -> Nat} {T : List Nat} {R : Nat -> Value} {v : Value} {S : List (List Int)} (h : GrRaw w g XL E XP O La T R) (hr : OwnW w' w.heap.size w'.heap.size v S) : SolOk w' g R v S := by
 refine ⟨hr.rd, fun _ b hb => ?_⟩
 have h1 := hr.1.lt b hb
 have h2 := h.lt
 exact ⟨by omega, fun ⟨r, hr, e⟩ => by have := h.rowLt hr e; omega⟩
set_option maxHeartbeats 8000000 in
set_option maxRecDepth 100000 in
theorem growOn_any (g : Nat) (ar : List Int) (har : arityOk ar = true) (rs : List LRule) (hfit : ∀ r ∈ rs, ruleFits ar r = true) (hsz : totR rs <= 1048576) (hrl : rs.length <= 1048576) (X0 : List FV) (E0 : List Nat) (o0 e0 : Nat) (R0 : Nat -> Value) (v2 : Value) (w : World)
 (h : GrAt w g X0 E0 o0 e0 R0) (hX : FitL ar (factsX X0)) (hr : RdRules w g v2 rs) (hl : E0.getLastD 0 = e0) (hne : E0 ≠ []) (hu : E0.Pairwise (· < ·)) (hub : ∀ x ∈ E0, x <= e0) (hh : ∀ f, f ∈ headsAll rs ((factsX X0).take e0) -> f ∈ factsX X0) :
 Calls Tryz.prog 204 #[.pointer (some ⟨g, 0, none⟩), v2] w fun e' w' =>
  e' = .returned (.tuple #[]) /\ ∃ X E o R m, GrAt w' g X E o X.length R /\ KeepR g w R0 w' R /\ GrewOn ar rs (factsX X0) E0 (factsX X) E m := by
 have H0 := Lib.hid h
 have HX := Lib.hid hX
 have HR := Lib.hid hr
 have HAR := Lib.hid har
 have HFIT := Lib.hid hfit
 have HNE := Lib.hid hne
 have HI := Lib.hid (OnInv.start hX hl (by rw [factsX_len]; exact h.eL) hh hu hub)
 have hgl := h.lt
 obtain ⟨A, c, rfl, hc, _⟩ := hr
 clear h hX har hfit hl hne hu hub hh
 go_enter Tryz.func204, Tryz.ntmps204
 go_wp2_with fail
 go_loopw [] (fun wr => ∃ (X : List FV) (E : List Nat) (o e : Nat) (R : Nat -> Value) (j : Nat), GrAt wr g X E o e R /\ KeepR g w R0 wr R /\ OnInv ar rs (factsX X0) E0 (factsX X) E e j) (fun wr => measE g wr)
 case atStart => exact ⟨X0, E0, o0, e0, R0, 0, H0.out, KeepR.refl _ _ _, HI.out⟩
 case round =>
  obtain ⟨X, E, o, e, R, j, hat, hkp, hinv⟩ := hrel
  have HAT := Lib.hid hat
  have HKP := Lib.hid hkp
  have HINV := Lib.hid hinv
  have hglr := hat.lt
  have hXle : X.length <= 1536 := hat.few HAR.out hinv.fit
  have hEle : E.length <= 1537 := by
   have h1 := ends_few hinv.up hinv.ub
   have h2 := hinv.le
   rw [factsX_len] at h2
   omega
  have hEpos : 0 < E.length := by
   obtain ⟨M, e1, _⟩ := hinv.ends
   have := List.length_pos_iff.2 HNE.out
   rw [e1, List.length_append]
   omega
  obtain ⟨m, hm⟩ : ∃ m, E.length = m + 1 := ⟨E.length - 1, by omega⟩
  obtain ⟨A0, c0, hv0⟩ := hat.raw.formL
  obtain ⟨b1, c1, hv1, hce, hc1⟩ := hat.lastEnd hm hinv.last
  have q0 : wr.cell? ⟨g, 0, none⟩ = some (.slice A0 X.length c0) := by rw [<- hv0]; exact hat.raw.cellList
  have q1 : wr.cell? ⟨g, 1, none⟩ = some (.slice (some ⟨b1, 0, none⟩) (m + 1) c1) := by rw [<- hv1]; exact hat.raw.cellEnds
  have d0 : wr.drew.cell? ⟨g, 0, none⟩ = some (.slice A0 X.length c0) := q0
  have d1 : wr.drew.cell? ⟨g, 1, none⟩ = some (.slice (some ⟨b1, 0, none⟩) (m + 1) c1) := q1
  have d2 : wr.drew.cell? ⟨b1, m, none⟩ = some (.int .i64 (e : Int)) := hce
  have HMM := Lib.hid hm
  have hm5 : m <= 1536 := by omega
  have hm6 : (m : Int) <= 1536 := by omega
  have hm7 : (m : Int) < (m : Int) + 1 := by omega
  clear hat hkp hinv hv0 hv1 hm
  by_cases hlt : e < X.length
  ·have hdl : decide (e < X.length) = true := decide_eq_true hlt
   go_upto_region 0 with fail
   go_big_region
   obtain ⟨wo, rfl⟩ : ∃ wo, wo = wr := ⟨_, rfl⟩
   have CE := Lib.hid (endRound_any g X E o e R wo.drew HAT.out.drew (by omega) (by omega))
   have HAL := Lib.hid (show ∀ k (hk : k < rs.length), ((0 <= rs[k].1.1 /\ rs[k].1.1 < 24) /\ rs[k].1.2.all termOk = true /\ rs[k].1.2.length <= 2 /\ rs[k].2.length <= 4 /\ ∀ l ∈ rs[k].2, 0 <= l.2.1 /\ l.2.1 < 24) /\ SafeB rs[k].2 /\ totL rs[k].2 <= 1048576 from fun k hk => by
    have h1 := HFIT.out _ (List.getElem_mem hk)
    have h2 := sz_le_totR rs k hk
    unfold szR at h2
    exact ⟨rule_parts HAR.out h1, SafeB.of (fits_body h1), by omega⟩)
   clear q0 q1 d0 d1 d2
   go_wp2_with (go_at_call 200; refine CE.out.mono ?_; rintro e1 w2 ⟨rfl, R1, h1, k1⟩; have H1 := Lib.hid (And.intro h1 k1); clear h1 k1)
   have hg2 : g < w2.heap.size := H1.out.1.lt
   go_loopw [28] (fun i wr => ∃ (k : Nat) (X2 : List FV) (R2 : Nat -> Value), k <= rs.length /\ i = .int .i64 k /\ GrAt wr g X2 (E ++ [X.length]) e X.length R2 /\ KeepR g w2 R1 wr R2 /\ Brings (factsX X) (fun f => ∃ r ∈ rs.take k, ∃ b, FreshSol r.2 (agesOf (factsX X) e X.length r.2) b /\ f = hdOf' r b) (factsX X2)) (fun i _ => rs.length - (intOf i).toNat)
   case atStart => exact ⟨0, X, R1, Nat.zero_le _, rfl, H1.out.1, KeepR.refl _ _ _, Brings.refl HINV.out.fit.nodup fun f hf => by obtain ⟨r, hr, _⟩ := hf; simp at hr⟩
   case round =>
    obtain ⟨k, X2, R2, hk, rfl, hat, hkp, hbr⟩ := hrel
    have HAT2 := Lib.hid hat
    have HKP2 := Lib.hid (show KeepR g w2 R1 wr R2 from hkp)
    have HBR := Lib.hid hbr
    have hfold : KeepR g w R0 wr R2 := (HKP.out.drew.trans H1.out.2).trans hkp
    have HFOLD := Lib.hid hfold
    have hglr2 := hat.lt
    have HFX := Lib.hid (show FitL ar (factsX X2) from hbr.fit HINV.out.fit fun f ⟨r, hr, b, hb, e2⟩ => by
     rw [e2]
     have hfr := HFIT.out r (List.mem_of_mem_take hr)
     exact sol_fits HAR.out hfr (HINV.out.fit.take X.length) ((fresh_or_old (L := factsX X) HAT.out.eL (SafeB.of (fits_body hfr))).2 hb))
    have HAGE := Lib.hid (show ∀ ls, agesOf (factsX X2) e X.length ls = agesOf (factsX X) e X.length ls from fun ls => by
     obtain ⟨⟨N, e2⟩, _⟩ := hbr
     rw [e2]
     exact agesOf_pre (by rw [factsX_len]; exact HAT.out.eL) (by rw [factsX_len]; exact Nat.le_refl _) ls)
    have hX2le : X2.length <= 1536 := hat.few HAR.out HFX.out
    clear hat hkp hbr hfold
    by_cases hltk : k < rs.length
    ·obtain ⟨b, o3, u0, u1, u2, rfl, hbB, k0, k1, k2, rfl, q1, q2⟩ := (HR.out.below HFOLD.out.below (Nat.le_refl _)).get hltk
     obtain ⟨A3, c3, rfl, hc3, _⟩ := id q1
     obtain ⟨A4, c4, rfl, hc4, _⟩ := id q2
     have hall := HAL.out k hltk
     have HTK := Lib.hid (take_snoc rs k hltk)
     obtain ⟨r, hre⟩ : ∃ r, r = rs[k] := ⟨_, rfl⟩
     have HRF := Lib.hid (show ruleFits ar r = true by rw [hre]; exact HFIT.out _ (List.getElem_mem hltk))
     rw [<- hre] at k0 k1 k2 hc3 hc4 q1 q2 hall HTK
     obtain ⟨⟨⟨hp0, hp1⟩, htm, hal2, hlen4, hpl⟩, hsafe, htotl⟩ := hall
     obtain ⟨p, hpe⟩ : ∃ p : Nat, r.1.1 = (p : Int) := ⟨r.1.1.toNat, by omega⟩
     rw [hpe] at k0
     have HQ1 := Lib.hid q1
     have HQ2 := Lib.hid q2
     have HPE := Lib.hid hpe
     have HSF := Lib.hid (And.intro htm (And.intro hpl hsafe))
     clear hre q1 q2 hpe htm hpl hsafe hp0 hp1
     go_upto_region 5 with fail
     obtain ⟨bx, hbx⟩ : ∃ bx, bx = wr.heap.size := ⟨_, rfl⟩
     obtain ⟨wv, hwv⟩ : ∃ wv, wv = wr.alloc (Obj.cells #[Value.int IntKind.i64 (p : Int), Value.slice A3 r.1.2.length c3, Value.slice A4 r.2.length c4] 138) := ⟨_, rfl⟩
     have bv : Below wr.heap.size wr wv := by rw [hwv]; exact below1 _ _
     have z7 : Blk wv bx 138 #[.int .i64 p, .slice A3 r.1.2.length c3, .slice A4 r.2.length c4] := by rw [hwv, hbx]; exact Blk.new _ _ _
     have HBV := Lib.hid bv
     have hgv : g < wv.heap.size := Nat.lt_of_lt_of_le hglr2 bv.size
     rw [<- hwv]
     rw [show (wr.heap.size : Nat) = bx from hbx.symm]
     have q0 : wv.cell? ⟨bx, 0, none⟩ = some (.int .i64 p) := z7.cell 0
     have q1 : wv.cell? ⟨bx, 1, none⟩ = some (.slice A3 r.1.2.length c3) := z7.cell 1
     have q2 : wv.cell? ⟨bx, 2, none⟩ = some (.slice A4 r.2.length c4) := z7.cell 2
     clear hwv k0 k1 k2 bv z7 hbx
     obtain ⟨SS, hSS⟩ : ∃ SS : World -> Prop, SS = (fun W => W.cell? ⟨bx, 0, none⟩ = some (.int .i64 p) /\ W.cell? ⟨bx, 1, none⟩ = some (.slice A3 r.1.2.length c3) /\ W.cell? ⟨bx, 2, none⟩ = some (.slice A4 r.2.length c4)) := ⟨_, rfl⟩
     have HB := Lib.hid (show ∀ W, SS W -> (W.cell? ⟨bx, 0, none⟩ = some (.int .i64 p) /\ W.cell? ⟨bx, 1, none⟩ = some (.slice A3 r.1.2.length c3) /\ W.cell? ⟨bx, 2, none⟩ = some (.slice A4 r.2.length c4)) from by rw [hSS]; exact fun W hW => hW)
     have HS := Lib.hid (show ∀ W, Below wv.heap.size wv W -> SS W from by
      rw [hSS]
      exact fun W hW => ⟨(hW.cell (World.block_lt_of_cell? _ _ q0)).trans q0, (hW.cell (World.block_lt_of_cell? _ _ q1)).trans q1, (hW.cell (World.block_lt_of_cell? _ _ q2)).trans q2⟩)
     clear hSS
     have BB : Below wv.heap.size wv wv.drew := (Below.refl _ _).drew
     have SB := HS.out _ BB
     have HGV := Lib.hid (show GrAt wv.drew g X2 (E ++ [X.length]) e X.length R2 from (HAT2.out.on HBV.out).drew)
     have HRL := Lib.hid (show RdLits wv.drew g (.slice A4 r.2.length c4) r.2 from (HQ2.out.below HBV.out (Nat.le_of_lt hglr2)).below BB (Nat.le_of_lt hgv))
     have HRI := Lib.hid (show RdInts wv.drew g (.slice A3 r.1.2.length c3) r.1.2 from (HQ1.out.below HBV.out (Nat.le_of_lt hglr2)).below BB (Nat.le_of_lt hgv))
     clear q0 q1 q2
     refine wp_region_rel SS 10 11 (by kernel_rfl) rfl ?_
     refine wpAnyR_pure (i := 0) (oi := _) ?va0 rfl rfl (by kernel_rfl) (by decide) (fun _ _ _ h => h) rfl ?hya0 (fun _ => SB) ?resta0
     case hya0 => (intro W; go_simp; (try with_reducible rfl))
     try simp only [List.setIfInBounds_toArray, List.set_cons_zero, List.set_cons_succ]
     refine wpAnyR_pure (i := 1) (oi := _) ?va1 rfl rfl (by kernel_rfl) (by decide) (fun _ _ _ h => h) rfl ?hya1 (fun _ => SB) ?resta1
     case hya1 => (intro W; go_simp; (try with_reducible rfl))
     try simp only [List.setIfInBounds_toArray, List.set_cons_zero, List.set_cons_succ]
     refine wpAnyR_take (i := 2) (oi := _) ?va2 rfl rfl (by kernel_rfl) (fun _ _ _ h => h) rfl ?hya2 SB ?resta2
     case hya2 => (intro W hW; obtain ⟨E0, E1, E2⟩ := HB.out W hW; go_simp; (try with_reducible rfl))
     try simp only [List.setIfInBounds_toArray, List.set_cons_zero, List.set_cons_succ]
     refine wpAnyR_pure (i := 3) (oi := _) ?va3 rfl rfl (by kernel_rfl) (by decide) (fun _ _ _ h => h) rfl ?hya3 (fun _ => SB) ?resta3
     case hya3 => (intro W; go_simp; (try with_reducible rfl))
     try simp only [List.setIfInBounds_toArray, List.set_cons_zero, List.set_cons_succ]
     refine wpAnyR_take (i := 4) (oi := _) ?va4 rfl rfl (by kernel_rfl) (fun _ _ _ h => h) rfl ?hya4 SB ?resta4
     case hya4 => (intro W hW; obtain ⟨E0, E1, E2⟩ := HB.out W hW; go_simp; (try with_reducible rfl))
     try simp only [List.setIfInBounds_toArray, List.set_cons_zero, List.set_cons_succ]
     refine wpAnyR_pure (i := 5) (oi := _) ?va5 rfl rfl (by kernel_rfl) (by decide) (fun _ _ _ h => h) rfl ?hya5 (fun _ => SB) ?resta5
     case hya5 => (intro W; go_simp; (try with_reducible rfl))
     try simp only [List.setIfInBounds_toArray, List.set_cons_zero, List.set_cons_succ]
     refine wpAnyR_pure (i := 6) (oi := _) ?va6 rfl rfl (by kernel_rfl) (by decide) (fun _ _ _ h => h) rfl ?hya6 (fun _ => SB) ?resta6
     case hya6 => (intro W; go_simp; (try with_reducible rfl))
     try simp only [List.setIfInBounds_toArray, List.set_cons_zero, List.set_cons_succ]
     refine wpAnyR_take (i := 7) (oi := _) ?va7 rfl rfl (by kernel_rfl) (fun _ _ _ h => h) rfl ?hya7 SB ?resta7
     case hya7 => (intro W hW; obtain ⟨E0, E1, E2⟩ := HB.out W hW; go_simp; (try with_reducible rfl))
     try simp only [List.setIfInBounds_toArray, List.set_cons_zero, List.set_cons_succ]
     refine wpAnyR_one (i := 8) (by kernel_rfl) rfl (fun K hK => ?_)
     try rw [if_pos (show Region.wanted _ _ = true from rfl)]
     go_simp
     refine (byAge_any g X2 (E ++ [X.length]) e X.length R2 (.slice A4 r.2.length c4) r.2 wv.drew HGV.out (HRL.out.more (Nat.le_of_lt hgv)) HSF.out.2.1 (by omega) (by omega)).mono ?_
     rintro e8 W8 ⟨g8, us8, rfl, hg8, at8, rd8, b8⟩
     have H8 := Lib.hid (And.intro at8 (And.intro rd8 b8))
     clear at8 rd8 b8
     have S8 := HS.out W8 (bthen BB H8.out.2.2)
     refine hK.out _ _ (fun _ => S8) ?_
     clear hK K
     try simp only [List.setIfInBounds_toArray, List.set_cons_zero, List.set_cons_succ, Act.put]
     refine wpAnyR_one (i := 9) (by kernel_rfl) rfl (fun K hK => ?_)
     try rw [if_pos (show Region.wanted _ _ = true from rfl)]
     go_simp
     have hz8 : wv.drew.heap.size <= W8.heap.size := H8.out.2.2.size
     refine (solveFresh_any g8 r.2.length r.2 (agesOf (factsX X2) e X.length r.2) us8 (.slice A4 r.2.length c4) W8 ((HRL.out.below H8.out.2.2 (Nat.le_of_lt hgv)).more (Nat.le_trans (Nat.le_of_lt hgv) hz8)) H8.out.1 (H8.out.2.1.more hz8) (agesOf_len _ _ _ _) HSF.out.2.2 htotl (agesOf_ok (HFX.out.fewL HAR.out))).mono ?_
     rintro e9 W9 ⟨A9, c9, S, rfl, ow9, b9, mem9, len9, _⟩
     have H9 := Lib.hid (And.intro ow9 (And.intro b9 mem9))
     clear ow9 b9 mem9
     have BB9 : Below wv.drew.heap.size wv.drew W9 := bthen H8.out.2.2 H9.out.2.1
     have S9 := HS.out W9 (bthen BB BB9)
     refine hK.out _ _ (fun _ => S9) ?_
     clear hK K
     try simp only [List.setIfInBounds_toArray, List.set_cons_zero, List.set_cons_succ, Act.put]
     refine wpAnyR_one (i := 10) (by kernel_rfl) rfl (fun K hK => ?_)
     try rw [if_pos (show Region.wanted _ _ = true from rfl)]
     go_simp
     have HSOL := Lib.hid (show ∀ b, b ∈ S -> SolOf ((factsX X).take X.length) r.2 b /\ FreshSol r.2 (agesOf (factsX X) e X.length r.2) b from fun b hb => by
      have h1 := (H9.out.2.2 b).1 hb
      rw [HAGE.out] at h1
      exact ⟨(fresh_or_old (L := factsX X) HAT.out.eL HSF.out.2.2).2 h1, h1⟩)
     refine (bringHeads_any g ar HAR.out X2 (E ++ [X.length]) e X.length R2 p r.1.2 (.slice A3 r.1.2.length c3) (.slice A9 S.length c9) S W9 (HGV.out.on BB9) HFX.out (HRI.out.below BB9 (Nat.le_of_lt hgv)) HSF.out.1 hal2 (SolOk.new (HGV.out.on H8.out.2.2).raw H9.out.1) (fun b hb => (HSOL.out b hb).1.1) (fun b hb => by
      have h1 := sol_fits HAR.out HRF.out (HINV.out.fit.take X.length) (HSOL.out b hb).1
      unfold hdOf' at h1
      rw [HPE.out] at h1
      exact h1) (by omega)).mono ?_
     rintro e10 W10 ⟨rfl, X3, R3, g10, k10, br10⟩
     have H10 := Lib.hid (And.intro g10 (And.intro k10 br10))
     clear g10 k10 br10
     refine hK.out _ _ (fun hf => absurd hf (by decide)) ?_
     clear hK K
     try simp only [List.setIfInBounds_toArray, List.set_cons_zero, List.set_cons_succ, Act.put]
     refine wpAnyR_done (by kernel_rfl) ?_
     have HFIN := Lib.hid (show KeepR g w2 R1 W10 R3 /\ Brings (factsX X) (fun f => ∃ r ∈ rs.take (k + 1), ∃ b, FreshSol r.2 (agesOf (factsX X) e X.length r.2) b /\ f = hdOf' r b) (factsX X3) from by
      refine ⟨(HKP2.out.trans (KeepR.of_below (bthen HBV.out (bthen BB BB9)) (Nat.le_of_lt hglr2))).trans H10.out.2.1, HBR.out.trans H10.out.2.2 fun f => ?_⟩
      rw [HTK.out]
      constructor
      ·rintro ⟨r', hr', b', hb', e'⟩
       rcases List.mem_append.1 hr' with hr' | hr'
       ·exact .inl ⟨r', hr', b', hb', e'⟩
       ·rw [List.mem_singleton.1 hr'] at hb' e'
        refine .inr ⟨b', (H9.out.2.2 b').2 (by rw [HAGE.out]; exact hb'), ?_⟩
        rw [e']
        unfold hdOf'
        rw [HPE.out]
      ·rintro (⟨r', hr', b', hb', e'⟩ | ⟨b', hb', e'⟩)
       ·exact ⟨r', List.mem_append_left _ hr', b', hb', e'⟩
       ·refine ⟨r, List.mem_append_right _ (List.mem_singleton_self _), b', (HSOL.out b' hb').2, ?_⟩
        rw [e']
        unfold hdOf'
        rw [HPE.out])
     clear S9 S8 SB HB HS BB BB9
     go_wp2_with fail
     go_roundw
     case rel => exact ⟨k + 1, X3, R3, by omega, by go_num, H10.out.1, HFIN.out.1, HFIN.out.2⟩
     case measure => simp [intOf]; omega
    ·obtain rfl : k = rs.length := by omega
     have HFIN := Lib.hid (show OnInv ar rs (factsX X0) E0 (factsX X2) (E ++ [X.length]) X.length (j + 1) from by
      have h1 := HBR.out
      rw [List.take_length] at h1
      have h2 := HINV.out.step HFIT.out HX.out (by rw [factsX_len]; exact hlt) HFX.out (by rw [factsX_len]; exact h1)
      rw [factsX_len] at h2
      exact h2)
     go_wp2_with fail
     go_roundw
     case rel => exact ⟨X2, E ++ [X.length], e, X.length, R2, j + 1, HAT2.out, HFOLD.out, HFIN.out⟩
     case measure =>
      rw [HAT2.out.meas, HAT.out.meas, List.length_append, List.length_singleton]
      omega
  ·have hdl : decide (e < X.length) = false := decide_eq_false hlt
   go_upto_region 0 with fail
   go_big_region
   go_wp2_with fail
   go_end0
   have he : e = X.length := by have := HAT.out.eL; omega
   obtain ⟨mm, hmm⟩ := HINV.out.done HFIT.out HX.out (by rw [factsX_len]; exact he)
   exact ⟨rfl, X, E, o, R, mm, by rw [<- he]; exact HAT.out.drew, HKP.out.drew, hmm⟩
open Go.RowKit
theorem allQ_pre {L N : List LFact} {e : Nat} (he : e <= L.length) (ls : List LLit) : allQ (L ++ N) e ls = allQ L e ls := by
 unfold allQ
 rw [List.take_append_of_le_length he]
theorem allQ_len (L : List LFact) (e : Nat) (ls : List LLit) : (allQ L e ls).length = ls.length := by simp [allQ]
set_option maxHeartbeats 8000000 in
set_option maxRecDepth 100000 in
theorem growBy_any (g : Nat) (ar : List Int) (har : arityOk ar = true) (rs : List LRule) (hfit : ∀ r ∈ rs, ruleFits ar r = true) (hsz : totR rs <= 1048576) (hrl : rs.length <= 1048576) (X0 : List FV) (E0 : List Nat) (o0 : Nat) (R0 : Nat -> Value) (v2 : Value) (w : World)
 (h : GrAt w g X0 E0 o0 X0.length R0) (hX : FitL ar (factsX X0)) (hr : RdRules w g v2 rs) (hl : E0.getLastD 0 = X0.length) (hne : E0 ≠ []) (hu : E0.Pairwise (· < ·)) (hub : ∀ x ∈ E0, x <= X0.length) :
 Calls Tryz.prog 159 #[.pointer (some ⟨g, 0, none⟩), v2] w fun e' w' =>
  e' = .returned (.tuple #[]) /\ ∃ X E o R m, GrAt w' g X E o X.length R /\ KeepR g w R0 w' R /\ GrewBy ar rs (factsX X0) E0 (factsX X) E m := by
 have H0 := Lib.hid h
 have HX := Lib.hid hX
 have HR := Lib.hid hr
 have HAR := Lib.hid har
 have HFIT := Lib.hid hfit
 have HE := Lib.hid (And.intro hl (And.intro hne (And.intro hu hub)))
 have hgl := h.lt
 have HAL := Lib.hid (show ∀ k (hk : k < rs.length), ((0 <= rs[k].1.1 /\ rs[k].1.1 < 24) /\ rs[k].1.2.all termOk = true /\ rs[k].1.2.length <= 2 /\ rs[k].2.length <= 4 /\ ∀ l ∈ rs[k].2, 0 <= l.2.1 /\ l.2.1 < 24) /\ SafeB rs[k].2 /\ totL rs[k].2 <= 1048576 from fun k hk => by
  have h1 := hfit _ (List.getElem_mem hk)
  have h2 := sz_le_totR rs k hk
  unfold szR at h2
  exact ⟨rule_parts har h1, SafeB.of (fits_body h1), by omega⟩)
 obtain ⟨A, c, rfl, hc, _⟩ := hr
 have hX0le : X0.length <= 1536 := h.few har hX
 clear h hX har hfit hl hne hu hub
 go_enter Tryz.func159, Tryz.ntmps159
 go_wp2_with fail
 go_loopw [8] (fun i wr => ∃ (k : Nat) (X2 : List FV) (R2 : Nat -> Value), k <= rs.length /\ i = .int .i64 k /\ GrAt wr g X2 E0 o0 X0.length R2 /\ KeepR g w R0 wr R2 /\ Brings (factsX X0) (fun f => ∃ r ∈ rs.take k, ∃ b, SolOf (factsX X0) r.2 b /\ f = hdOf' r b) (factsX X2)) (fun i _ => rs.length - (intOf i).toNat)
 case atStart => exact ⟨0, X0, R0, Nat.zero_le _, rfl, H0.out, KeepR.refl _ _ _, Brings.refl HX.out.nodup fun f hf => by obtain ⟨r, hr, _⟩ := hf; simp at hr⟩
 case round =>
  obtain ⟨k, X2, R2, hk, rfl, hat, hkp, hbr⟩ := hrel
  have HAT2 := Lib.hid hat
  have HKP2 := Lib.hid (show KeepR g w R0 wr R2 from hkp)
  have HBR := Lib.hid hbr
  have hglr2 := hat.lt
  have HFX := Lib.hid (show FitL ar (factsX X2) from hbr.fit HX.out fun f ⟨r, hr, b, hb, e2⟩ => by
   rw [e2]
   exact sol_fits HAR.out (HFIT.out r (List.mem_of_mem_take hr)) HX.out hb)
  have HAGE := Lib.hid (show ∀ ls, allQ (factsX X2) X0.length ls = allQ (factsX X0) X0.length ls from fun ls => by
   obtain ⟨⟨N, e2⟩, _⟩ := hbr
   rw [e2]
   exact allQ_pre (by rw [factsX_len]; exact Nat.le_refl _) ls)
  have hX2le : X2.length <= 1536 := hat.few HAR.out HFX.out
  clear hat hkp hbr
  by_cases hltk : k < rs.length
  ·obtain ⟨b, o3, u0, u1, u2, rfl, hbB, k0, k1, k2, rfl, q1, q2⟩ := (HR.out.below HKP2.out.below (Nat.le_refl _)).get hltk
   obtain ⟨A3, c3, rfl, hc3, _⟩ := id q1
   obtain ⟨A4, c4, rfl, hc4, _⟩ := id q2
   have hall := HAL.out k hltk
   have HTK := Lib.hid (take_snoc rs k hltk)
   obtain ⟨r, hre⟩ : ∃ r, r = rs[k] := ⟨_, rfl⟩
   have HRF := Lib.hid (show ruleFits ar r = true by rw [hre]; exact HFIT.out _ (List.getElem_mem hltk))
   rw [<- hre] at k0 k1 k2 hc3 hc4 q1 q2 hall HTK
   obtain ⟨⟨⟨hp0, hp1⟩, htm, hal2, hlen4, hpl⟩, hsafe, htotl⟩ := hall
   obtain ⟨p, hpe⟩ : ∃ p : Nat, r.1.1 = (p : Int) := ⟨r.1.1.toNat, by omega⟩
   rw [hpe] at k0
   have HQ1 := Lib.hid q1
   have HQ2 := Lib.hid q2
   have HPE := Lib.hid hpe
   have HSF := Lib.hid (And.intro htm (And.intro hpl hsafe))
   clear hre q1 q2 hpe htm hpl hsafe hp0 hp1
   go_upto_region 3 with fail
   obtain ⟨bx, hbx⟩ : ∃ bx, bx = wr.heap.size := ⟨_, rfl⟩
   obtain ⟨wv, hwv⟩ : ∃ wv, wv = wr.alloc (Obj.cells #[Value.int IntKind.i64 (p : Int), Value.slice A3 r.1.2.length c3, Value.slice A4 r.2.length c4] 138) := ⟨_, rfl⟩
   have bv : Below wr.heap.size wr wv := by rw [hwv]; exact below1 _ _
   have z7 : Blk wv bx 138 #[.int .i64 p, .slice A3 r.1.2.length c3, .slice A4 r.2.length c4] := by rw [hwv, hbx]; exact Blk.new _ _ _
   have HBV := Lib.hid bv
   have hgv : g < wv.heap.size := Nat.lt_of_lt_of_le hglr2 bv.size
   rw [<- hwv]
   rw [show (wr.heap.size : Nat) = bx from hbx.symm]
   have q0 : wv.cell? ⟨bx, 0, none⟩ = some (.int .i64 p) := z7.cell 0
   have q1 : wv.cell? ⟨bx, 1, none⟩ = some (.slice A3 r.1.2.length c3) := z7.cell 1
   have q2 : wv.cell? ⟨bx, 2, none⟩ = some (.slice A4 r.2.length c4) := z7.cell 2
   clear hwv k0 k1 k2 bv z7 hbx
   obtain ⟨SS, hSS⟩ : ∃ SS : World -> Prop, SS = (fun W => W.cell? ⟨bx, 0, none⟩ = some (.int .i64 p) /\ W.cell? ⟨bx, 1, none⟩ = some (.slice A3 r.1.2.length c3) /\ W.cell? ⟨bx, 2, none⟩ = some (.slice A4 r.2.length c4)) := ⟨_, rfl⟩
   have HB := Lib.hid (show ∀ W, SS W -> (W.cell? ⟨bx, 0, none⟩ = some (.int .i64 p) /\ W.cell? ⟨bx, 1, none⟩ = some (.slice A3 r.1.2.length c3) /\ W.cell? ⟨bx, 2, none⟩ = some (.slice A4 r.2.length c4)) from by rw [hSS]; exact fun W hW => hW)
   have HS := Lib.hid (show ∀ W, Below wv.heap.size wv W -> SS W from by
    rw [hSS]
    exact fun W hW => ⟨(hW.cell (World.block_lt_of_cell? _ _ q0)).trans q0, (hW.cell (World.block_lt_of_cell? _ _ q1)).trans q1, (hW.cell (World.block_lt_of_cell? _ _ q2)).trans q2⟩)
   clear hSS
   have BB : Below wv.heap.size wv wv.drew := (Below.refl _ _).drew
   have SB := HS.out _ BB
   have HGV := Lib.hid (show GrAt wv.drew g X2 E0 o0 X0.length R2 from (HAT2.out.on HBV.out).drew)
   have HRL := Lib.hid (show RdLits wv.drew g (.slice A4 r.2.length c4) r.2 from (HQ2.out.below HBV.out (Nat.le_of_lt hglr2)).below BB (Nat.le_of_lt hgv))
   have HRI := Lib.hid (show RdInts wv.drew g (.slice A3 r.1.2.length c3) r.1.2 from (HQ1.out.below HBV.out (Nat.le_of_lt hglr2)).below BB (Nat.le_of_lt hgv))
   clear q0 q1 q2
   refine wp_region_rel SS 8 9 (by kernel_rfl) rfl ?_
   refine wpAnyR_pure (i := 0) (oi := _) ?va0 rfl rfl (by kernel_rfl) (by decide) (fun _ _ _ h => h) rfl ?hya0 (fun _ => SB) ?resta0
   case hya0 => (intro W; go_simp; (try with_reducible rfl))
   try simp only [List.setIfInBounds_toArray, List.set_cons_zero, List.set_cons_succ]
   refine wpAnyR_pure (i := 1) (oi := _) ?va1 rfl rfl (by kernel_rfl) (by decide) (fun _ _ _ h => h) rfl ?hya1 (fun _ => SB) ?resta1
   case hya1 => (intro W; go_simp; (try with_reducible rfl))
   try simp only [List.setIfInBounds_toArray, List.set_cons_zero, List.set_cons_succ]
   refine wpAnyR_take (i := 2) (oi := _) ?va2 rfl rfl (by kernel_rfl) (fun _ _ _ h => h) rfl ?hya2 SB ?resta2
   case hya2 => (intro W hW; obtain ⟨E0', E1, E2⟩ := HB.out W hW; go_simp; (try with_reducible rfl))
   try simp only [List.setIfInBounds_toArray, List.set_cons_zero, List.set_cons_succ]
   refine wpAnyR_pure (i := 3) (oi := _) ?va3 rfl rfl (by kernel_rfl) (by decide) (fun _ _ _ h => h) rfl ?hya3 (fun _ => SB) ?resta3
   case hya3 => (intro W; go_simp; (try with_reducible rfl))
   try simp only [List.setIfInBounds_toArray, List.set_cons_zero, List.set_cons_succ]
   refine wpAnyR_pure (i := 4) (oi := _) ?va4 rfl rfl (by kernel_rfl) (by decide) (fun _ _ _ h => h) rfl ?hya4 (fun _ => SB) ?resta4
   case hya4 => (intro W; go_simp; (try with_reducible rfl))
   try simp only [List.setIfInBounds_toArray, List.set_cons_zero, List.set_cons_succ]
   refine wpAnyR_take (i := 5) (oi := _) ?va5 rfl rfl (by kernel_rfl) (fun _ _ _ h => h) rfl ?hya5 SB ?resta5
   case hya5 => (intro W hW; obtain ⟨E0', E1, E2⟩ := HB.out W hW; go_simp; (try with_reducible rfl))
   try simp only [List.setIfInBounds_toArray, List.set_cons_zero, List.set_cons_succ]
   refine wpAnyR_one (i := 6) (by kernel_rfl) rfl (fun K hK => ?_)
   try rw [if_pos (show Region.wanted _ _ = true from rfl)]
   go_simp
   refine (allQuestions_any g X2 E0 o0 X0.length R2 (.slice A4 r.2.length c4) r.2 wv.drew HGV.out (HRL.out.more (Nat.le_of_lt hgv)) HSF.out.2.1 (by omega) (by omega)).mono ?_
   rintro e8 W8 ⟨g8, us8, rfl, hg8, at8, rd8, b8⟩
   have H8 := Lib.hid (And.intro at8 (And.intro rd8 (And.intro b8 hg8)))
   clear at8 rd8 b8 hg8
   have S8 := HS.out W8 (bthen BB H8.out.2.2.1)
   refine hK.out _ _ (fun _ => S8) ?_
   clear hK K
   try simp only [List.setIfInBounds_toArray, List.set_cons_zero, List.set_cons_succ, Act.put]
   refine wpAnyR_one (i := 7) (by kernel_rfl) rfl (fun K hK => ?_)
   try rw [if_pos (show Region.wanted _ _ = true from rfl)]
   go_simp
   have hz8 : wv.drew.heap.size <= W8.heap.size := H8.out.2.2.1.size
   have CS := solve_any g8 r.2.length wv.drew.heap.size us8 (allQ (factsX X2) X0.length r.2) W8 H8.out.1 H8.out.2.1 H8.out.2.2.2 (by rw [allQ_len]; omega) (allQ_ok HSF.out.2.2 (HFX.out.fewL HAR.out) htotl) (allQ_safe HSF.out.2.2)
   rw [allQ_len] at CS
   refine CS.mono ?_
   clear CS
   rintro e9 W9 ⟨A9, c9, S, rfl, ow9, on9, is9⟩
   have hl9 : S.length <= 65536 := binds_len is9.1 is9.ok
   have H9 := Lib.hid (And.intro ow9 (And.intro on9 is9))
   clear ow9 on9 is9
   have BB9 : Below wv.drew.heap.size wv.drew W9 := Only.then_ H8.out.2.2.1 H9.out.2.1 H8.out.2.2.2
   have S9 := HS.out W9 (bthen BB BB9)
   refine hK.out _ _ (fun _ => S9) ?_
   clear hK K
   try simp only [List.setIfInBounds_toArray, List.set_cons_zero, List.set_cons_succ, Act.put]
   refine wpAnyR_one (i := 8) (by kernel_rfl) rfl (fun K hK => ?_)
   try rw [if_pos (show Region.wanted _ _ = true from rfl)]
   go_simp
   have HSOL := Lib.hid (show ∀ b, b ∈ S <-> SolOf (factsX X0) r.2 b from fun b => by
    have h1 := (allQ_is (by rw [<- HAGE.out]; exact H9.out.2.2)).2 b
    rw [List.take_of_length_le (by rw [factsX_len]; exact Nat.le_refl _)] at h1
    exact h1)
   refine (bringHeads_any g ar HAR.out X2 E0 o0 X0.length R2 p r.1.2 (.slice A3 r.1.2.length c3) (.slice A9 S.length c9) S W9 (HGV.out.on BB9) HFX.out (HRI.out.below BB9 (Nat.le_of_lt hgv)) HSF.out.1 hal2 (SolOk.new (HGV.out.on H8.out.2.2.1).raw H9.out.1) (fun b hb => ((HSOL.out b).1 hb).1) (fun b hb => by
    have h1 := sol_fits HAR.out HRF.out HX.out ((HSOL.out b).1 hb)
    unfold hdOf' at h1
    rw [HPE.out] at h1
    exact h1) (by omega)).mono ?_
   rintro e10 W10 ⟨rfl, X3, R3, g10, k10, br10⟩
   have H10 := Lib.hid (And.intro g10 (And.intro k10 br10))
   clear g10 k10 br10
   refine hK.out _ _ (fun hf => absurd hf (by decide)) ?_
   clear hK K
   try simp only [List.setIfInBounds_toArray, List.set_cons_zero, List.set_cons_succ, Act.put]
   refine wpAnyR_done (by kernel_rfl) ?_
   have HFIN := Lib.hid (show KeepR g w R0 W10 R3 /\ Brings (factsX X0) (fun f => ∃ r ∈ rs.take (k + 1), ∃ b, SolOf (factsX X0) r.2 b /\ f = hdOf' r b) (factsX X3) from by
    refine ⟨(HKP2.out.trans (KeepR.of_below (bthen HBV.out (bthen BB BB9)) (Nat.le_of_lt hglr2))).trans H10.out.2.1, HBR.out.trans H10.out.2.2 fun f => ?_⟩
    rw [HTK.out]
    constructor
    ·rintro ⟨r', hr', b', hb', e'⟩
     rcases List.mem_append.1 hr' with hr' | hr'
     ·exact .inl ⟨r', hr', b', hb', e'⟩
     ·rw [List.mem_singleton.1 hr'] at hb' e'
      refine .inr ⟨b', (HSOL.out b').2 hb', ?_⟩
      rw [e']
      unfold hdOf'
      rw [HPE.out]
    ·rintro (⟨r', hr', b', hb', e'⟩ | ⟨b', hb', e'⟩)
     ·exact ⟨r', List.mem_append_left _ hr', b', hb', e'⟩
     ·refine ⟨r, List.mem_append_right _ (List.mem_singleton_self _), b', (HSOL.out b').1 hb', ?_⟩
      rw [e']
      unfold hdOf'
      rw [HPE.out])
   clear S9 S8 SB HB HS BB BB9
   go_wp2_with fail
   go_roundw
   case rel => exact ⟨k + 1, X3, R3, by omega, by go_num, H10.out.1, HFIN.out.1, HFIN.out.2⟩
   case measure => simp [intOf]; omega
  ·obtain rfl : k = rs.length := by omega
   have HBT := Lib.hid (show Brings (factsX X0) (fun f => f ∈ headsAll rs (factsX X0)) (factsX X2) from by
    have h1 := HBR.out
    rw [List.take_length] at h1
    exact h1.cast fun f => (headsAll_sol HFIT.out HX.out.consts HX.out.nodup f).symm)
   have CO := Lib.hid (growOn_any g ar HAR.out rs HFIT.out hsz hrl X2 E0 o0 X0.length R2 _ wr HAT2.out HFX.out (HR.out.below HKP2.out.below (Nat.le_refl _)) HE.out.1 HE.out.2.1 HE.out.2.2.1 HE.out.2.2.2 (fun f hf => by
    have h1 := (brings_pre HBT.out).1
    rw [factsX_len] at h1
    rw [h1] at hf
    exact (HBT.out.2.2 f).2 (.inr hf)))
   go_wp2_with (go_at_call 204; refine CO.out.mono ?_; rintro e1 w2 ⟨rfl, X, E, o, R, m, h1, k1, gr1⟩; have H1 := Lib.hid (And.intro h1 (And.intro k1 gr1)); clear h1 k1 gr1)
   go_end0
   obtain ⟨m', hm'⟩ := GrewBy.of HFIT.out HX.out HFX.out (by rw [factsX_len]; exact HE.out.1) HBT.out.1 HBT.out.2.2 H1.out.2.2
   exact ⟨rfl, X, E, o, R, m', H1.out.1, HKP2.out.trans H1.out.2.1, hm'⟩
open Go.RowKit
def nilV : Value := .slice none 0 0
def grZ : List Value := [nilV, nilV] ++ List.replicate 24 (wdN 0) ++ (List.range 24).flatMap fun _ => [nilV, inN 0, inN 0]
theorem Tryz.grZero : Tryz.zeroCells93 = grZ.toArray := by kernel_rfl
theorem grZ_tab : ∀ p, p < 24 -> grZ[2 + p]? = some (wdN (zeroT.getD p 0))
 | 0, _ => rfl
 | 1, _ => rfl
 | 2, _ => rfl
 | 3, _ => rfl
 | 4, _ => rfl
 | 5, _ => rfl
 | 6, _ => rfl
 | 7, _ => rfl
 | 8, _ => rfl
 | 9, _ => rfl
 | 10, _ => rfl
 | 11, _ => rfl
 | 12, _ => rfl
 | 13, _ => rfl
 | 14, _ => rfl
 | 15, _ => rfl
 | 16, _ => rfl
 | 17, _ => rfl
 | 18, _ => rfl
 | 19, _ => rfl
 | 20, _ => rfl
 | 21, _ => rfl
 | 22, _ => rfl
 | 23, _ => rfl
 | _ + 24, h => absurd h (by omega)
theorem grZ_pred : ∀ p, p < 24 -> grZ[26 + p * 3]? = some nilV
 | 0, _ => rfl
 | 1, _ => rfl
 | 2, _ => rfl
 | 3, _ => rfl
 | 4, _ => rfl
 | 5, _ => rfl
 | 6, _ => rfl
 | 7, _ => rfl
 | 8, _ => rfl
 | 9, _ => rfl
 | 10, _ => rfl
 | 11, _ => rfl
 | 12, _ => rfl
 | 13, _ => rfl
 | 14, _ => rfl
 | 15, _ => rfl
 | 16, _ => rfl
 | 17, _ => rfl
 | 18, _ => rfl
 | 19, _ => rfl
 | 20, _ => rfl
 | 21, _ => rfl
 | 22, _ => rfl
 | 23, _ => rfl
 | _ + 24, h => absurd h (by omega)
theorem grZ_old : ∀ p, p < 24 -> grZ[26 + p * 3 + 1]? = some (inN 0)
 | 0, _ => rfl
 | 1, _ => rfl
 | 2, _ => rfl
 | 3, _ => rfl
 | 4, _ => rfl
 | 5, _ => rfl
 | 6, _ => rfl
 | 7, _ => rfl
 | 8, _ => rfl
 | 9, _ => rfl
 | 10, _ => rfl
 | 11, _ => rfl
 | 12, _ => rfl
 | 13, _ => rfl
 | 14, _ => rfl
 | 15, _ => rfl
 | 16, _ => rfl
 | 17, _ => rfl
 | 18, _ => rfl
 | 19, _ => rfl
 | 20, _ => rfl
 | 21, _ => rfl
 | 22, _ => rfl
 | 23, _ => rfl
 | _ + 24, h => absurd h (by omega)
theorem grZ_lat : ∀ p, p < 24 -> grZ[26 + p * 3 + 2]? = some (inN 0)
 | 0, _ => rfl
 | 1, _ => rfl
 | 2, _ => rfl
 | 3, _ => rfl
 | 4, _ => rfl
 | 5, _ => rfl
 | 6, _ => rfl
 | 7, _ => rfl
 | 8, _ => rfl
 | 9, _ => rfl
 | 10, _ => rfl
 | 11, _ => rfl
 | 12, _ => rfl
 | 13, _ => rfl
 | 14, _ => rfl
 | 15, _ => rfl
 | 16, _ => rfl
 | 17, _ => rfl
 | 18, _ => rfl
 | 19, _ => rfl
 | 20, _ => rfl
 | 21, _ => rfl
 | 22, _ => rfl
 | 23, _ => rfl
 | _ + 24, h => absurd h (by omega)
theorem grZ_cells : GrCells grZ.toArray (fun _ => nilV) zeroT (fun _ => 0) (fun _ => 0) where
 size := rfl
 list := rfl
 ends := rfl
 tab p hp := by rw [List.getElem?_toArray]; exact grZ_tab p hp
 pred p hp := by rw [List.getElem?_toArray]; exact grZ_pred p hp
 old p hp := by rw [List.getElem?_toArray]; exact grZ_old p hp
 lat p hp := by rw [List.getElem?_toArray]; exact grZ_lat p hp
theorem cntX_nil (n : Nat) : cntX [] n = fun _ => 0 := by
 funext p
 simp [cntX, factsX, ofP]
theorem ofX_nil : ofX [] = fun _ => [] := by
 funext p
 simp [ofX]
theorem GrAt.zero (w : World) : GrAt (w.alloc (Obj.cells Tryz.zeroCells93 93)) w.heap.size [] [] 0 0 (fun _ => nilV) := by
 refine ⟨?_, Nat.le_refl _, Nat.le_refl _⟩
 rw [cntX_nil, ofX_nil]
 refine ⟨⟨_, Blk.new _ _ _, by rw [Tryz.grZero]; exact grZ_cells⟩, by simp [tabWith, factsX, zeroT], by rw [show tabWith zeroT (factsX []) = zeroT from rfl]; exact zeroT_lt, World.ownsRow_nil _ _ _ _, World.ownsRow_nil _ _ _ _, fun _ _ => World.ownsRow_nil _ _ _ _, (fun _ _ _ _ _ b hb => by cases hb), (fun x hx => by cases hx), (fun _ _ x hx => by cases hx)⟩
set_option maxHeartbeats 4000000 in
set_option maxRecDepth 100000 in
theorem growthFrom_any (ar : List Int) (har : arityOk ar = true) (v : Value) (fs : List LFact) (w : World) (hr : RdFacts w w.heap.size v fs) (hf : ∀ f ∈ fs, factFits ar f = true) (hn : fs.length <= 1048576) :
 Calls Tryz.prog 158 #[v] w fun e' w' =>
  ∃ X R, e' = .returned (.pointer (some ⟨w.heap.size, 0, none⟩)) /\ GrAt w' w.heap.size X [X.length] 0 X.length R /\ Below w.heap.size w w' /\ FitL ar (factsX X) /\ ∀ f, f ∈ factsX X <-> f ∈ fs := by
 obtain ⟨g, hg⟩ : ∃ g, g = w.heap.size := ⟨_, rfl⟩
 obtain ⟨w1, hw1⟩ : ∃ w1, w1 = w.alloc (Obj.cells Tryz.zeroCells93 93) := ⟨_, rfl⟩
 have HAR := Lib.hid har
 have HF := Lib.hid hf
 have HX0 := Lib.hid (show FitL ar (factsX []) from ⟨List.nodup_nil, fun f hf => by cases hf⟩)
 have B1 := Lib.hid (show Below g w w1 by rw [hw1, hg]; exact below1 _ _)
 have H1 := Lib.hid (show GrAt w1 g [] [] 0 0 (fun _ => nilV) by rw [hw1, hg]; exact GrAt.zero w)
 have CB := Lib.hid (bring_any g ar har [] [] 0 0 (fun _ => nilV) v fs w1 H1.out HX0.out (by
  have h1 := hr.below (show Below w.heap.size w w1 by rw [hw1]; exact below1 _ _) (Nat.le_refl _)
  rw [hg]; exact h1) hf hn)
 have HW1 := Lib.hid hw1
 rw [<- hg]
 clear hr hf har hw1
 go_enter Tryz.func158, Tryz.ntmps158
 go_upto_region 2 with fail
 rw [<- HW1.out]
 rw [show (w.heap.size : Nat) = g from hg.symm]
 have HG := Lib.hid hg
 clear hg
 go_wp2_with (first
  | (go_at_call 199; refine CB.out.mono ?_; rintro e2 w2 ⟨rfl, X, R, h2, k2, br2⟩
     have H2 := Lib.hid (And.intro h2 (And.intro k2 br2))
     have HFX := Lib.hid (br2.fit HX0.out HF.out)
     have hfew := h2.few HAR.out HFX.out
     have CE := Lib.hid (endRound_any g X [] 0 0 R w2 h2 (by omega) (by simp))
     clear h2 k2 br2)
  | (go_at_call 200; refine CE.out.mono ?_; rintro e3 w3 ⟨rfl, R3, h3, k3⟩
     have H3 := Lib.hid (And.intro h3 k3)
     clear h3 k3))
 go_ret
 exact ⟨X, R3, rfl, H3.out.1, B1.out.trans (H2.out.2.1.below.trans H3.out.2.below), HFX.out, fun f => by rw [H2.out.2.2.2.2 f]; simp [factsX]⟩
open Go.RowKit
inductive Chain (ar : List Int) : List (List LRule) -> List LFact -> List Nat -> List LFact -> List Nat -> Prop
 | nil (L : List LFact) (E : List Nat) : Chain ar [] L E L E
 | snoc {gs : List (List LRule)} {rs : List LRule} {L0 L1 L2 : List LFact} {E0 E1 E2 : List Nat} {m : Nat} (h : Chain ar gs L0 E0 L1 E1) (k : GrewBy ar rs L1 E1 L2 E2 m) : Chain ar (gs ++ [rs]) L0 E0 L2 E2
set_option maxHeartbeats 4000000 in
set_option maxRecDepth 100000 in
theorem layeredGrowth_yes (v v1 : Value) (p : LProg) (db : List LFact) (Gs : List (List LRule)) (g0 c : Nat) (uv : Nat -> Value) (w : World) (h : RdProg w w.heap.size v p) (h1 : RdFacts w w.heap.size v1 db) (hrow : w.rowIs g0 32 Gs.length uv) (hrd : ∀ j (hj : j < Gs.length), RdRules w w.heap.size (uv j) Gs[j])
 (hfit : ∀ G ∈ Gs, (∀ r ∈ G, ruleFits p.1 r = true) /\ totR G <= 1048576 /\ G.length <= 1048576) (hok : factsOk p.1 db = true) (hal : p.1.length <= 1048576) (hn : db.length <= 1048576) (ht : tot db <= 1048576) (hgl : Gs.length <= 1048576) :
 Calls Tryz.prog 101 #[v, v1, .slice (some ⟨g0, 0, none⟩) Gs.length c] w fun e w' => ∃ (g : Nat) (X : List FV) (E : List Nat) (o : Nat) (R : Nat -> Value), e = .returned (.tuple #[.pointer (some ⟨g, 0, none⟩), .bool true]) /\ GrAt w' g X E o X.length R /\ FitL p.1 (factsX X) /\ (∃ L0, FitL p.1 L0 /\ (∀ f, f ∈ L0 <-> f ∈ db) /\ Chain p.1 Gs L0 [L0.length] (factsX X) E) /\ w.heap.size <= g /\ Below w.heap.size w w' := by
 have HP := Lib.hid h
 have H1 := Lib.hid h1
 have HRD := Lib.hid hrd
 have HF := Lib.hid hfit
 have HROW := Lib.hid hrow
 have hg0 := hrow.lt
 obtain ⟨har, hff, _⟩ := factsOk_parts hok
 have HFF := Lib.hid (And.intro har hff)
 obtain ⟨a, b, rfl, hA, hB⟩ := h
 have HA := Lib.hid hA
 obtain ⟨A, c2, rfl, _, _⟩ := hA
 obtain ⟨Ab, cb, rfl, _, _⟩ := hB
 obtain ⟨A1, c1, rfl, _, _⟩ := h1
 clear hrow hrd hfit har hff
 go_enter Tryz.func101, Tryz.ntmps101
 go_upto_region 1 with fail
 obtain ⟨w1, hw1⟩ : ∃ w1, w1 = w.alloc (Obj.cells #[Value.slice A p.1.length c2, Value.slice Ab p.2.length cb] 34) := ⟨_, rfl⟩
 have X1 : Blk w1 w.heap.size 34 #[.slice A p.1.length c2, .slice Ab p.2.length cb] := by rw [hw1]; exact Blk.new _ _ _
 have B1 : Below w.heap.size w w1 := by rw [hw1]; exact below1 _ _
 rw [<- hw1]
 clear hw1
 have x0 : w1.cell? ⟨w.heap.size, 0, none⟩ = some (.slice A p.1.length c2) := X1.cell 0
 have FO := implFactsOk_any (.slice A p.1.length c2) (.slice A1 db.length c1) p.1 db w1 (HA.out.on B1) (H1.out.on B1) hal hn ht
 rw [hok] at FO
 clear X1
 go_wp2_with fail
 refine FO.mono ?_
 rintro e w2 ⟨rfl, b2⟩
 have B2 := bthen B1 b2
 have s2 := B2.size
 clear x0 FO
 go_wp2_with fail
 refine (growthFrom_any p.1 HFF.out.1 (.slice A1 db.length c1) db w2 (H1.out.on B2) HFF.out.2 hn).mono ?_
 rintro e w3 ⟨X0, R0, rfl, hga, hb3, hfx, hmx⟩
 obtain ⟨g, hg⟩ : ∃ g, g = w2.heap.size := ⟨_, rfl⟩
 rw [<- hg] at hga hb3 ⊢
 have hwg : w.heap.size <= g := by omega
 have HG := Lib.hid hga
 have HFX := Lib.hid (And.intro hfx hmx)
 have B3 := Lib.hid (show Below w.heap.size w w3 from B2.trans (hb3.mono hwg))
 clear hg hga hb3 hfx hmx
 go_wp2_with fail
 go_loopw [10, 20] (fun _ i wr => ∃ (k : Nat) (X : List FV) (E : List Nat) (o : Nat) (R : Nat -> Value), k <= Gs.length /\ i = .int .i64 k /\ GrAt wr g X E o X.length R /\ Below g w3 wr /\ Hid (Chain p.1 (Gs.take k) (factsX X0) [X0.length] (factsX X) E /\ FitL p.1 (factsX X) /\ E.getLastD 0 = X.length /\ E ≠ [] /\ E.Pairwise (· < ·) /\ ∀ x ∈ E, x <= X.length)) (fun _ i _ => Gs.length - (intOf i).toNat)
 case atStart => exact ⟨0, X0, [X0.length], 0, R0, Nat.zero_le _, rfl, HG.out, Below.refl _ _, Lib.hid ⟨by rw [List.take_zero]; exact Chain.nil _ _, HFX.out.1, rfl, by simp, by simp, by simp⟩⟩
 case round =>
  obtain ⟨k, X, E, o, R, hk, rfl, hga, hbe, HC⟩ := hrel
  have HGA := Lib.hid hga
  have HBE := Lib.hid hbe
  have BW := Lib.hid (show Below w.heap.size w wr from B3.out.trans (hbe.mono hwg))
  clear hga hbe
  by_cases hlt : k < Gs.length
  ·have hcr : wr.cell? ⟨g0, k, none⟩ = some (uv k) := (BW.out.cell (p := ⟨g0, k, none⟩) hg0).trans (HROW.out.cell hlt)
   have hrk := (HRD.out k hlt).below BW.out (Nat.le_refl _)
   have hfk := HF.out Gs[k] (List.getElem_mem hlt)
   have HBY := Lib.hid (growBy_any g p.1 HFF.out.1 Gs[k] hfk.1 hfk.2.1 hfk.2.2 X E o R (uv k) wr HGA.out HC.out.2.1 (hrk.more hwg) HC.out.2.2.1 HC.out.2.2.2.1 HC.out.2.2.2.2.1 HC.out.2.2.2.2.2)
   obtain ⟨Au, cu, eu, _⟩ := id hrk
   have HEU := Lib.hid eu
   rw [eu] at hcr HBY
   have hkz : (0 : Int) <= (k : Int) := by omega
   have hki : (k : Int) < (Gs.length : Int) := by omega
   clear hrk hfk eu
   go_wp2_with fail
   refine HBY.out.mono ?_
   rintro e w5 ⟨rfl, X2, E2, o2, R2, m, hga2, hkr, hgb⟩
   have HGA2 := Lib.hid hga2
   have HKR := Lib.hid hkr
   have HGB := Lib.hid hgb
   clear hga2 hkr hgb
   go_wp2_with fail
   go_roundw
   case rel =>
    refine ⟨k + 1, X2, E2, o2, R2, by omega, by go_num, HGA2.out, HBE.out.trans HKR.out.below, Lib.hid ⟨by rw [take_snoc Gs k hlt]; exact Chain.snoc HC.out.1 HGB.out, HGB.out.fit, by rw [HGB.out.last]; simp [factsX], ?_, HGB.out.up, fun x hx => by have := HGB.out.ub x hx; simpa [factsX] using this⟩⟩
    obtain ⟨M, e, _⟩ := HGB.out.ends
    rw [e]
    exact fun h => HC.out.2.2.2.1 (List.append_eq_nil_iff.1 h).1
   case measure => simp [intOf]; omega
  ·have HE := Lib.hid (show Chain p.1 Gs (factsX X0) [X0.length] (factsX X) E by
    have := HC.out.1
    rwa [show k = Gs.length by omega, List.take_length] at this)
   go_wp2_with fail
   refine bodyPost_ret (v := .tuple #[.pointer (some ⟨g, 0, none⟩), .bool true]) (by simp [results, Tryz.results101, go_sem]) rfl ?_
   exact ⟨g, X, E, o, R, rfl, HGA.out, HC.out.2.1, ⟨factsX X0, HFX.out.1, HFX.out.2, by have h9 := HE.out; rw [show (factsX X0).length = X0.length by simp [factsX]]; exact h9⟩, hwg, BW.out⟩
open Go.RowKit
def digits (n p : Nat) : List Int := (List.range p).map fun j : Nat => ((n / 6 ^ (p - 1 - j) % 6 : Nat) : Int)
theorem digits_length (n p : Nat) : (digits n p).length = p := by simp [digits]
theorem div_pow (n k : Nat) : n / 6 ^ k / 6 = n / 6 ^ (k + 1) := by rw [Nat.div_div_eq_div_mul, Nat.pow_succ]
def digitCell (n p m j : Nat) : Value := if m <= j then .int .i64 ((n / 6 ^ (p - 1 - j) % 6 : Nat) : Int) else .int .i64 0
set_option maxHeartbeats 1000000 in
theorem constantDigits_six (n p : Nat) (w : World) (hn : n <= 1048576) (hp : p <= 6) :
 Calls Tryz.prog 102 #[.int .i64 n, .int .i64 p] w fun e w' => ∃ A' c', e = .returned (.slice A' p c') /\ OwnInts w' w.heap.size w'.heap.size (.slice A' p c') (digits n p) /\ Below w.heap.size w w' := by
 have hmk := run_make_row' (P := Tryz.prog) 22 3 (.int .i64 0) 8 Tryz.underlying22 Tryz.infoInt rfl .i64 .i64 p (by omega) (by omega)
 go_enter Tryz.func102, Tryz.ntmps102
 go_wp2_with (fail)
 go_loopw [0, 6] (fun v i wr => ∃ (m : Nat) (q : Nat), m <= p /\ i = .int .i64 ((m : Int) - 1) /\ v = .int .i64 q /\ q = n / 6 ^ (p - m) /\ wr.rowIs w.heap.size 3 p (digitCell n p m) /\ Below w.heap.size w wr) (fun _ i _ => (intOf i + 1).toNat)
 case atStart => exact ⟨p, n, Nat.le_refl _, rfl, rfl, by simp, (World.rowIs_made w _ _ _).congr (fun j hj => by simp [digitCell]; omega), below1 _ _⟩
 case round =>
  obtain ⟨m, q, hm, rfl, rfl, hq, hrow, hbe⟩ := hrel
  have hqn : q <= n := by rw [hq]; exact Nat.div_le_self _ _
  rcases Nat.eq_zero_or_pos m with h0 | h0
  ·have HO := Lib.hid (show OwnInts wr w.heap.size wr.heap.size (.slice (some ⟨w.heap.size, 0, none⟩) p p) (digits n p) by
    have h1 : wr.rowIs w.heap.size 3 (digits n p).length (fun j => .int .i64 ((digits n p).getD j 0)) := by
     rw [digits_length]
     refine hrow.congr (fun j hj => ?_)
     simp [digitCell, digits, h0, hj]
    have h2 := OwnInts.of_rowIs h1 (Nat.le_refl _) h1.lt (by rw [digits_length]; unfold maxLen; omega)
    rwa [digits_length] at h2)
   have hneg : ¬ (0 : Int) <= (m : Int) - 1 := by omega
   clear hrow hq h0
   go_wp2_with (fail)
   go_ret
   exact ⟨_, _, rfl, HO.out, hbe⟩
  ·obtain ⟨k, rfl⟩ : ∃ k, m = k + 1 := ⟨m - 1, by omega⟩
   have hkp : k < p := by omega
   have c1 := hrow.cell hkp
   have f1 := hrow.frozen k
   have c1' : ∃ u, wr.cell? ⟨w.heap.size, k, none⟩ = some (.int .i64 u) := by
    rw [c1]
    unfold digitCell
    split <;> exact ⟨_, rfl⟩
   obtain ⟨u, c2⟩ := c1'
   have e1 : ((k + 1 : Nat) : Int) - 1 = (k : Int) := by omega
   have hrw := (hrow.set k (.int .i64 ((q % 6 : Nat) : Int))).congr (g := digitCell n p k) (fun j hj => by
    by_cases e : j = k
    ·subst e
     rw [if_pos rfl, hq, show p - (j + 1) = p - 1 - j by omega]
     simp [digitCell]
    ·rw [if_neg e]
     unfold digitCell
     by_cases h2 : k <= j
     ·rw [if_pos (by omega), if_pos h2]
     ·rw [if_neg (by omega), if_neg h2])
   have HR := Lib.hid hrw
   have HQ := Lib.hid (show q / 6 = n / 6 ^ (p - k) by rw [hq, div_pow]; congr 2; omega)
   rw [e1]
   clear hrow hq c1 hrw e1
   go_wp2_with (fail)
   go_roundw
   case rel => exact ⟨k, q / 6, by omega, rfl, by simp, HQ.out, by simpa using HR.out, hbe.setCell (Nat.le_refl _) _⟩
   case measure => simp [intOf]
theorem constantDigits_any (n p : Nat) (w : World) (hn : n <= 1048576) (hp : p <= 2) :
 Calls Tryz.prog 102 #[.int .i64 n, .int .i64 p] w fun e w' => ∃ A' c', e = .returned (.slice A' p c') /\ OwnInts w' w.heap.size w'.heap.size (.slice A' p c') (digits n p) /\ Below w.heap.size w w' := constantDigits_six n p w hn (by omega)
open Go.RowKit
def wordFacts (p x q : Nat) : List LFact := (bitsOf x).map fun j => ((p : Int), digits j.toNat q)
def tabFacts (T : List Nat) (ar : List Int) : List LFact := (List.range ar.length).flatMap fun p => wordFacts p (T.getD p 0) (ar.getD p 0).toNat
theorem bitsOf_mem {x : Nat} {i : Int} : i ∈ bitsOf x <-> ∃ j : Nat, j < 64 /\ x.testBit j = true /\ (j : Int) = i := by
 unfold bitsOf
 rw [List.mem_map]
 constructor
 ·rintro ⟨j, hj, e⟩
  rw [List.mem_filter, List.mem_range] at hj
  exact ⟨j, hj.1, hj.2, e⟩
 ·rintro ⟨j, h1, h2, e⟩
  exact ⟨j, List.mem_filter.2 ⟨List.mem_range.2 h1, h2⟩, e⟩
theorem bitsOf_up (x : Nat) : (bitsOf x).Pairwise (· < ·) := by
 unfold bitsOf
 rw [List.pairwise_map]
 exact (List.pairwise_lt_range.filter _).imp fun h => by omega
theorem digits_numF {xs : List Int} (hc : xs.all constOk = true) (hl : xs.length <= 2) : digits (numF xs) xs.length = xs := by
 rcases xs with _ | ⟨x, _ | ⟨y, _ | ⟨z, xs⟩⟩⟩
 ·rfl
 ·simp only [List.all_cons, List.all_nil, Bool.and_true] at hc
  have := const_range hc
  simp [digits, numF, List.range_succ]
  omega
 ·simp only [List.all_cons, List.all_nil, Bool.and_true, Bool.and_eq_true] at hc
  have := const_range hc.1
  have := const_range hc.2
  simp [digits, numF, List.range_succ]
  omega
 ·simp at hl
theorem digits_up1 : ∀ i j : Fin 6, i < j -> cmpL (digits i 1) (digits j 1) < 0 := by decide +kernel
theorem digits_up2 : ∀ i j : Fin 36, i < j -> cmpL (digits i 2) (digits j 2) < 0 := by decide +kernel
theorem digits_up {i j q : Nat} (hq : q <= 2) (hj : j < 6 ^ q) (h : i < j) : cmpL (digits i q) (digits j q) < 0 := by
 match q, hq with
 | 0, _ => simp at hj; omega
 | 1, _ => exact digits_up1 ⟨i, by omega⟩ ⟨j, by omega⟩ h
 | 2, _ => exact digits_up2 ⟨i, by omega⟩ ⟨j, by omega⟩ h
theorem tabFacts_mem {T : List Nat} {ar : List Int} {f : LFact} : f ∈ tabFacts T ar <-> ∃ p j : Nat, p < ar.length /\ j < 64 /\ (T.getD p 0).testBit j = true /\ f = ((p : Int), digits j (ar.getD p 0).toNat) := by
 unfold tabFacts wordFacts
 simp only [List.mem_flatMap, List.mem_map, List.mem_range, bitsOf_mem]
 constructor
 ·rintro ⟨p, hp, i, ⟨j, h1, h2, rfl⟩, rfl⟩
  exact ⟨p, j, hp, h1, h2, rfl⟩
 ·rintro ⟨p, j, hp, h1, h2, rfl⟩
  exact ⟨p, hp, (j : Int), ⟨j, h1, h2, rfl⟩, rfl⟩
theorem tabFacts_asc {T : List Nat} {ar : List Int} (ha : arityOk ar = true) (hb : ∀ p j : Nat, p < ar.length -> (T.getD p 0).testBit j = true -> j < 6 ^ (ar.getD p 0).toNat) : Asc (tabFacts T ar) := by
 unfold Asc tabFacts
 rw [List.pairwise_flatMap]
 have hq : ∀ p, p < ar.length -> (ar.getD p 0).toNat <= 2 := fun p hp => by
  have h1 := ha
  simp only [arityOk, Bool.and_eq_true, decide_eq_true_eq, List.all_eq_true] at h1
  have h2 : placeOk ar[p] = true := h1.2 _ (List.getElem_mem hp)
  rw [getD_at hp]
  simp [placeOk] at h2
  omega
 refine ⟨fun p hp => ?_, ?_⟩
 ·rw [List.mem_range] at hp
  unfold wordFacts
  rw [List.pairwise_map]
  refine List.Pairwise.imp_of_mem (fun {a b} ha hb' hab => ?_) (bitsOf_up _)
  obtain ⟨i, _, _, rfl⟩ := bitsOf_mem.1 ha
  obtain ⟨j, _, h2, rfl⟩ := bitsOf_mem.1 hb'
  simp only [factOrder, if_true, Int.toNat_natCast]
  exact digits_up (hq p hp) (hb p j hp h2) (by omega)
 ·refine List.pairwise_lt_range.imp fun {p p'} hpp x hx y hy => ?_
  unfold wordFacts at hx hy
  obtain ⟨_, _, rfl⟩ := List.mem_map.1 hx
  obtain ⟨_, _, rfl⟩ := List.mem_map.1 hy
  have h1 : ¬ ((p : Int) = (p' : Int)) := by omega
  have h2 : ((p : Int) < (p' : Int)) := by omega
  simp [factOrder, h1, cmpI, h2]
theorem tabFacts_with {ar : List Int} (ha : arityOk ar = true) {F : List LFact} (hF : ∀ f ∈ F, factFits ar f = true) : Asc (tabFacts (tabWith zeroT F) ar) /\ ∀ f, f ∈ tabFacts (tabWith zeroT F) ar <-> f ∈ F := by
 have hl : ar.length <= 24 := by simp only [arityOk, Bool.and_eq_true, decide_eq_true_eq] at ha; exact ha.1
 have hz : ∀ p : Nat, p < ar.length -> p < zeroT.length := fun p hp => by simp [zeroT]; omega
 have hbit : ∀ p j : Nat, p < ar.length -> (((tabWith zeroT F).getD p 0).testBit j = true <-> ∃ f ∈ F, f.1.toNat = p /\ numF f.2 = j) := fun p j hp => by
  simp only [tabWith_bit _ _ (hz p hp), zero_bit, Bool.false_eq_true, false_or]
 have hone : ∀ f ∈ F, f.1 = ((f.1.toNat : Nat) : Int) /\ f.1.toNat < ar.length /\ f.2.length = (ar.getD f.1.toNat 0).toNat /\ digits (numF f.2) (ar.getD f.1.toNat 0).toNat = f.2 /\ numF f.2 < 6 ^ (ar.getD f.1.toNat 0).toNat := fun f hf => by
  obtain ⟨⟨h0, h1, h2⟩, h3⟩ := fits_parts (hF f hf)
  have h4 := fits_short ha (hF f hf)
  have h5 : f.2.length = (ar.getD f.1.toNat 0).toNat := by omega
  refine ⟨by omega, by omega, h5, ?_, ?_⟩
  ·rw [<- h5]
   exact digits_numF h3 h4
  ·rw [<- h5]
   have := numF_lt h3 f.2.length (Nat.le_refl _)
   rwa [List.take_length] at this
 refine ⟨tabFacts_asc ha fun p j hp h => ?_, fun f => ?_⟩
 ·obtain ⟨f, hf, rfl, rfl⟩ := (hbit p j hp).1 h
  exact (hone f hf).2.2.2.2
 ·rw [tabFacts_mem]
  constructor
  ·rintro ⟨p, j, hp, _, h, rfl⟩
   obtain ⟨g, hg, rfl, rfl⟩ := (hbit p j hp).1 h
   obtain ⟨e1, _, _, e2, _⟩ := hone g hg
   rw [e2, <- e1]
   exact hg
  ·intro hf
   obtain ⟨e1, e2, _, e3, e4⟩ := hone f hf
   exact ⟨f.1.toNat, numF f.2, e2, numF_64 (fits_parts (hF f hf)).2 (fits_short ha (hF f hf)), (hbit _ _ e2).2 ⟨f, hf, rfl, rfl⟩, by rw [e3, <- e1]⟩
open Go.RowKit
def tabTo (T : List Nat) (ar : List Int) (k : Nat) : List LFact := (List.range k).flatMap fun p => wordFacts p (T.getD p 0) (ar.getD p 0).toNat
theorem tabTo_snoc (T : List Nat) (ar : List Int) (k : Nat) : tabTo T ar (k + 1) = tabTo T ar k ++ wordFacts k (T.getD k 0) (ar.getD k 0).toNat := by simp [tabTo, List.range_succ]
theorem wordFacts_len (p x q : Nat) : (wordFacts p x q).length <= 64 := by
 unfold wordFacts
 rw [List.length_map]
 exact bitsOf_length x
theorem tabTo_len (T : List Nat) (ar : List Int) : ∀ k, (tabTo T ar k).length <= k * 64
 | 0 => by simp [tabTo]
 | k + 1 => by
  rw [tabTo_snoc, List.length_append]
  have := tabTo_len T ar k
  have := wordFacts_len k (T.getD k 0) (ar.getD k 0).toNat
  omega
open Go.RowKit
structure TabG (w : World) (g : Nat) (T : List Nat) : Prop where
 cell : ∀ {p : Nat}, p < 24 -> w.cell? ⟨g, 2 + p, none⟩ = some (.int .u64 ((T.getD p 0 : Nat) : Int))
 word : ∀ p, T.getD p 0 < 18446744073709551616
 lt : g < w.heap.size
theorem TabG.below {w w' : World} {g B : Nat} {T : List Nat} (h : TabG w g T) (hb : Below B w w') (hg : g < B) : TabG w' g T := ⟨fun {p} hp => (hb.cell (p := ⟨g, 2 + p, none⟩) hg).trans (h.cell hp), h.word, Nat.lt_of_lt_of_le h.lt hb.size⟩
theorem GrAt.tab {w : World} {g o e : Nat} {X : List FV} {E : List Nat} {R : Nat -> Value} (h : GrAt w g X E o e R) : TabG w g (tabWith zeroT (factsX X)) := ⟨fun {p} hp => h.raw.cellTab hp, fun p => h.raw.word, h.lt⟩
set_option maxHeartbeats 4000000 in
set_option maxRecDepth 100000 in
theorem tabFactsG_any (g : Nat) (T : List Nat) (v : Value) (ar : List Int) (w : World) (h : TabG w g T) (hr : RdInts w w.heap.size v ar) (har : arityOk ar = true) (hT : Tab w) :
 Calls Tryz.prog 63 #[.pointer (some ⟨g, 2, none⟩), v] w fun e w' => ∃ A' c', e = .returned (.slice A' (tabFacts T ar).length c') /\ OwnFacts w' w.heap.size w'.heap.size (.slice A' (tabFacts T ar).length c') (tabFacts T ar) /\ Below w.heap.size w w' := by
 obtain ⟨i0, hi0, hz0, hz1, hz2⟩ := info_parts Tryz.infoFact
 have H := Lib.hid hr
 have HTA := Lib.hid h
 have HT := Lib.hid hT
 have hgl := h.lt
 have hl24 : ar.length <= 24 := by simp only [arityOk, Bool.and_eq_true, decide_eq_true_eq] at har; exact har.1
 have HQ := Lib.hid (show ∀ k (hk : k < ar.length), 0 <= ar[k] /\ ar[k] <= 2 from fun k hk => by
  simp only [arityOk, Bool.and_eq_true, decide_eq_true_eq, List.all_eq_true] at har
  have h2 : placeOk ar[k] = true := har.2 _ (List.getElem_mem hk)
  simp [placeOk] at h2
  omega)
 obtain ⟨A, c, rfl, hc, _⟩ := hr
 clear h hT har
 go_enter Tryz.func63, Tryz.ntmps63
 go_wp2_with fail
 go_loopw [5, 11] (fun o i wr => ∃ (k : Nat) (A' : Option Addr) (c' : Nat) (av : List Value), k <= ar.length /\ i = .int .i64 k /\ o = .slice A' (tabTo T ar k).length c' /\ ColRel w wr (tabTo T ar k) A' c' av) (fun _ i _ => ar.length - (intOf i).toNat)
 case atStart => exact ⟨0, none, 0, [], Nat.zero_le _, rfl, rfl, ColRel.nil w⟩
 case round =>
  obtain ⟨k, A', c', av, hk, rfl, rfl, hcol⟩ := hrel
  have hll := tabTo_len T ar k
  by_cases hlt : k < ar.length
  ·have hsz := hcol.below.size
   have hbe := hcol.below
   obtain ⟨A7, c7, e7, _, hx⟩ := (H.out.on hbe)
   injection e7 with e7 e9 e8
   clear e9
   subst e7 e8
   obtain ⟨b7, o7, rfl, _, hx⟩ := hx (by omega)
   obtain ⟨q, hqe⟩ : ∃ q : Nat, ar[k] = (q : Int) := ⟨ar[k].toNat, by have := HQ.out k hlt; omega⟩
   have hq2 : q <= 2 := by have := HQ.out k hlt; omega
   have hck : wr.cell? ⟨b7, o7 + k, none⟩ = some (.int .i64 q) := by rw [<- hqe]; exact hx k hlt
   have hk24 : k < 24 := by omega
   have hki : (k : Int) < 24 := by omega
   have htr := HTA.out.below hbe hgl
   obtain ⟨x, hxe⟩ : ∃ x, x = T.getD k 0 := ⟨_, rfl⟩
   have hx64 : x < 18446744073709551616 := by rw [hxe]; exact htr.word k
   have htk : wr.cell? ⟨g, 2 + k, none⟩ = some (.int .u64 ((x : Nat) : Int)) := by rw [hxe]; exact htr.cell hk24
   have HF := Lib.hid (show tabTo T ar (k + 1) = tabTo T ar k ++ (bitsOf x).map (fun j => ((k : Int), digits j.toNat q)) from by
    rw [tabTo_snoc, <- hxe]
    unfold wordFacts
    rw [getD_at hlt, hqe]
    rfl)
   have HCOL := Lib.hid hcol
   clear hx hqe htr hxe hbe hcol
   go_upto_region 6 with fail
   rename World => wo
   go_loopw [5, 8] (fun o z wr => ∃ (y : Nat) (L : List LFact) (A' : Option Addr) (c' : Nat) (av : List Value), z = .int .u64 y /\ o = .slice A' L.length c' /\ L ++ (bitsOf y).map (fun j => ((k : Int), digits j.toNat q)) = tabTo T ar (k + 1) /\ y < 2 ^ 64 /\ ColRel w wr L A' c' av) (fun _ z _ => (intOf z).toNat)
   case atStart => exact ⟨x, tabTo T ar k, A', c', av, rfl, rfl, HF.out.symm, hx64, HCOL.out⟩
   case round =>
    obtain ⟨y, L, A', c', av, rfl, rfl, hL, hy, hcol⟩ := hrel
    have hlL : L.length <= 1536 := by
     have h1 := congrArg List.length hL
     rw [List.length_append] at h1
     have := tabTo_len T ar (k + 1)
     omega
    by_cases h0 : y = 0
    ·subst h0
     rw [bitsOf_zero, List.map_nil, List.append_nil] at hL
     have HE := Lib.hid (And.intro hL hcol)
     clear hL hcol
     go_wp2_with fail
     go_roundw
     case rel => exact ⟨k + 1, A', c', av, by omega, by go_num, by rw [HE.out.1], by rw [<- HE.out.1]; exact HE.out.2⟩
     case measure => simp [intOf]; omega
    ·obtain ⟨hst, hlt2⟩ := bitsOf_step h0 hy
     have ht : ((y : Int) != 0) = true := by simpa using h0
     have HY := Lib.hid (And.intro hy (And.intro h0 hlt2))
     have HB := Lib.hid (show (L ++ [((k : Int), digits (Lib.ctz 64 y) q)]) ++ (bitsOf (y &&& (y - 1))).map (fun j => ((k : Int), digits j.toNat q)) = tabTo T ar (k + 1) by
      rw [List.append_assoc, List.singleton_append, <- hL, hst, List.map_cons]; rfl)
     have hkk : Lib.ctz 64 y < 64 := (Lib.lowest_bit 64 y h0 hy).2
     have HA := Lib.hid (show bits BinOp.and IntKind.u64 (y : Int) (IntKind.u64.wrap ((y : Int) - 1)) = ((y &&& (y - 1) : Nat) : Int) by
      have e1 : IntKind.u64.wrap ((y : Int) - 1) = ((y - 1 : Nat) : Int) := by rw [IntKind.wrap_u64]; omega
      rw [e1, bits_and_u64_nat y (y - 1) (by simpa using hy) (by omega)])
     have HP := Lib.hid hcol
     have HTT := Lib.hid (HT.out.below hcol.below)
     have HCC := Lib.hid (fun (w : World) (hw : Tab w) => tz64_any y (by simpa using hy) h0 w hw)
     generalize Lib.ctz 64 y = kk at hst HB hkk HCC
     clear hst hlt2 hy h0 hL hcol
     go_wp2_with (first
      | (go_at_call 103; refine (HCC.out _ HTT.out).mono ?_; rintro e w' ⟨rfl, rfl⟩)
      | (go_at_call 102; refine (constantDigits_any kk q _ (by omega) hq2).mono ?_; rintro e w4 ⟨A4, c4, rfl, ho4, hb4⟩
         have H4 := Lib.hid (And.intro ho4 hb4)
         have hz5 := hb4.size
         have hz6 := HP.out.below.size
         clear ho4 hb4)
      | (at_builtin; refine wpList_append_lies _ rfl (.tmp 27) (.tmp 34) 29 rfl w.heap.size 66 i0 (.agg #[.int .i64 0, .slice none 0 0]) 2 32 Tryz.underlying29 hi0 hz0 hz1 hz2 rfl (by decide) (.slice A' L.length c') L.length (flat L av) rfl ?c1 ⟨w4.heap.size, 0, none⟩ 1 1 [.int .i64 k, .slice A4 q c4] rfl rfl (news2 _ _ _ _) ?c2 (by omega) (by unfold maxLen; omega) (by omega) ?c3 _ rfl ?_))
     case c1 => exact (ownsRow_below HP.out.own.row HP.out.own.lt H4.out.2 (Nat.le_refl _)).alloc _
     case c2 => intro u hu; simp at hu; rcases hu with rfl | rfl <;> rfl
     case c3 => simp; omega
     intro g2 cap w5 hown hg _ _
     obtain ⟨av', hcol, hlen⟩ := HP.out.push (f := ((k : Int), digits kk q)) (a := .slice A4 q c4) rfl H4.out.2 H4.out.1 hg hown
     have HC := Lib.hid (And.intro hcol hlen)
     obtain ⟨L2, hL2⟩ : ∃ L2, L2 = L ++ [((k : Int), digits kk q)] := ⟨_, rfl⟩
     have hle : L.length + 1 = L2.length := by rw [hL2]; simp
     rw [hle]
     have HC := Lib.hid (show ColRel w w5 L2 (some ⟨g2, 0, none⟩) cap av' by rw [hL2]; exact hcol)
     rw [<- hL2] at HB
     clear hcol hlen hown hg hle hL2
     go_wp2_with fail
     go_roundw
     case rel => exact ⟨y &&& (y - 1), L2, some ⟨g2, 0, none⟩, cap, av', by rw [HA.out], rfl, HB.out, Nat.lt_trans HY.out.2.2 HY.out.1, HC.out⟩
     case measure =>
      rw [HA.out]
      simp only [intOf]
      have := HY.out.2.2
      omega
  ·have HO := Lib.hid (show OwnFacts wr w.heap.size wr.heap.size (.slice A' (tabTo T ar k).length c') (tabTo T ar k) /\ tabTo T ar k = tabFacts T ar from ⟨hcol.own.own, by rw [show k = ar.length by omega]; rfl⟩)
   have hbe := hcol.below
   clear hcol
   rw [HO.out.2]
   go_wp2_with fail
   go_ret
   exact ⟨_, _, rfl, by rw [<- HO.out.2]; exact HO.out.1, hbe⟩
open Go.RowKit
open Go.RowKit
theorem iterL_asc {rs : List LRule} {F : List LFact} (h : Asc F) : ∀ n, Asc (iterL rs F n)
 | 0 => h
 | _ + 1 => setOf_asc _
open Go.RowKit
open Go.RowKit
set_option maxHeartbeats 4000000 in
set_option maxRecDepth 100000 in
theorem layeredGrowth_no (v v1 : Value) (p : LProg) (db : List LFact) (vg : Value) (w : World) (h : RdProg w w.heap.size v p) (h1 : RdFacts w w.heap.size v1 db) (hok : factsOk p.1 db = false) (hal : p.1.length <= 1048576) (hn : db.length <= 1048576) (ht : tot db <= 1048576) :
 Calls Tryz.prog 101 #[v, v1, vg] w fun e w' => e = .returned (.tuple #[.pointer none, .bool false]) /\ Below w.heap.size w w' := by
 have HP := Lib.hid h
 have H1 := Lib.hid h1
 obtain ⟨a, b, rfl, hA, hB⟩ := h
 have HA := Lib.hid hA
 obtain ⟨A, c2, rfl, _, _⟩ := hA
 obtain ⟨Ab, cb, rfl, _, _⟩ := hB
 obtain ⟨A1, c1, rfl, _, _⟩ := h1
 go_enter Tryz.func101, Tryz.ntmps101
 go_upto_region 1 with fail
 obtain ⟨w1, hw1⟩ : ∃ w1, w1 = w.alloc (Obj.cells #[Value.slice A p.1.length c2, Value.slice Ab p.2.length cb] 34) := ⟨_, rfl⟩
 have X1 : Blk w1 w.heap.size 34 #[.slice A p.1.length c2, .slice Ab p.2.length cb] := by rw [hw1]; exact Blk.new _ _ _
 have B1 : Below w.heap.size w w1 := by rw [hw1]; exact below1 _ _
 rw [<- hw1]
 clear hw1
 have x0 : w1.cell? ⟨w.heap.size, 0, none⟩ = some (.slice A p.1.length c2) := X1.cell 0
 have FO := implFactsOk_any (.slice A p.1.length c2) (.slice A1 db.length c1) p.1 db w1 (HA.out.on B1) (H1.out.on B1) hal hn ht
 rw [hok] at FO
 clear X1
 go_wp2_with fail
 refine FO.mono ?_
 rintro e w2 ⟨rfl, b2⟩
 have B2 := bthen B1 b2
 have s2 := B2.size
 clear x0 FO
 go_wp2_with fail
 refine bodyPost_ret (v := .tuple #[.pointer none, .bool false]) (by simp [results, Tryz.results101, go_sem]) rfl ?_
 exact ⟨rfl, B2⟩
set_option maxHeartbeats 4000000 in
set_option maxRecDepth 100000 in
theorem factsBy_any (v v1 : Value) (p : LProg) (db : List LFact) (Gs : List (List LRule)) (g0 c : Nat) (uv : Nat -> Value) (w : World) (h : RdProg w w.heap.size v p) (h1 : RdFacts w w.heap.size v1 db) (hrow : w.rowIs g0 32 Gs.length uv) (hrd : ∀ j (hj : j < Gs.length), RdRules w w.heap.size (uv j) Gs[j])
 (hfit : ∀ G ∈ Gs, (∀ r ∈ G, ruleFits p.1 r = true) /\ totR G <= 1048576 /\ G.length <= 1048576) (hal : p.1.length <= 1048576) (hn : db.length <= 1048576) (ht : tot db <= 1048576) (hgl : Gs.length <= 1048576) (hT : Tab w) (R : List LFact) (kb : Bool) (hkb : kb = factsOk p.1 db)
 (hR : kb = true -> Asc R /\ ∀ L0 L E, FitL p.1 L0 -> (∀ f, f ∈ L0 <-> f ∈ db) -> Chain p.1 Gs L0 [L0.length] L E -> ∀ f, f ∈ L <-> f ∈ R) (hRn : kb = false -> R = []) :
 Calls Tryz.prog 71 #[v, v1, .slice (some ⟨g0, 0, none⟩) Gs.length c] w fun e w' => ∃ A c, e = .returned (.tuple #[.slice A R.length c, .bool kb]) /\ OwnFacts w' w.heap.size w'.heap.size (.slice A R.length c) R /\ Below w.heap.size w w' := by
 have HT := Lib.hid hT
 have HP := Lib.hid h
 have H1 := Lib.hid h1
 have HRD := Lib.hid hrd
 have HROW := Lib.hid hrow
 have HF := Lib.hid hfit
 have hg0 := hrow.lt
 obtain ⟨a, b, rfl, hA, hB⟩ := h
 have HA := Lib.hid hA
 obtain ⟨A, c2, rfl, _, _⟩ := hA
 obtain ⟨Ab, cb, rfl, _, _⟩ := hB
 obtain ⟨A1, c1, rfl, _, _⟩ := h1
 clear hrow hrd hfit hT
 go_enter Tryz.func71, Tryz.ntmps71
 go_upto_region 1 with fail
 obtain ⟨w1, hw1⟩ : ∃ w1, w1 = w.alloc (Obj.cells #[Value.slice A p.1.length c2, Value.slice Ab p.2.length cb] 34) := ⟨_, rfl⟩
 have X1 : Blk w1 w.heap.size 34 #[.slice A p.1.length c2, .slice Ab p.2.length cb] := by rw [hw1]; exact Blk.new _ _ _
 have B1 : Below w.heap.size w w1 := by rw [hw1]; exact below1 _ _
 rw [<- hw1]
 clear hw1
 have x0 : w1.cell? ⟨w.heap.size, 0, none⟩ = some (.slice A p.1.length c2) := X1.cell 0
 have x1 : w1.cell? ⟨w.heap.size, 1, none⟩ = some (.slice Ab p.2.length cb) := X1.cell 1
 have HX1 := Lib.hid X1
 have HKB := Lib.hid hkb
 have HR := Lib.hid (And.intro hR hRn)
 clear X1 hkb hR hRn
 cases kb
 ·have e : R = [] := HR.out.2 (by first | rfl | trivial)
  go_wp2_with fail
  refine (layeredGrowth_no (.agg #[.slice A p.1.length c2, .slice Ab p.2.length cb]) (.slice A1 db.length c1) p db (.slice (some ⟨g0, 0, none⟩) Gs.length c) w1 (HP.out.on B1) (H1.out.on B1) HKB.out.symm hal hn ht).mono ?_
  rintro e2 w2 ⟨rfl, b2⟩
  go_wp2_with fail
  refine bodyPost_ret (v := .tuple #[.slice none 0 0, .bool false]) (by simp [results, Tryz.results71, go_sem]) rfl ?_
  rw [e]
  exact ⟨none, 0, rfl, ⟨_, .nil, World.ownsRow_nil _ _ _ _, fun g hg => by cases hg⟩, bthen B1 b2⟩
 ·have HL := Lib.hid (layeredGrowth_yes (.agg #[.slice A p.1.length c2, .slice Ab p.2.length cb]) (.slice A1 db.length c1) p db Gs g0 c uv w1 (HP.out.on B1) (H1.out.on B1) (rowIs_on HROW.out (B1.block g0 hg0)) (fun j hj => (HRD.out j hj).on B1) HF.out HKB.out.symm hal hn ht hgl)
  go_wp2_with fail
  refine HL.out.mono ?_
  rintro e2 w2 ⟨g, X, E, o, Rg, rfl, hga, hfx, ⟨L0, hl1, hl2, hch⟩, hgw, b2⟩
  have HGA := Lib.hid hga
  have HFX := Lib.hid hfx
  have HMM := Lib.hid (show tabFacts (tabWith zeroT (factsX X)) p.1 = R from by
   have ht := tabFacts_with (factsOk_parts HKB.out.symm).1 hfx.fits
   have h9 := HR.out.1 (by first | rfl | trivial)
   exact ht.1.unique h9.1 fun f => (ht.2 f).trans (h9.2 L0 _ E hl1 hl2 hch f))
  have B2 := Lib.hid (bthen B1 b2)
  have X2 := Lib.hid (HX1.out.below b2 HX1.out.lt)
  have HAR := Lib.hid (factsOk_parts HKB.out.symm).1
  have x20 : w2.cell? ⟨w.heap.size, 0, none⟩ = some (.slice A p.1.length c2) := X2.out.cell 0
  clear hga hfx hl1 hl2 hch b2 x0 x1
  go_upto_region 4 with fail
  obtain ⟨SS, hSS⟩ : ∃ SS : World -> Prop, SS = (fun W => Below w2.heap.size w2 W /\ W.cell? ⟨w.heap.size, 0, none⟩ = some (.slice A p.1.length c2)) := ⟨_, rfl⟩
  have HB := Lib.hid (show ∀ W, SS W -> (Below w2.heap.size w2 W /\ W.cell? ⟨w.heap.size, 0, none⟩ = some (.slice A p.1.length c2)) from by rw [hSS]; exact fun W hW => hW)
  have HS := Lib.hid (show ∀ W, Below w2.heap.size w2 W -> SS W from by
   rw [hSS]
   exact fun W hW => ⟨hW, (hW.cell (World.block_lt_of_cell? _ _ x20)).trans x20⟩)
  clear hSS
  have BB : Below w2.heap.size w2 w2.drew := (Below.refl _ _).drew
  have SB := HS.out _ BB
  have CT := Lib.hid (tabFactsG_any g (tabWith zeroT (factsX X)) (.slice A p.1.length c2) p.1 w2.drew (HGA.out.drew.tab) ((HA.out.on B2.out).on BB) HAR.out ((HT.out.below B2.out).below BB))
  rw [HMM.out] at CT
  refine wp_region_rel SS 5 8 (by kernel_rfl) rfl ?_
  refine wpAnyR_pure (i := 0) (oi := _) ?va0 rfl rfl (by kernel_rfl) (by decide) (fun _ _ _ h => h) rfl ?hya0 (fun _ => SB) ?resta0
  case hya0 => (intro W; go_simp; (try with_reducible rfl))
  try simp only [List.setIfInBounds_toArray, List.set_cons_zero, List.set_cons_succ]
  refine wpAnyR_pure (i := 1) (oi := _) ?va1 rfl rfl (by kernel_rfl) (by decide) (fun _ _ _ h => h) rfl ?hya1 (fun _ => SB) ?resta1
  case hya1 => (intro W; go_simp; (try with_reducible rfl))
  try simp only [List.setIfInBounds_toArray, List.set_cons_zero, List.set_cons_succ]
  refine wpAnyR_pure (i := 2) (oi := _) ?va2 rfl rfl (by kernel_rfl) (by decide) (fun _ _ _ h => h) rfl ?hya2 (fun _ => SB) ?resta2
  case hya2 => (intro W; go_simp; (try with_reducible rfl))
  try simp only [List.setIfInBounds_toArray, List.set_cons_zero, List.set_cons_succ]
  refine wpAnyR_pure (i := 3) (oi := _) ?va3 rfl rfl (by kernel_rfl) (by decide) (fun _ _ _ h => h) rfl ?hya3 (fun _ => SB) ?resta3
  case hya3 => (intro W; go_simp; (try with_reducible rfl))
  try simp only [List.setIfInBounds_toArray, List.set_cons_zero, List.set_cons_succ]
  refine wpAnyR_take (i := 4) (oi := _) ?va4 rfl rfl (by kernel_rfl) (fun _ _ _ h => h) rfl ?hya4 SB ?resta4
  case hya4 => (intro W hW; obtain ⟨_, E0⟩ := HB.out W hW; go_simp; (try with_reducible rfl))
  try simp only [List.setIfInBounds_toArray, List.set_cons_zero, List.set_cons_succ]
  refine wpAnyR_one (i := 5) (by kernel_rfl) rfl (fun K hK => ?_)
  try rw [if_pos (show Region.wanted _ _ = true from rfl)]
  go_simp
  refine CT.out.mono ?_
  rintro e5 w5 ⟨A5, c5, rfl, o5, b5⟩
  have H5 := Lib.hid (And.intro o5 b5)
  clear o5 b5
  refine hK.out _ _ (fun hf => absurd hf (by decide)) ?_
  clear hK K
  try simp only [List.setIfInBounds_toArray, List.set_cons_zero, List.set_cons_succ, Act.put]
  refine wpAnyR_one (i := 6) (by kernel_rfl) rfl (fun K hK => ?_)
  go_simp
  refine hK.out _ _ (fun hf => absurd hf (by decide)) ?_
  clear hK K
  try simp only [List.setIfInBounds_toArray, List.set_cons_zero, List.set_cons_succ, Act.put]
  refine wpAnyR_one (i := 7) (by kernel_rfl) rfl (fun K hK => ?_)
  go_simp
  refine hK.out _ _ (fun hf => absurd hf (by decide)) ?_
  clear hK K
  refine wpAnyR_done (by kernel_rfl) ?_
  clear SB HB HS
  go_wp2_with fail
  refine bodyPost_ret (v := .tuple #[.slice A5 R.length c5, .bool true]) (by simp [results, Tryz.results71, go_sem]) rfl ?_
  exact ⟨A5, c5, rfl, H5.out.1.mono (Nat.le_trans B2.out.size BB.size) (Nat.le_refl _), bthen B2.out (bthen BB H5.out.2)⟩
open Go.RowKit
def foldM (rs : List LRule) (ls : List Int) (D : List Int) (F : List LFact) : List LFact := D.foldl (fun F d => leastFrom (rulesAt rs ls d) (setOf F)) F
theorem foldM_snoc (rs : List LRule) (ls : List Int) (D : List Int) (d : Int) (F : List LFact) : foldM rs ls (D ++ [d]) F = leastFrom (rulesAt rs ls d) (setOf (foldM rs ls D F)) := by simp [foldM, List.foldl_append]
theorem foldM_asc (rs : List LRule) (ls : List Int) {F : List LFact} (h : Asc F) : ∀ D : List Int, Asc (foldM rs ls D F) := fun D => by
 induction D generalizing F with
 | nil => exact h
 | cons d D ih => exact ih (F := leastFrom (rulesAt rs ls d) (setOf F)) (iterL_asc (setOf_asc _) _)
theorem low_fold : ∀ (s : List Int) (low : Int), (low = -1 \/ 0 <= low) ->
 ((s.foldl lowF low = -1 /\ low = -1 /\ ∀ x ∈ s, x < 0) \/ (0 <= s.foldl lowF low /\ (s.foldl lowF low ∈ s \/ s.foldl lowF low = low) /\ (low = -1 \/ s.foldl lowF low <= low) /\ ∀ x ∈ s, 0 <= x -> s.foldl lowF low <= x))
 | [], low, h => by
  rcases h with h | h
  ·exact .inl ⟨h, h, fun x hx => by cases hx⟩
  ·exact .inr ⟨h, .inr rfl, .inr (Int.le_refl _), fun x hx => by cases hx⟩
 | y :: s, low, h => by
  have e : (y :: s).foldl lowF low = s.foldl lowF (lowF low y) := rfl
  have h2 : lowF low y = -1 \/ 0 <= lowF low y := by unfold lowF; split <;> omega
  have ih := low_fold s (lowF low y) h2
  rw [e]
  by_cases hy : 0 <= y /\ (low < 0 \/ y < low)
  ·have e2 : lowF low y = y := by unfold lowF; rw [if_pos hy]
   rw [e2] at ih ⊢
   rcases ih with ⟨_, h4, _⟩ | ⟨h3, h4, h5, h6⟩
   ·omega
   ·refine .inr ⟨h3, .inl ?_, ?_, fun x hx h0 => ?_⟩
    ·rcases h4 with h4 | h4
     ·exact List.mem_cons_of_mem _ h4
     ·rw [h4]; exact List.mem_cons_self
    ·omega
    ·rcases List.mem_cons.1 hx with rfl | hx
     ·omega
     ·exact h6 x hx h0
  ·have e2 : lowF low y = low := by unfold lowF; rw [if_neg hy]
   rw [e2] at ih ⊢
   rcases ih with ⟨h3, h4, h5⟩ | ⟨h3, h4, h5, h6⟩
   ·refine .inl ⟨h3, h4, fun x hx => ?_⟩
    rcases List.mem_cons.1 hx with rfl | hx
    ·omega
    ·exact h5 x hx
   ·refine .inr ⟨h3, ?_, h5, fun x hx h0 => ?_⟩
    ·rcases h4 with h4 | h4
     ·exact .inl (List.mem_cons_of_mem _ h4)
     ·exact .inr h4
    ·rcases List.mem_cons.1 hx with rfl | hx
     ·rcases h with h | h
      ·omega
      ·rcases h5 with h5 | h5 <;> omega
     ·exact h6 x hx h0
theorem lowOf_none {s : List Int} (h : ∀ x ∈ s, x < 0) : lowOf s = -1 := by
 rcases low_fold s (-1) (.inl rfl) with ⟨h1, _⟩ | ⟨h1, h2, _⟩
 ·exact h1
 ·rcases h2 with h2 | h2
  ·have := h _ h2; omega
  ·exact h2
theorem lowOf_is {s : List Int} {d : Int} (hd : d ∈ s) (h0 : 0 <= d) (hl : ∀ x ∈ s, 0 <= x -> d <= x) : lowOf s = d := by
 rcases low_fold s (-1) (.inl rfl) with ⟨_, _, h1⟩ | ⟨h1, h2, _, h4⟩
 ·have := h1 d hd; omega
 ·have h5 := h4 d hd h0
  rcases h2 with h2 | h2
  ·have := hl _ h2 h1
   unfold lowOf
   omega
  ·omega
theorem markOf_mem {s : List Int} {d x : Int} (h0 : 0 <= x) : x ∈ markOf s d <-> x ∈ s /\ x ≠ d := by
 unfold markOf
 rw [List.mem_map]
 constructor
 ·rintro ⟨y, hy, e⟩
  unfold markI at e
  split at e
  ·omega
  ·subst e
   exact ⟨hy, by assumption⟩
 ·rintro ⟨hx, hne⟩
  exact ⟨x, hx, by unfold markI; rw [if_neg hne]⟩
theorem modelS_fold (rs : List LRule) (ls : List Int) (most : Int) : ∀ (D : List Int) (n : Nat) (s : List Int) (F : List LFact), (∀ x, 0 <= x -> (x ∈ D <-> x ∈ s)) -> (∀ x ∈ D, 0 <= x /\ x <= most) -> D.Pairwise (· < ·) -> D.length < n -> modelS rs ls most n s F = foldM rs ls D F
 | [], n, s, F, h1, _, _, hn => by
  obtain ⟨n, rfl⟩ : ∃ m, n = m + 1 := ⟨n - 1, by simp at hn; omega⟩
  have hl : lowOf s = -1 := lowOf_none fun x hx => by
   by_cases h0 : 0 <= x
   ·have := (h1 x h0).2 hx
    cases this
   ·omega
  rw [modelS_stop (by rw [hl]; omega)]
  rfl
 | d :: D, n, s, F, h1, h2, h3, hn => by
  obtain ⟨n, rfl⟩ : ∃ m, n = m + 1 := ⟨n - 1, by simp at hn; omega⟩
  obtain ⟨h4, h5⟩ := List.pairwise_cons.1 h3
  have hd := h2 d List.mem_cons_self
  have hl : lowOf s = d := lowOf_is ((h1 d hd.1).1 List.mem_cons_self) hd.1 fun x hx h0 => by
   rcases List.mem_cons.1 ((h1 x h0).2 hx) with rfl | h6
   ·exact Int.le_refl _
   ·exact Int.le_of_lt (h4 x h6)
  rw [modelS_on (by rw [hl]; omega), hl]
  rw [modelS_fold rs ls most D n (markOf s d) _ (fun x h0 => ?_) (fun x hx => h2 x (List.mem_cons_of_mem _ hx)) h5 (by simp at hn; omega)]
  ·rfl
  ·rw [markOf_mem h0, <- h1 x h0, List.mem_cons]
   constructor
   ·intro h6
    have := h4 x h6
    exact ⟨.inr h6, by omega⟩
   ·rintro ⟨h6 | h6, h7⟩
    ·exact absurd h6 h7
    ·exact h6
theorem most_fold : ∀ (s : List Int) (m : Int), m <= s.foldl (fun m x => if m < x then x else m) m /\ ∀ x ∈ s, x <= s.foldl (fun m x => if m < x then x else m) m
 | [], m => ⟨Int.le_refl _, fun x hx => by cases hx⟩
 | y :: s, m => by
  obtain ⟨h1, h2⟩ := most_fold s (if m < y then y else m)
  have e : (y :: s).foldl (fun m x => if m < x then x else m) m = s.foldl (fun m x => if m < x then x else m) (if m < y then y else m) := rfl
  rw [e]
  have h3 : m <= (if m < y then y else m) /\ y <= (if m < y then y else m) := by split <;> omega
  refine ⟨by omega, fun x hx => ?_⟩
  rcases List.mem_cons.1 hx with rfl | hx
  ·omega
  ·exact h2 x hx
theorem byR_fold {p : LProg} {db : List LFact} {ls : List Int} (h : layersFit p ls = true) (h2 : factsOk p.1 db = true) : byR p db ls = foldM p.2 ls (layD ls) (setOf db) := by
 rw [(byR_yes h h2).1]
 have hp := fit_parts h
 refine modelS_fold _ _ _ _ _ _ _ (fun x _ => layD_mem) (fun x hx => ⟨hp.2.2 x (layD_mem.1 hx), (most_fold ls 0).2 x (layD_mem.1 hx)⟩) (layD_up ls) ?_
 have := layD_len ls
 omega
theorem chain_fold {ar : List Int} {rs : List LRule} {ls : List Int} (har : arityOk ar = true) (hr : ∀ r ∈ rs, ruleFits ar r = true) {Gs : List (List LRule)} {L0 L : List LFact} {E0 E : List Nat} (h : Chain ar Gs L0 E0 L E) (h0 : FitL ar L0) :
 ∀ (D : List Int) (F0 : List LFact), Gs = D.map (rulesAt rs ls) -> (∀ f, f ∈ L0 <-> f ∈ F0) -> FitL ar L /\ ∀ f, f ∈ L <-> f ∈ foldM rs ls D F0 := by
 induction h with
 | nil L E =>
  intro D F0 e hf
  have hd : D = [] := by
   rcases D with _ | ⟨d, D⟩
   ·rfl
   ·simp at e
  subst hd
  exact ⟨h0, hf⟩
 | @snoc gs rs' L0 L1 L2 E0 E1 E2 m h k ih =>
  intro D F0 e hf
  obtain ⟨D1, D2, rfl, e1, e2⟩ := List.map_eq_append_iff.1 e.symm
  obtain ⟨d, D3, rfl, e3, e4⟩ := List.map_eq_cons_iff.1 e2
  have hd3 : D3 = [] := by simpa using e4
  subst hd3
  obtain ⟨hfit, hm⟩ := ih h0 D1 F0 e1.symm hf
  rw [foldM_snoc]
  have hset : setOf (foldM rs ls D1 F0) = setOf L1 := (setOf_asc _).unique (setOf_asc _) fun f => by rw [setOf_mem, setOf_mem]; exact (hm f).symm
  refine ⟨k.fit, fun f => ?_⟩
  rw [k.now f, hset, e3]
  have hmm := roundsM_is har (fun r hr' => hr r (List.mem_filter.1 (by rw [<- e3] at hr'; exact hr')).1) (FitL.set hfit.fits) k.rounds
  unfold leastFrom
  rw [hmm]
open Go.RowKit
theorem Tryz.infoLink : (Tryz.prog.info? 173).map (fun i => (i.zero, i.size, i.bytes)) = some (some (.agg #[.int .i64 0, .int .i64 0, .bool false]), 3, 24) := by kernel_rfl
def flatK (ls : List LLink) : List Value := ls.flatMap fun l => [.int .i64 l.1, .int .i64 l.2.1, .bool l.2.2]
theorem flatK_snoc (ls : List LLink) (l : LLink) : flatK (ls ++ [l]) = flatK ls ++ [.int .i64 l.1, .int .i64 l.2.1, .bool l.2.2] := by simp [flatK]
theorem flatK_at : ∀ (ls : List LLink) (k : Nat) (hk : k < ls.length), (flatK ls)[k * 3]? = some (.int .i64 ls[k].1) /\ (flatK ls)[k * 3 + 1]? = some (.int .i64 ls[k].2.1) /\ (flatK ls)[k * 3 + 2]? = some (.bool ls[k].2.2)
 | [], k, hk => absurd hk (by simp)
 | l :: ls, 0, _ => by simp [flatK]
 | l :: ls, k + 1, hk => by
  have := flatK_at ls k (by simpa using hk)
  have e : flatK (l :: ls) = .int .i64 l.1 :: .int .i64 l.2.1 :: .bool l.2.2 :: flatK ls := rfl
  rw [e]
  simpa [Nat.add_mul] using this
def QLink (_ : World) (_ : Nat) (u0 u1 u2 : Value) (l : LLink) : Prop := u0 = .int .i64 l.1 /\ u1 = .int .i64 l.2.1 /\ u2 = .bool l.2.2
def RdLinks (w : World) (B : Nat) (v : Value) (ls : List LLink) : Prop := RdRow QLink w B v ls
def OwnLinks (w : World) (lo hi : Nat) (v : Value) (ls : List LLink) : Prop := w.ownsRow lo 173 3 v ls.length (flatK ls) /\ ∀ g, v.ownBlock = some g -> g < hi
section
variable {w w' : World} {lo hi lo' hi' B B' : Nat} {v : Value} {ls : List LLink}
theorem RdLinks.below (h : RdLinks w B v ls) (hb : Below B' w w') (hB : B <= B') : RdLinks w' B v ls := RdRow.below (Q := QLink) (by intro u0 u1 u2 x q; exact q) h hb hB
theorem RdLinks.more (h : RdLinks w B v ls) (hB : B <= B') : RdLinks w B' v ls := RdRow.more (Q := QLink) (by intro u0 u1 u2 x q; exact q) h hB
theorem RdLinks.on (h : RdLinks w w.heap.size v ls) (hb : Below w.heap.size w w') : RdLinks w' w'.heap.size v ls := (h.below hb (Nat.le_refl _)).more hb.size
theorem OwnLinks.rd (h : OwnLinks w lo hi v ls) : RdLinks w hi v ls := by
 obtain ⟨h, hlt⟩ := h
 have hcells := @World.ownsRow.cells w lo 173 3 v ls.length (flatK ls) h
 obtain ⟨hlen, h⟩ := h
 rcases h with ⟨rfl, h0⟩ | ⟨g, cap, cur, rfl, hb, hg, hn, hm, hs, ht⟩
 ·have : ls = [] := List.eq_nil_of_length_eq_zero h0
  subst this
  exact ⟨none, 0, rfl, by simp, fun h => absurd h (by simp)⟩
 ·refine ⟨_, cap, rfl, hn, fun _ => ⟨g, 0, rfl, hlt g rfl, fun k hk => ?_⟩⟩
  obtain ⟨c0, c1, c2⟩ := flatK_at ls k hk
  have d0 := hcells (g := g) rfl _ _ c0
  have d1 := hcells (g := g) rfl _ _ c1
  have d2 := hcells (g := g) rfl _ _ c2
  rw [Go.WideShapes.add_plain] at d0 d1 d2
  exact ⟨_, _, _, d0, d1, d2, rfl, rfl, rfl⟩
theorem OwnLinks.below (h : OwnLinks w lo hi v ls) (hb : Below B w w') (hB : hi <= B) : OwnLinks w' lo hi v ls := ⟨ownsRow_only h.1 fun g hg => hb.block g (by have := h.2 g hg; omega), h.2⟩
theorem OwnLinks.mono (h : OwnLinks w lo hi v ls) (h1 : lo' <= lo) (h2 : hi <= hi') : OwnLinks w lo' hi' v ls := by
 obtain ⟨⟨hlen, h⟩, hlt⟩ := h
 refine ⟨⟨hlen, ?_⟩, fun g hg => by have := hlt g hg; omega⟩
 rcases h with h | ⟨g, cap, cur, rfl, hbg, r⟩
 ·exact .inl h
 ·exact .inr ⟨g, cap, cur, rfl, by omega, r⟩
theorem OwnLinks.only (h : OwnLinks w lo hi v ls) (ho : Only lo' hi' w w') (hd : hi <= lo' \/ hi' <= lo) : OwnLinks w' lo hi v ls :=
 ⟨ownsRow_only h.1 fun g hg => ho.block g (h.1.lt g hg).2 (by have := h.1.lt g hg; have := h.2 g hg; omega), h.2⟩
theorem OwnLinks.form (h : OwnLinks w lo hi v ls) : ∃ A c, v = .slice A ls.length c := by
 rcases h.1.2 with ⟨rfl, h0⟩ | ⟨g, cap, _, rfl, _⟩
 ·exact ⟨none, 0, by rw [h0]⟩
 ·exact ⟨_, _, rfl⟩
end
structure ColK (lo : Nat) (wr : World) (ls : List LLink) (A : Option Addr) (c : Nat) : Prop where
 own : OwnLinks wr lo wr.heap.size (.slice A ls.length c) ls
theorem ColK.nil (lo : Nat) (w : World) : ColK lo w [] none 0 := ⟨⟨by simpa [flatK] using World.ownsRow_nil w lo 173 3, fun g hg => by cases hg⟩⟩
theorem ColK.empty {lo : Nat} {w : World} (h : lo <= w.heap.size) : ColK lo (w.alloc (.cells #[] 173)) [] (some ⟨w.heap.size, 0, none⟩) 0 :=
 ⟨⟨World.ownsRow_made w #[] 0 h (by decide) rfl, fun g hg => by simp [Value.ownBlock] at hg; subst hg; simp⟩⟩
theorem ColK.on {lo : Nat} {wr w2 : World} {ls : List LLink} {A : Option Addr} {c : Nat} (h : ColK lo wr ls A c) (hb : Below wr.heap.size wr w2) : ColK lo w2 ls A c := ⟨(h.own.below hb (Nat.le_refl _)).mono (Nat.le_refl _) hb.size⟩
theorem ColK.push {lo : Nat} {w4 : World} {ls : List LLink} {g cap : Nat} {l : LLink}
 (hown : w4.ownsRow lo 173 3 (.slice (some ⟨g, 0, none⟩) (ls.length + 1) cap) (ls.length + 1) (flatK ls ++ [.int .i64 l.1, .int .i64 l.2.1, .bool l.2.2])) :
 ColK lo w4 (ls ++ [l]) (some ⟨g, 0, none⟩) cap := by
 have hl : (ls ++ [l]).length = ls.length + 1 := by simp
 refine ⟨?_⟩
 rw [hl]
 refine ⟨?_, fun b hb' => (hown.lt b hb').2⟩
 rw [hl, flatK_snoc]
 exact hown
theorem news3 (w : World) (x y z : Value) (t : TypeId) (n : Nat) (hn : w.heap.size = n) : ∀ j u, [x, y, z][j]? = some u -> (w.alloc (.cells #[x, y, z] t)).cell? ((⟨n, 0, none⟩ : Addr).add j) = some u := hn ▸ World.news_of_block (cs := #[x, y, z]) (heap_alloc_new w _)
theorem int_ne_link {w : World} {base n lo hi g : Nat} {v a : Value} {zs : List Value} {xs : List Int} (hr : w.ownsRow base 173 3 v n zs) (hv : v.ownBlock = some g) (ha : OwnInts w lo hi a xs) : a.ownBlock ≠ some g := by
 rcases hr.2 with ⟨rfl, _⟩ | ⟨g1, c1, cur1, rfl, _, h1, _⟩
 ·cases hv
 ·have e : g1 = g := by simpa [Value.ownBlock] using hv
  subst e
  rcases ha.1.2 with ⟨rfl, _⟩ | ⟨g2, c2, cur2, rfl, _, h2, _⟩
  ·simp [Value.ownBlock]
  ·intro e
   have e : g2 = g1 := by simpa [Value.ownBlock] using e
   subst e
   rw [h1] at h2
   injection h2 with h2
   injection h2 with _ h2
   exact absurd h2 (by decide)
theorem ColK.more {lo : Nat} {w2 wr w4 : World} {ls : List LLink} {A : Option Addr} {c g cap lb hb : Nat} {l : LLink} {vb : Value} {xs : List Int} {o : Obj} (h : ColK lo wr ls A c) (hbe : Below lo w2 wr) (hlo : lo <= wr.heap.size) (hx : OwnInts wr lb hb vb xs)
 (hg : (wr.alloc o).grownBy w4 (Value.slice A ls.length c).ownBlock)
 (hown : w4.ownsRow lo 173 3 (.slice (some ⟨g, 0, none⟩) (ls.length + 1) cap) (ls.length + 1) (flatK ls ++ [.int .i64 l.1, .int .i64 l.2.1, .bool l.2.2])) :
 ColK lo w4 (ls ++ [l]) (some ⟨g, 0, none⟩) cap /\ Below lo w2 w4 /\ OwnInts w4 lb hb vb xs /\ wr.heap.size <= w4.heap.size := by
 have hg2 := grown_from_alloc hg
 exact ⟨ColK.push hown, hbe.grown hg2 hlo (fun k hk => (h.own.1.lt k hk).1), hx.kept fun b hb' => hg2.block b (hx.lt hb').2.2 (fun e => int_ne_link h.own.1 e.symm hx hb'), hg2.size⟩
end Go.Proofs.YtmnolnmpglanfaaGreatDoor
