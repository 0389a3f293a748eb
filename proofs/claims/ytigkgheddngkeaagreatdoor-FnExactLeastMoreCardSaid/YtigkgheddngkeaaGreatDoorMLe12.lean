/-
  Texts that the claim's last one imports, laid together: part 12 of 13. No condition of its own.
-/
import Derived.Test.YtigkgheddngkeaaGreatDoorChecked
import Derived.Deep.SlicePairs
import Derived.ProofKit
import Derived.OpenShut
import Derived.ChangeOld
import Derived.WalkKit
import Derived.Deep.Slices
import Derived.Deep.Fields
import Derived.ChangeSame
import Derived.Lib.SmallJoins
import Derived.KernelRfl
import Derived.Test.YtigkgheddngkeaaGreatDoorMLe1
import Derived.Test.YtigkgheddngkeaaGreatDoorMLe2
import Derived.Test.YtigkgheddngkeaaGreatDoorMLe6
import Derived.Test.YtigkgheddngkeaaGreatDoorMLe8
import Derived.Test.YtigkgheddngkeaaGreatDoorMLe9
import Derived.Test.YtigkgheddngkeaaGreatDoorMLe10
import Derived.Test.YtigkgheddngkeaaGreatDoorMLe11
/-
  growOn: rounds are brought as long as there are new facts.
-/
namespace Go.Proofs.YtigkgheddngkeaaGreatDoor
open Go.RowKit

def measE (g : Nat) (w : World) : Nat := match w.cell? ⟨g, 1, none⟩ with
  | some (.slice _ n _) => 2000 - n
  | _ => 0
theorem GrAt.meas {w : World} {g o e : Nat} {X : List FV} {E : List Nat} {R : Nat → Value} (h : GrAt w g X E o e R) : measE g w = 2000 - E.length := by
  obtain ⟨A, c, hv⟩ := h.raw.formE
  unfold measE
  rw [h.raw.cellEnds, hv]
/-- The last end, in memory. -/
theorem GrAt.lastEnd {w : World} {g o e m : Nat} {X : List FV} {E : List Nat} {R : Nat → Value} (h : GrAt w g X E o e R) (hm : E.length = m + 1) (hl : E.getLastD 0 = e) : ∃ b c, R 1 = .slice (some ⟨b, 0, none⟩) (m + 1) c ∧ w.cell? ⟨b, m, none⟩ = some (.int .i64 (e : Int)) ∧ m + 1 ≤ c := by
  have hcells := @World.ownsRow.cells w (g + 1) 3 1 _ E.length (E.map inN) h.raw.ends
  rcases h.raw.ends.2 with ⟨e1, e0⟩ | ⟨b, cap, cur, e1, hb, hg, hc, _⟩
  · omega
  · refine ⟨b, cap, by rw [e1, hm], ?_, by omega⟩
    have hget : (E.map inN)[m]? = some (.int .i64 (e : Int)) := by
      rw [List.getElem?_map]
      have : E[m]? = some e := by
        rw [← hl, List.getLastD_eq_getLast?, List.getLast?_eq_getElem?, hm]
        simp [show m < E.length by omega]
      rw [this]
      rfl
    have := hcells (g := b) (by rw [e1]; rfl) m _ hget
    rw [Go.WideShapes.add_plain, Nat.zero_add] at this
    exact this
/-- Solutions in new memory. -/
theorem SolOk.new {w w' : World} {g : Nat} {XL : List FV} {E : List Nat} {XP : Nat → List FV} {O La : Nat → Nat} {T : List Nat} {R : Nat → Value} {v : Value} {S : List (List Int)} (h : GrRaw w g XL E XP O La T R) (hr : OwnW w' w.heap.size w'.heap.size v S) : SolOk w' g R v S := by
  refine ⟨hr.rd, fun _ b hb => ?_⟩
  have h1 := hr.1.lt b hb
  have h2 := h.lt
  exact ⟨by omega, fun ⟨r, hr, e⟩ => by have := h.rowLt hr e; omega⟩

set_option maxHeartbeats 8000000 in
set_option maxRecDepth 100000 in
theorem growOn_any (g : Nat) (ar : List Int) (har : arityOk ar = true) (rs : List LRule) (hfit : ∀ r ∈ rs, ruleFits ar r = true) (hsz : totR rs ≤ 1048576) (hrl : rs.length ≤ 1048576) (X0 : List FV) (E0 : List Nat) (o0 e0 : Nat) (R0 : Nat → Value) (v2 : Value) (w : World)
    (h : GrAt w g X0 E0 o0 e0 R0) (hX : FitL ar (factsX X0)) (hr : RdRules w g v2 rs) (hl : E0.getLastD 0 = e0) (hne : E0 ≠ []) (hu : E0.Pairwise (· < ·)) (hub : ∀ x ∈ E0, x ≤ e0) (hh : ∀ f, f ∈ headsAll rs ((factsX X0).take e0) → f ∈ factsX X0) :
    Calls Tryz.prog 98 #[.pointer (some ⟨g, 0, none⟩), v2] w fun e' w' =>
      e' = .returned (.tuple #[]) ∧ ∃ X E o R m, GrAt w' g X E o X.length R ∧ KeepR g w R0 w' R ∧ GrewOn ar rs (factsX X0) E0 (factsX X) E m := by
  have H0 := Lib.hid h
  have HX := Lib.hid hX
  have HR := Lib.hid hr
  have HAR := Lib.hid har
  have HFIT := Lib.hid hfit
  have HNE := Lib.hid hne
  have HI := Lib.hid (OnInv.start hX hl (by rw [factsX_len]; exact h.eL) hh hu hub)
  have hgl := h.lt
  obtain ⟨A, c, rfl, hc, _⟩ := hr
  clear h hX har hfit hl hne hu hub hh
  go_enter Tryz.func98, Tryz.ntmps98
  go_wp2_with fail
  go_loopw [] (fun wr => ∃ (X : List FV) (E : List Nat) (o e : Nat) (R : Nat → Value) (j : Nat), GrAt wr g X E o e R ∧ KeepR g w R0 wr R ∧ OnInv ar rs (factsX X0) E0 (factsX X) E e j) (fun wr => measE g wr)
  case atStart => exact ⟨X0, E0, o0, e0, R0, 0, H0.out, KeepR.refl _ _ _, HI.out⟩
  case round =>
    obtain ⟨X, E, o, e, R, j, hat, hkp, hinv⟩ := hrel
    have HAT := Lib.hid hat
    have HKP := Lib.hid hkp
    have HINV := Lib.hid hinv
    have hglr := hat.lt
    have hXle : X.length ≤ 1536 := hat.few HAR.out hinv.fit
    have hEle : E.length ≤ 1537 := by
      have h1 := ends_few hinv.up hinv.ub
      have h2 := hinv.le
      rw [factsX_len] at h2
      omega
    have hEpos : 0 < E.length := by
      obtain ⟨M, e1, _⟩ := hinv.ends
      have := List.length_pos_iff.2 HNE.out
      rw [e1, List.length_append]
      omega
    obtain ⟨m, hm⟩ : ∃ m, E.length = m + 1 := ⟨E.length - 1, by omega⟩
    obtain ⟨A0, c0, hv0⟩ := hat.raw.formL
    obtain ⟨b1, c1, hv1, hce, hc1⟩ := hat.lastEnd hm hinv.last
    have q0 : wr.cell? ⟨g, 0, none⟩ = some (.slice A0 X.length c0) := by rw [← hv0]; exact hat.raw.cellList
    have q1 : wr.cell? ⟨g, 1, none⟩ = some (.slice (some ⟨b1, 0, none⟩) (m + 1) c1) := by rw [← hv1]; exact hat.raw.cellEnds
    have d0 : wr.drew.cell? ⟨g, 0, none⟩ = some (.slice A0 X.length c0) := q0
    have d1 : wr.drew.cell? ⟨g, 1, none⟩ = some (.slice (some ⟨b1, 0, none⟩) (m + 1) c1) := q1
    have d2 : wr.drew.cell? ⟨b1, m, none⟩ = some (.int .i64 (e : Int)) := hce
    have HMM := Lib.hid hm
    have hm5 : m ≤ 1536 := by omega
    have hm6 : (m : Int) ≤ 1536 := by omega
    have hm7 : (m : Int) < (m : Int) + 1 := by omega
    clear hat hkp hinv hv0 hv1 hm
    by_cases hlt : e < X.length
    · have hdl : decide (e < X.length) = true := decide_eq_true hlt
      go_upto_region 0 with fail
      go_big_region
      obtain ⟨wo, rfl⟩ : ∃ wo, wo = wr := ⟨_, rfl⟩
      have CE := Lib.hid (endRound_any g X E o e R wo.drew HAT.out.drew (by omega) (by omega))
      have HAL := Lib.hid (show ∀ k (hk : k < rs.length), ((0 ≤ rs[k].1.1 ∧ rs[k].1.1 < 24) ∧ rs[k].1.2.all termOk = true ∧ rs[k].1.2.length ≤ 2 ∧ rs[k].2.length ≤ 4 ∧ ∀ l ∈ rs[k].2, 0 ≤ l.2.1 ∧ l.2.1 < 24) ∧ SafeB rs[k].2 ∧ totL rs[k].2 ≤ 1048576 from fun k hk => by
        have h1 := HFIT.out _ (List.getElem_mem hk)
        have h2 := sz_le_totR rs k hk
        unfold szR at h2
        exact ⟨rule_parts HAR.out h1, SafeB.of (fits_body h1), by omega⟩)
      clear q0 q1 d0 d1 d2
      go_wp2_with (go_at_call 148; refine CE.out.mono ?_; rintro e1 w2 ⟨rfl, R1, h1, k1⟩; have H1 := Lib.hid (And.intro h1 k1); clear h1 k1)
      have hg2 : g < w2.heap.size := H1.out.1.lt
      go_loopw [28] (fun i wr => ∃ (k : Nat) (X2 : List FV) (R2 : Nat → Value), k ≤ rs.length ∧ i = .int .i64 k ∧ GrAt wr g X2 (E ++ [X.length]) e X.length R2 ∧ KeepR g w2 R1 wr R2 ∧ Brings (factsX X) (fun f => ∃ r ∈ rs.take k, ∃ b, FreshSol r.2 (agesOf (factsX X) e X.length r.2) b ∧ f = hdOf' r b) (factsX X2)) (fun i _ => rs.length - (intOf i).toNat)
      case atStart => exact ⟨0, X, R1, Nat.zero_le _, rfl, H1.out.1, KeepR.refl _ _ _, Brings.refl HINV.out.fit.nodup fun f hf => by obtain ⟨r, hr, _⟩ := hf; simp at hr⟩
      case round =>
        obtain ⟨k, X2, R2, hk, rfl, hat, hkp, hbr⟩ := hrel
        have HAT2 := Lib.hid hat
        have HKP2 := Lib.hid (show KeepR g w2 R1 wr R2 from hkp)
        have HBR := Lib.hid hbr
        have hfold : KeepR g w R0 wr R2 := (HKP.out.drew.trans H1.out.2).trans hkp
        have HFOLD := Lib.hid hfold
        have hglr2 := hat.lt
        have HFX := Lib.hid (show FitL ar (factsX X2) from hbr.fit HINV.out.fit fun f ⟨r, hr, b, hb, e2⟩ => by
          rw [e2]
          have hfr := HFIT.out r (List.mem_of_mem_take hr)
          exact sol_fits HAR.out hfr (HINV.out.fit.take X.length) ((fresh_or_old (L := factsX X) HAT.out.eL (SafeB.of (fits_body hfr))).2 hb))
        have HAGE := Lib.hid (show ∀ ls, agesOf (factsX X2) e X.length ls = agesOf (factsX X) e X.length ls from fun ls => by
          obtain ⟨⟨N, e2⟩, _⟩ := hbr
          rw [e2]
          exact agesOf_pre (by rw [factsX_len]; exact HAT.out.eL) (by rw [factsX_len]; exact Nat.le_refl _) ls)
        have hX2le : X2.length ≤ 1536 := hat.few HAR.out HFX.out
        clear hat hkp hbr hfold
        by_cases hltk : k < rs.length
        · obtain ⟨b, o3, u0, u1, u2, rfl, hbB, k0, k1, k2, rfl, q1, q2⟩ := (HR.out.below HFOLD.out.below (Nat.le_refl _)).get hltk
          obtain ⟨A3, c3, rfl, hc3, _⟩ := id q1
          obtain ⟨A4, c4, rfl, hc4, _⟩ := id q2
          have hall := HAL.out k hltk
          have HTK := Lib.hid (take_snoc rs k hltk)
          obtain ⟨r, hre⟩ : ∃ r, r = rs[k] := ⟨_, rfl⟩
          have HRF := Lib.hid (show ruleFits ar r = true by rw [hre]; exact HFIT.out _ (List.getElem_mem hltk))
          rw [← hre] at k0 k1 k2 hc3 hc4 q1 q2 hall HTK
          obtain ⟨⟨⟨hp0, hp1⟩, htm, hal2, hlen4, hpl⟩, hsafe, htotl⟩ := hall
          obtain ⟨p, hpe⟩ : ∃ p : Nat, r.1.1 = (p : Int) := ⟨r.1.1.toNat, by omega⟩
          rw [hpe] at k0
          have HQ1 := Lib.hid q1
          have HQ2 := Lib.hid q2
          have HPE := Lib.hid hpe
          have HSF := Lib.hid (And.intro htm (And.intro hpl hsafe))
          clear hre q1 q2 hpe htm hpl hsafe hp0 hp1
          go_upto_region 5 with fail
          obtain ⟨bx, hbx⟩ : ∃ bx, bx = wr.heap.size := ⟨_, rfl⟩
          obtain ⟨wv, hwv⟩ : ∃ wv, wv = wr.alloc (Obj.cells #[Value.int IntKind.i64 (p : Int), Value.slice A3 r.1.2.length c3, Value.slice A4 r.2.length c4] 124) := ⟨_, rfl⟩
          have bv : Below wr.heap.size wr wv := by rw [hwv]; exact below1 _ _
          have z7 : Blk wv bx 124 #[.int .i64 p, .slice A3 r.1.2.length c3, .slice A4 r.2.length c4] := by rw [hwv, hbx]; exact Blk.new _ _ _
          have HBV := Lib.hid bv
          have hgv : g < wv.heap.size := Nat.lt_of_lt_of_le hglr2 bv.size
          rw [← hwv]
          rw [show (wr.heap.size : Nat) = bx from hbx.symm]
          have q0 : wv.cell? ⟨bx, 0, none⟩ = some (.int .i64 p) := z7.cell 0
          have q1 : wv.cell? ⟨bx, 1, none⟩ = some (.slice A3 r.1.2.length c3) := z7.cell 1
          have q2 : wv.cell? ⟨bx, 2, none⟩ = some (.slice A4 r.2.length c4) := z7.cell 2
          clear hwv k0 k1 k2 bv z7 hbx
          obtain ⟨SS, hSS⟩ : ∃ SS : World → Prop, SS = (fun W => W.cell? ⟨bx, 0, none⟩ = some (.int .i64 p) ∧ W.cell? ⟨bx, 1, none⟩ = some (.slice A3 r.1.2.length c3) ∧ W.cell? ⟨bx, 2, none⟩ = some (.slice A4 r.2.length c4)) := ⟨_, rfl⟩
          have HB := Lib.hid (show ∀ W, SS W → (W.cell? ⟨bx, 0, none⟩ = some (.int .i64 p) ∧ W.cell? ⟨bx, 1, none⟩ = some (.slice A3 r.1.2.length c3) ∧ W.cell? ⟨bx, 2, none⟩ = some (.slice A4 r.2.length c4)) from by rw [hSS]; exact fun W hW => hW)
          have HS := Lib.hid (show ∀ W, Below wv.heap.size wv W → SS W from by
            rw [hSS]
            exact fun W hW => ⟨(hW.cell (World.block_lt_of_cell? _ _ q0)).trans q0, (hW.cell (World.block_lt_of_cell? _ _ q1)).trans q1, (hW.cell (World.block_lt_of_cell? _ _ q2)).trans q2⟩)
          clear hSS
          have BB : Below wv.heap.size wv wv.drew := (Below.refl _ _).drew
          have SB := HS.out _ BB
          have HGV := Lib.hid (show GrAt wv.drew g X2 (E ++ [X.length]) e X.length R2 from (HAT2.out.on HBV.out).drew)
          have HRL := Lib.hid (show RdLits wv.drew g (.slice A4 r.2.length c4) r.2 from (HQ2.out.below HBV.out (Nat.le_of_lt hglr2)).below BB (Nat.le_of_lt hgv))
          have HRI := Lib.hid (show RdInts wv.drew g (.slice A3 r.1.2.length c3) r.1.2 from (HQ1.out.below HBV.out (Nat.le_of_lt hglr2)).below BB (Nat.le_of_lt hgv))
          clear q0 q1 q2
          refine wp_region_rel SS 10 11 (by kernel_rfl) rfl ?_
          refine wpAnyR_pure (i := 0) (oi := _) ?va0 rfl rfl (by kernel_rfl) (by decide) (fun _ _ _ h => h) rfl ?hya0 (fun _ => SB) ?resta0
          case hya0 => (intro W; go_simp; (try with_reducible rfl))
          try simp only [List.setIfInBounds_toArray, List.set_cons_zero, List.set_cons_succ]
          refine wpAnyR_pure (i := 1) (oi := _) ?va1 rfl rfl (by kernel_rfl) (by decide) (fun _ _ _ h => h) rfl ?hya1 (fun _ => SB) ?resta1
          case hya1 => (intro W; go_simp; (try with_reducible rfl))
          try simp only [List.setIfInBounds_toArray, List.set_cons_zero, List.set_cons_succ]
          refine wpAnyR_take (i := 2) (oi := _) ?va2 rfl rfl (by kernel_rfl) (fun _ _ _ h => h) rfl ?hya2 SB ?resta2
          case hya2 => (intro W hW; obtain ⟨E0, E1, E2⟩ := HB.out W hW; go_simp; (try with_reducible rfl))
          try simp only [List.setIfInBounds_toArray, List.set_cons_zero, List.set_cons_succ]
          refine wpAnyR_pure (i := 3) (oi := _) ?va3 rfl rfl (by kernel_rfl) (by decide) (fun _ _ _ h => h) rfl ?hya3 (fun _ => SB) ?resta3
          case hya3 => (intro W; go_simp; (try with_reducible rfl))
          try simp only [List.setIfInBounds_toArray, List.set_cons_zero, List.set_cons_succ]
          refine wpAnyR_take (i := 4) (oi := _) ?va4 rfl rfl (by kernel_rfl) (fun _ _ _ h => h) rfl ?hya4 SB ?resta4
          case hya4 => (intro W hW; obtain ⟨E0, E1, E2⟩ := HB.out W hW; go_simp; (try with_reducible rfl))
          try simp only [List.setIfInBounds_toArray, List.set_cons_zero, List.set_cons_succ]
          refine wpAnyR_pure (i := 5) (oi := _) ?va5 rfl rfl (by kernel_rfl) (by decide) (fun _ _ _ h => h) rfl ?hya5 (fun _ => SB) ?resta5
          case hya5 => (intro W; go_simp; (try with_reducible rfl))
          try simp only [List.setIfInBounds_toArray, List.set_cons_zero, List.set_cons_succ]
          refine wpAnyR_pure (i := 6) (oi := _) ?va6 rfl rfl (by kernel_rfl) (by decide) (fun _ _ _ h => h) rfl ?hya6 (fun _ => SB) ?resta6
          case hya6 => (intro W; go_simp; (try with_reducible rfl))
          try simp only [List.setIfInBounds_toArray, List.set_cons_zero, List.set_cons_succ]
          refine wpAnyR_take (i := 7) (oi := _) ?va7 rfl rfl (by kernel_rfl) (fun _ _ _ h => h) rfl ?hya7 SB ?resta7
          case hya7 => (intro W hW; obtain ⟨E0, E1, E2⟩ := HB.out W hW; go_simp; (try with_reducible rfl))
          try simp only [List.setIfInBounds_toArray, List.set_cons_zero, List.set_cons_succ]
          refine wpAnyR_one (i := 8) (by kernel_rfl) rfl (fun K hK => ?_)
          try rw [if_pos (show Region.wanted _ _ = true from rfl)]
          go_simp
          refine (byAge_any g X2 (E ++ [X.length]) e X.length R2 (.slice A4 r.2.length c4) r.2 wv.drew HGV.out (HRL.out.more (Nat.le_of_lt hgv)) HSF.out.2.1 (by omega) (by omega)).mono ?_
          rintro e8 W8 ⟨g8, us8, rfl, hg8, at8, rd8, b8⟩
          have H8 := Lib.hid (And.intro at8 (And.intro rd8 b8))
          clear at8 rd8 b8
          have S8 := HS.out W8 (bthen BB H8.out.2.2)
          refine hK.out _ _ (fun _ => S8) ?_
          clear hK K
          try simp only [List.setIfInBounds_toArray, List.set_cons_zero, List.set_cons_succ, Act.put]
          refine wpAnyR_one (i := 9) (by kernel_rfl) rfl (fun K hK => ?_)
          try rw [if_pos (show Region.wanted _ _ = true from rfl)]
          go_simp
          have hz8 : wv.drew.heap.size ≤ W8.heap.size := H8.out.2.2.size
          refine (solveFresh_any g8 r.2.length r.2 (agesOf (factsX X2) e X.length r.2) us8 (.slice A4 r.2.length c4) W8 ((HRL.out.below H8.out.2.2 (Nat.le_of_lt hgv)).more (Nat.le_trans (Nat.le_of_lt hgv) hz8)) H8.out.1 (H8.out.2.1.more hz8) (agesOf_len _ _ _ _) HSF.out.2.2 htotl (agesOf_ok (HFX.out.fewL HAR.out))).mono ?_
          rintro e9 W9 ⟨A9, c9, S, rfl, ow9, b9, mem9, len9, _⟩
          have H9 := Lib.hid (And.intro ow9 (And.intro b9 mem9))
          clear ow9 b9 mem9
          have BB9 : Below wv.drew.heap.size wv.drew W9 := bthen H8.out.2.2 H9.out.2.1
          have S9 := HS.out W9 (bthen BB BB9)
          refine hK.out _ _ (fun _ => S9) ?_
          clear hK K
          try simp only [List.setIfInBounds_toArray, List.set_cons_zero, List.set_cons_succ, Act.put]
          refine wpAnyR_one (i := 10) (by kernel_rfl) rfl (fun K hK => ?_)
          try rw [if_pos (show Region.wanted _ _ = true from rfl)]
          go_simp
          have HSOL := Lib.hid (show ∀ b, b ∈ S → SolOf ((factsX X).take X.length) r.2 b ∧ FreshSol r.2 (agesOf (factsX X) e X.length r.2) b from fun b hb => by
            have h1 := (H9.out.2.2 b).1 hb
            rw [HAGE.out] at h1
            exact ⟨(fresh_or_old (L := factsX X) HAT.out.eL HSF.out.2.2).2 h1, h1⟩)
          refine (bringHeads_any g ar HAR.out X2 (E ++ [X.length]) e X.length R2 p r.1.2 (.slice A3 r.1.2.length c3) (.slice A9 S.length c9) S W9 (HGV.out.on BB9) HFX.out (HRI.out.below BB9 (Nat.le_of_lt hgv)) HSF.out.1 hal2 (SolOk.new (HGV.out.on H8.out.2.2).raw H9.out.1) (fun b hb => (HSOL.out b hb).1.1) (fun b hb => by
            have h1 := sol_fits HAR.out HRF.out (HINV.out.fit.take X.length) (HSOL.out b hb).1
            unfold hdOf' at h1
            rw [HPE.out] at h1
            exact h1) (by omega)).mono ?_
          rintro e10 W10 ⟨rfl, X3, R3, g10, k10, br10⟩
          have H10 := Lib.hid (And.intro g10 (And.intro k10 br10))
          clear g10 k10 br10
          refine hK.out _ _ (fun hf => absurd hf (by decide)) ?_
          clear hK K
          try simp only [List.setIfInBounds_toArray, List.set_cons_zero, List.set_cons_succ, Act.put]
          refine wpAnyR_done (by kernel_rfl) ?_
          have HFIN := Lib.hid (show KeepR g w2 R1 W10 R3 ∧ Brings (factsX X) (fun f => ∃ r ∈ rs.take (k + 1), ∃ b, FreshSol r.2 (agesOf (factsX X) e X.length r.2) b ∧ f = hdOf' r b) (factsX X3) from by
            refine ⟨(HKP2.out.trans (KeepR.of_below (bthen HBV.out (bthen BB BB9)) (Nat.le_of_lt hglr2))).trans H10.out.2.1, HBR.out.trans H10.out.2.2 fun f => ?_⟩
            rw [HTK.out]
            constructor
            · rintro ⟨r', hr', b', hb', e'⟩
              rcases List.mem_append.1 hr' with hr' | hr'
              · exact .inl ⟨r', hr', b', hb', e'⟩
              · rw [List.mem_singleton.1 hr'] at hb' e'
                refine .inr ⟨b', (H9.out.2.2 b').2 (by rw [HAGE.out]; exact hb'), ?_⟩
                rw [e']
                unfold hdOf'
                rw [HPE.out]
            · rintro (⟨r', hr', b', hb', e'⟩ | ⟨b', hb', e'⟩)
              · exact ⟨r', List.mem_append_left _ hr', b', hb', e'⟩
              · refine ⟨r, List.mem_append_right _ (List.mem_singleton_self _), b', (HSOL.out b' hb').2, ?_⟩
                rw [e']
                unfold hdOf'
                rw [HPE.out])
          clear S9 S8 SB HB HS BB BB9
          go_wp2_with fail
          go_roundw
          case rel => exact ⟨k + 1, X3, R3, by omega, by go_num, H10.out.1, HFIN.out.1, HFIN.out.2⟩
          case measure => simp [intOf]; omega
        · obtain rfl : k = rs.length := by omega
          have HFIN := Lib.hid (show OnInv ar rs (factsX X0) E0 (factsX X2) (E ++ [X.length]) X.length (j + 1) from by
            have h1 := HBR.out
            rw [List.take_length] at h1
            have h2 := HINV.out.step HFIT.out HX.out (by rw [factsX_len]; exact hlt) HFX.out (by rw [factsX_len]; exact h1)
            rw [factsX_len] at h2
            exact h2)
          go_wp2_with fail
          go_roundw
          case rel => exact ⟨X2, E ++ [X.length], e, X.length, R2, j + 1, HAT2.out, HFOLD.out, HFIN.out⟩
          case measure =>
            rw [HAT2.out.meas, HAT.out.meas, List.length_append, List.length_singleton]
            omega
    · have hdl : decide (e < X.length) = false := decide_eq_false hlt
      go_upto_region 0 with fail
      go_big_region
      go_wp2_with fail
      go_end0
      have he : e = X.length := by have := HAT.out.eL; omega
      obtain ⟨mm, hmm⟩ := HINV.out.done HFIT.out HX.out (by rw [factsX_len]; exact he)
      exact ⟨rfl, X, E, o, R, mm, by rw [← he]; exact HAT.out.drew, HKP.out.drew, hmm⟩

end Go.Proofs.YtigkgheddngkeaaGreatDoor
/-
  growBy: what rules say at once of all facts, and then round by round.
-/
namespace Go.Proofs.YtigkgheddngkeaaGreatDoor
open Go.RowKit

theorem allQ_pre {L N : List LFact} {e : Nat} (he : e ≤ L.length) (ls : List LLit) : allQ (L ++ N) e ls = allQ L e ls := by
  unfold allQ
  rw [List.take_append_of_le_length he]
theorem allQ_len (L : List LFact) (e : Nat) (ls : List LLit) : (allQ L e ls).length = ls.length := by simp [allQ]

set_option maxHeartbeats 8000000 in
set_option maxRecDepth 100000 in
theorem growBy_any (g : Nat) (ar : List Int) (har : arityOk ar = true) (rs : List LRule) (hfit : ∀ r ∈ rs, ruleFits ar r = true) (hsz : totR rs ≤ 1048576) (hrl : rs.length ≤ 1048576) (X0 : List FV) (E0 : List Nat) (o0 : Nat) (R0 : Nat → Value) (v2 : Value) (w : World)
    (h : GrAt w g X0 E0 o0 X0.length R0) (hX : FitL ar (factsX X0)) (hr : RdRules w g v2 rs) (hl : E0.getLastD 0 = X0.length) (hne : E0 ≠ []) (hu : E0.Pairwise (· < ·)) (hub : ∀ x ∈ E0, x ≤ X0.length) :
    Calls Tryz.prog 102 #[.pointer (some ⟨g, 0, none⟩), v2] w fun e' w' =>
      e' = .returned (.tuple #[]) ∧ ∃ X E o R m, GrAt w' g X E o X.length R ∧ KeepR g w R0 w' R ∧ GrewBy ar rs (factsX X0) E0 (factsX X) E m := by
  have H0 := Lib.hid h
  have HX := Lib.hid hX
  have HR := Lib.hid hr
  have HAR := Lib.hid har
  have HFIT := Lib.hid hfit
  have HE := Lib.hid (And.intro hl (And.intro hne (And.intro hu hub)))
  have hgl := h.lt
  have HAL := Lib.hid (show ∀ k (hk : k < rs.length), ((0 ≤ rs[k].1.1 ∧ rs[k].1.1 < 24) ∧ rs[k].1.2.all termOk = true ∧ rs[k].1.2.length ≤ 2 ∧ rs[k].2.length ≤ 4 ∧ ∀ l ∈ rs[k].2, 0 ≤ l.2.1 ∧ l.2.1 < 24) ∧ SafeB rs[k].2 ∧ totL rs[k].2 ≤ 1048576 from fun k hk => by
    have h1 := hfit _ (List.getElem_mem hk)
    have h2 := sz_le_totR rs k hk
    unfold szR at h2
    exact ⟨rule_parts har h1, SafeB.of (fits_body h1), by omega⟩)
  obtain ⟨A, c, rfl, hc, _⟩ := hr
  have hX0le : X0.length ≤ 1536 := h.few har hX
  clear h hX har hfit hl hne hu hub
  go_enter Tryz.func102, Tryz.ntmps102
  go_wp2_with fail
  go_loopw [8] (fun i wr => ∃ (k : Nat) (X2 : List FV) (R2 : Nat → Value), k ≤ rs.length ∧ i = .int .i64 k ∧ GrAt wr g X2 E0 o0 X0.length R2 ∧ KeepR g w R0 wr R2 ∧ Brings (factsX X0) (fun f => ∃ r ∈ rs.take k, ∃ b, SolOf (factsX X0) r.2 b ∧ f = hdOf' r b) (factsX X2)) (fun i _ => rs.length - (intOf i).toNat)
  case atStart => exact ⟨0, X0, R0, Nat.zero_le _, rfl, H0.out, KeepR.refl _ _ _, Brings.refl HX.out.nodup fun f hf => by obtain ⟨r, hr, _⟩ := hf; simp at hr⟩
  case round =>
    obtain ⟨k, X2, R2, hk, rfl, hat, hkp, hbr⟩ := hrel
    have HAT2 := Lib.hid hat
    have HKP2 := Lib.hid (show KeepR g w R0 wr R2 from hkp)
    have HBR := Lib.hid hbr
    have hglr2 := hat.lt
    have HFX := Lib.hid (show FitL ar (factsX X2) from hbr.fit HX.out fun f ⟨r, hr, b, hb, e2⟩ => by
      rw [e2]
      exact sol_fits HAR.out (HFIT.out r (List.mem_of_mem_take hr)) HX.out hb)
    have HAGE := Lib.hid (show ∀ ls, allQ (factsX X2) X0.length ls = allQ (factsX X0) X0.length ls from fun ls => by
      obtain ⟨⟨N, e2⟩, _⟩ := hbr
      rw [e2]
      exact allQ_pre (by rw [factsX_len]; exact Nat.le_refl _) ls)
    have hX2le : X2.length ≤ 1536 := hat.few HAR.out HFX.out
    clear hat hkp hbr
    by_cases hltk : k < rs.length
    · obtain ⟨b, o3, u0, u1, u2, rfl, hbB, k0, k1, k2, rfl, q1, q2⟩ := (HR.out.below HKP2.out.below (Nat.le_refl _)).get hltk
      obtain ⟨A3, c3, rfl, hc3, _⟩ := id q1
      obtain ⟨A4, c4, rfl, hc4, _⟩ := id q2
      have hall := HAL.out k hltk
      have HTK := Lib.hid (take_snoc rs k hltk)
      obtain ⟨r, hre⟩ : ∃ r, r = rs[k] := ⟨_, rfl⟩
      have HRF := Lib.hid (show ruleFits ar r = true by rw [hre]; exact HFIT.out _ (List.getElem_mem hltk))
      rw [← hre] at k0 k1 k2 hc3 hc4 q1 q2 hall HTK
      obtain ⟨⟨⟨hp0, hp1⟩, htm, hal2, hlen4, hpl⟩, hsafe, htotl⟩ := hall
      obtain ⟨p, hpe⟩ : ∃ p : Nat, r.1.1 = (p : Int) := ⟨r.1.1.toNat, by omega⟩
      rw [hpe] at k0
      have HQ1 := Lib.hid q1
      have HQ2 := Lib.hid q2
      have HPE := Lib.hid hpe
      have HSF := Lib.hid (And.intro htm (And.intro hpl hsafe))
      clear hre q1 q2 hpe htm hpl hsafe hp0 hp1
      go_upto_region 3 with fail
      obtain ⟨bx, hbx⟩ : ∃ bx, bx = wr.heap.size := ⟨_, rfl⟩
      obtain ⟨wv, hwv⟩ : ∃ wv, wv = wr.alloc (Obj.cells #[Value.int IntKind.i64 (p : Int), Value.slice A3 r.1.2.length c3, Value.slice A4 r.2.length c4] 124) := ⟨_, rfl⟩
      have bv : Below wr.heap.size wr wv := by rw [hwv]; exact below1 _ _
      have z7 : Blk wv bx 124 #[.int .i64 p, .slice A3 r.1.2.length c3, .slice A4 r.2.length c4] := by rw [hwv, hbx]; exact Blk.new _ _ _
      have HBV := Lib.hid bv
      have hgv : g < wv.heap.size := Nat.lt_of_lt_of_le hglr2 bv.size
      rw [← hwv]
      rw [show (wr.heap.size : Nat) = bx from hbx.symm]
      have q0 : wv.cell? ⟨bx, 0, none⟩ = some (.int .i64 p) := z7.cell 0
      have q1 : wv.cell? ⟨bx, 1, none⟩ = some (.slice A3 r.1.2.length c3) := z7.cell 1
      have q2 : wv.cell? ⟨bx, 2, none⟩ = some (.slice A4 r.2.length c4) := z7.cell 2
      clear hwv k0 k1 k2 bv z7 hbx
      obtain ⟨SS, hSS⟩ : ∃ SS : World → Prop, SS = (fun W => W.cell? ⟨bx, 0, none⟩ = some (.int .i64 p) ∧ W.cell? ⟨bx, 1, none⟩ = some (.slice A3 r.1.2.length c3) ∧ W.cell? ⟨bx, 2, none⟩ = some (.slice A4 r.2.length c4)) := ⟨_, rfl⟩
      have HB := Lib.hid (show ∀ W, SS W → (W.cell? ⟨bx, 0, none⟩ = some (.int .i64 p) ∧ W.cell? ⟨bx, 1, none⟩ = some (.slice A3 r.1.2.length c3) ∧ W.cell? ⟨bx, 2, none⟩ = some (.slice A4 r.2.length c4)) from by rw [hSS]; exact fun W hW => hW)
      have HS := Lib.hid (show ∀ W, Below wv.heap.size wv W → SS W from by
        rw [hSS]
        exact fun W hW => ⟨(hW.cell (World.block_lt_of_cell? _ _ q0)).trans q0, (hW.cell (World.block_lt_of_cell? _ _ q1)).trans q1, (hW.cell (World.block_lt_of_cell? _ _ q2)).trans q2⟩)
      clear hSS
      have BB : Below wv.heap.size wv wv.drew := (Below.refl _ _).drew
      have SB := HS.out _ BB
      have HGV := Lib.hid (show GrAt wv.drew g X2 E0 o0 X0.length R2 from (HAT2.out.on HBV.out).drew)
      have HRL := Lib.hid (show RdLits wv.drew g (.slice A4 r.2.length c4) r.2 from (HQ2.out.below HBV.out (Nat.le_of_lt hglr2)).below BB (Nat.le_of_lt hgv))
      have HRI := Lib.hid (show RdInts wv.drew g (.slice A3 r.1.2.length c3) r.1.2 from (HQ1.out.below HBV.out (Nat.le_of_lt hglr2)).below BB (Nat.le_of_lt hgv))
      clear q0 q1 q2
      refine wp_region_rel SS 8 9 (by kernel_rfl) rfl ?_
      refine wpAnyR_pure (i := 0) (oi := _) ?va0 rfl rfl (by kernel_rfl) (by decide) (fun _ _ _ h => h) rfl ?hya0 (fun _ => SB) ?resta0
      case hya0 => (intro W; go_simp; (try with_reducible rfl))
      try simp only [List.setIfInBounds_toArray, List.set_cons_zero, List.set_cons_succ]
      refine wpAnyR_pure (i := 1) (oi := _) ?va1 rfl rfl (by kernel_rfl) (by decide) (fun _ _ _ h => h) rfl ?hya1 (fun _ => SB) ?resta1
      case hya1 => (intro W; go_simp; (try with_reducible rfl))
      try simp only [List.setIfInBounds_toArray, List.set_cons_zero, List.set_cons_succ]
      refine wpAnyR_take (i := 2) (oi := _) ?va2 rfl rfl (by kernel_rfl) (fun _ _ _ h => h) rfl ?hya2 SB ?resta2
      case hya2 => (intro W hW; obtain ⟨E0', E1, E2⟩ := HB.out W hW; go_simp; (try with_reducible rfl))
      try simp only [List.setIfInBounds_toArray, List.set_cons_zero, List.set_cons_succ]
      refine wpAnyR_pure (i := 3) (oi := _) ?va3 rfl rfl (by kernel_rfl) (by decide) (fun _ _ _ h => h) rfl ?hya3 (fun _ => SB) ?resta3
      case hya3 => (intro W; go_simp; (try with_reducible rfl))
      try simp only [List.setIfInBounds_toArray, List.set_cons_zero, List.set_cons_succ]
      refine wpAnyR_pure (i := 4) (oi := _) ?va4 rfl rfl (by kernel_rfl) (by decide) (fun _ _ _ h => h) rfl ?hya4 (fun _ => SB) ?resta4
      case hya4 => (intro W; go_simp; (try with_reducible rfl))
      try simp only [List.setIfInBounds_toArray, List.set_cons_zero, List.set_cons_succ]
      refine wpAnyR_take (i := 5) (oi := _) ?va5 rfl rfl (by kernel_rfl) (fun _ _ _ h => h) rfl ?hya5 SB ?resta5
      case hya5 => (intro W hW; obtain ⟨E0', E1, E2⟩ := HB.out W hW; go_simp; (try with_reducible rfl))
      try simp only [List.setIfInBounds_toArray, List.set_cons_zero, List.set_cons_succ]
      refine wpAnyR_one (i := 6) (by kernel_rfl) rfl (fun K hK => ?_)
      try rw [if_pos (show Region.wanted _ _ = true from rfl)]
      go_simp
      refine (allQuestions_any g X2 E0 o0 X0.length R2 (.slice A4 r.2.length c4) r.2 wv.drew HGV.out (HRL.out.more (Nat.le_of_lt hgv)) HSF.out.2.1 (by omega) (by omega)).mono ?_
      rintro e8 W8 ⟨g8, us8, rfl, hg8, at8, rd8, b8⟩
      have H8 := Lib.hid (And.intro at8 (And.intro rd8 (And.intro b8 hg8)))
      clear at8 rd8 b8 hg8
      have S8 := HS.out W8 (bthen BB H8.out.2.2.1)
      refine hK.out _ _ (fun _ => S8) ?_
      clear hK K
      try simp only [List.setIfInBounds_toArray, List.set_cons_zero, List.set_cons_succ, Act.put]
      refine wpAnyR_one (i := 7) (by kernel_rfl) rfl (fun K hK => ?_)
      try rw [if_pos (show Region.wanted _ _ = true from rfl)]
      go_simp
      have hz8 : wv.drew.heap.size ≤ W8.heap.size := H8.out.2.2.1.size
      have CS := solve_any g8 r.2.length wv.drew.heap.size us8 (allQ (factsX X2) X0.length r.2) W8 H8.out.1 H8.out.2.1 H8.out.2.2.2 (by rw [allQ_len]; omega) (allQ_ok HSF.out.2.2 (HFX.out.fewL HAR.out) htotl) (allQ_safe HSF.out.2.2)
      rw [allQ_len] at CS
      refine CS.mono ?_
      clear CS
      rintro e9 W9 ⟨A9, c9, S, rfl, ow9, on9, is9⟩
      have hl9 : S.length ≤ 65536 := binds_len is9.1 is9.ok
      have H9 := Lib.hid (And.intro ow9 (And.intro on9 is9))
      clear ow9 on9 is9
      have BB9 : Below wv.drew.heap.size wv.drew W9 := Only.then_ H8.out.2.2.1 H9.out.2.1 H8.out.2.2.2
      have S9 := HS.out W9 (bthen BB BB9)
      refine hK.out _ _ (fun _ => S9) ?_
      clear hK K
      try simp only [List.setIfInBounds_toArray, List.set_cons_zero, List.set_cons_succ, Act.put]
      refine wpAnyR_one (i := 8) (by kernel_rfl) rfl (fun K hK => ?_)
      try rw [if_pos (show Region.wanted _ _ = true from rfl)]
      go_simp
      have HSOL := Lib.hid (show ∀ b, b ∈ S ↔ SolOf (factsX X0) r.2 b from fun b => by
        have h1 := (allQ_is (by rw [← HAGE.out]; exact H9.out.2.2)).2 b
        rw [List.take_of_length_le (by rw [factsX_len]; exact Nat.le_refl _)] at h1
        exact h1)
      refine (bringHeads_any g ar HAR.out X2 E0 o0 X0.length R2 p r.1.2 (.slice A3 r.1.2.length c3) (.slice A9 S.length c9) S W9 (HGV.out.on BB9) HFX.out (HRI.out.below BB9 (Nat.le_of_lt hgv)) HSF.out.1 hal2 (SolOk.new (HGV.out.on H8.out.2.2.1).raw H9.out.1) (fun b hb => ((HSOL.out b).1 hb).1) (fun b hb => by
        have h1 := sol_fits HAR.out HRF.out HX.out ((HSOL.out b).1 hb)
        unfold hdOf' at h1
        rw [HPE.out] at h1
        exact h1) (by omega)).mono ?_
      rintro e10 W10 ⟨rfl, X3, R3, g10, k10, br10⟩
      have H10 := Lib.hid (And.intro g10 (And.intro k10 br10))
      clear g10 k10 br10
      refine hK.out _ _ (fun hf => absurd hf (by decide)) ?_
      clear hK K
      try simp only [List.setIfInBounds_toArray, List.set_cons_zero, List.set_cons_succ, Act.put]
      refine wpAnyR_done (by kernel_rfl) ?_
      have HFIN := Lib.hid (show KeepR g w R0 W10 R3 ∧ Brings (factsX X0) (fun f => ∃ r ∈ rs.take (k + 1), ∃ b, SolOf (factsX X0) r.2 b ∧ f = hdOf' r b) (factsX X3) from by
        refine ⟨(HKP2.out.trans (KeepR.of_below (bthen HBV.out (bthen BB BB9)) (Nat.le_of_lt hglr2))).trans H10.out.2.1, HBR.out.trans H10.out.2.2 fun f => ?_⟩
        rw [HTK.out]
        constructor
        · rintro ⟨r', hr', b', hb', e'⟩
          rcases List.mem_append.1 hr' with hr' | hr'
          · exact .inl ⟨r', hr', b', hb', e'⟩
          · rw [List.mem_singleton.1 hr'] at hb' e'
            refine .inr ⟨b', (HSOL.out b').2 hb', ?_⟩
            rw [e']
            unfold hdOf'
            rw [HPE.out]
        · rintro (⟨r', hr', b', hb', e'⟩ | ⟨b', hb', e'⟩)
          · exact ⟨r', List.mem_append_left _ hr', b', hb', e'⟩
          · refine ⟨r, List.mem_append_right _ (List.mem_singleton_self _), b', (HSOL.out b').1 hb', ?_⟩
            rw [e']
            unfold hdOf'
            rw [HPE.out])
      clear S9 S8 SB HB HS BB BB9
      go_wp2_with fail
      go_roundw
      case rel => exact ⟨k + 1, X3, R3, by omega, by go_num, H10.out.1, HFIN.out.1, HFIN.out.2⟩
      case measure => simp [intOf]; omega
    · obtain rfl : k = rs.length := by omega
      have HBT := Lib.hid (show Brings (factsX X0) (fun f => f ∈ headsAll rs (factsX X0)) (factsX X2) from by
        have h1 := HBR.out
        rw [List.take_length] at h1
        exact h1.cast fun f => (headsAll_sol HFIT.out HX.out.consts HX.out.nodup f).symm)
      have CO := Lib.hid (growOn_any g ar HAR.out rs HFIT.out hsz hrl X2 E0 o0 X0.length R2 _ wr HAT2.out HFX.out (HR.out.below HKP2.out.below (Nat.le_refl _)) HE.out.1 HE.out.2.1 HE.out.2.2.1 HE.out.2.2.2 (fun f hf => by
        have h1 := (brings_pre HBT.out).1
        rw [factsX_len] at h1
        rw [h1] at hf
        exact (HBT.out.2.2 f).2 (.inr hf)))
      go_wp2_with (go_at_call 98; refine CO.out.mono ?_; rintro e1 w2 ⟨rfl, X, E, o, R, m, h1, k1, gr1⟩; have H1 := Lib.hid (And.intro h1 (And.intro k1 gr1)); clear h1 k1 gr1)
      go_end0
      obtain ⟨m', hm'⟩ := GrewBy.of HFIT.out HX.out HFX.out (by rw [factsX_len]; exact HE.out.1) HBT.out.1 HBT.out.2.2 H1.out.2.2
      exact ⟨rfl, X, E, o, R, m', H1.out.1, HKP2.out.trans H1.out.2.1, hm'⟩

end Go.Proofs.YtigkgheddngkeaaGreatDoor
/-
  growthFrom: the facts that are given, as those of one round.
-/
namespace Go.Proofs.YtigkgheddngkeaaGreatDoor
open Go.RowKit

def nilV : Value := .slice none 0 0
def grZ : List Value := [nilV, nilV] ++ List.replicate 24 (wdN 0) ++ (List.range 24).flatMap fun _ => [nilV, inN 0, inN 0]
theorem Tryz.grZero : Tryz.zeroCells88 = grZ.toArray := by kernel_rfl
theorem grZ_tab : ∀ p, p < 24 → grZ[2 + p]? = some (wdN (zeroT.getD p 0))
  | 0, _ => rfl
  | 1, _ => rfl
  | 2, _ => rfl
  | 3, _ => rfl
  | 4, _ => rfl
  | 5, _ => rfl
  | 6, _ => rfl
  | 7, _ => rfl
  | 8, _ => rfl
  | 9, _ => rfl
  | 10, _ => rfl
  | 11, _ => rfl
  | 12, _ => rfl
  | 13, _ => rfl
  | 14, _ => rfl
  | 15, _ => rfl
  | 16, _ => rfl
  | 17, _ => rfl
  | 18, _ => rfl
  | 19, _ => rfl
  | 20, _ => rfl
  | 21, _ => rfl
  | 22, _ => rfl
  | 23, _ => rfl
  | _ + 24, h => absurd h (by omega)
theorem grZ_pred : ∀ p, p < 24 → grZ[26 + p * 3]? = some nilV
  | 0, _ => rfl
  | 1, _ => rfl
  | 2, _ => rfl
  | 3, _ => rfl
  | 4, _ => rfl
  | 5, _ => rfl
  | 6, _ => rfl
  | 7, _ => rfl
  | 8, _ => rfl
  | 9, _ => rfl
  | 10, _ => rfl
  | 11, _ => rfl
  | 12, _ => rfl
  | 13, _ => rfl
  | 14, _ => rfl
  | 15, _ => rfl
  | 16, _ => rfl
  | 17, _ => rfl
  | 18, _ => rfl
  | 19, _ => rfl
  | 20, _ => rfl
  | 21, _ => rfl
  | 22, _ => rfl
  | 23, _ => rfl
  | _ + 24, h => absurd h (by omega)
theorem grZ_old : ∀ p, p < 24 → grZ[26 + p * 3 + 1]? = some (inN 0)
  | 0, _ => rfl
  | 1, _ => rfl
  | 2, _ => rfl
  | 3, _ => rfl
  | 4, _ => rfl
  | 5, _ => rfl
  | 6, _ => rfl
  | 7, _ => rfl
  | 8, _ => rfl
  | 9, _ => rfl
  | 10, _ => rfl
  | 11, _ => rfl
  | 12, _ => rfl
  | 13, _ => rfl
  | 14, _ => rfl
  | 15, _ => rfl
  | 16, _ => rfl
  | 17, _ => rfl
  | 18, _ => rfl
  | 19, _ => rfl
  | 20, _ => rfl
  | 21, _ => rfl
  | 22, _ => rfl
  | 23, _ => rfl
  | _ + 24, h => absurd h (by omega)
theorem grZ_lat : ∀ p, p < 24 → grZ[26 + p * 3 + 2]? = some (inN 0)
  | 0, _ => rfl
  | 1, _ => rfl
  | 2, _ => rfl
  | 3, _ => rfl
  | 4, _ => rfl
  | 5, _ => rfl
  | 6, _ => rfl
  | 7, _ => rfl
  | 8, _ => rfl
  | 9, _ => rfl
  | 10, _ => rfl
  | 11, _ => rfl
  | 12, _ => rfl
  | 13, _ => rfl
  | 14, _ => rfl
  | 15, _ => rfl
  | 16, _ => rfl
  | 17, _ => rfl
  | 18, _ => rfl
  | 19, _ => rfl
  | 20, _ => rfl
  | 21, _ => rfl
  | 22, _ => rfl
  | 23, _ => rfl
  | _ + 24, h => absurd h (by omega)
theorem grZ_cells : GrCells grZ.toArray (fun _ => nilV) zeroT (fun _ => 0) (fun _ => 0) where
  size := rfl
  list := rfl
  ends := rfl
  tab p hp := by rw [List.getElem?_toArray]; exact grZ_tab p hp
  pred p hp := by rw [List.getElem?_toArray]; exact grZ_pred p hp
  old p hp := by rw [List.getElem?_toArray]; exact grZ_old p hp
  lat p hp := by rw [List.getElem?_toArray]; exact grZ_lat p hp
theorem cntX_nil (n : Nat) : cntX [] n = fun _ => 0 := by
  funext p
  simp [cntX, factsX, ofP]
theorem ofX_nil : ofX [] = fun _ => [] := by
  funext p
  simp [ofX]
theorem GrAt.zero (w : World) : GrAt (w.alloc (Obj.cells Tryz.zeroCells88 88)) w.heap.size [] [] 0 0 (fun _ => nilV) := by
  refine ⟨?_, Nat.le_refl _, Nat.le_refl _⟩
  rw [cntX_nil, ofX_nil]
  refine ⟨⟨_, Blk.new _ _ _, by rw [Tryz.grZero]; exact grZ_cells⟩, by simp [tabWith, factsX, zeroT], by rw [show tabWith zeroT (factsX []) = zeroT from rfl]; exact zeroT_lt, World.ownsRow_nil _ _ _ _, World.ownsRow_nil _ _ _ _, fun _ _ => World.ownsRow_nil _ _ _ _, (fun _ _ _ _ _ b hb => by cases hb), (fun x hx => by cases hx), (fun _ _ x hx => by cases hx)⟩

set_option maxHeartbeats 4000000 in
set_option maxRecDepth 100000 in
theorem growthFrom_any (ar : List Int) (har : arityOk ar = true) (v : Value) (fs : List LFact) (w : World) (hr : RdFacts w w.heap.size v fs) (hf : ∀ f ∈ fs, factFits ar f = true) (hn : fs.length ≤ 1048576) :
    Calls Tryz.prog 96 #[v] w fun e' w' =>
      ∃ X R, e' = .returned (.pointer (some ⟨w.heap.size, 0, none⟩)) ∧ GrAt w' w.heap.size X [X.length] 0 X.length R ∧ Below w.heap.size w w' ∧ FitL ar (factsX X) ∧ ∀ f, f ∈ factsX X ↔ f ∈ fs := by
  obtain ⟨g, hg⟩ : ∃ g, g = w.heap.size := ⟨_, rfl⟩
  obtain ⟨w1, hw1⟩ : ∃ w1, w1 = w.alloc (Obj.cells Tryz.zeroCells88 88) := ⟨_, rfl⟩
  have HAR := Lib.hid har
  have HF := Lib.hid hf
  have HX0 := Lib.hid (show FitL ar (factsX []) from ⟨List.nodup_nil, fun f hf => by cases hf⟩)
  have B1 := Lib.hid (show Below g w w1 by rw [hw1, hg]; exact below1 _ _)
  have H1 := Lib.hid (show GrAt w1 g [] [] 0 0 (fun _ => nilV) by rw [hw1, hg]; exact GrAt.zero w)
  have CB := Lib.hid (bring_any g ar har [] [] 0 0 (fun _ => nilV) v fs w1 H1.out HX0.out (by
    have h1 := hr.below (show Below w.heap.size w w1 by rw [hw1]; exact below1 _ _) (Nat.le_refl _)
    rw [hg]; exact h1) hf hn)
  have HW1 := Lib.hid hw1
  rw [← hg]
  clear hr hf har hw1
  go_enter Tryz.func96, Tryz.ntmps96
  go_upto_region 2 with fail
  rw [← HW1.out]
  rw [show (w.heap.size : Nat) = g from hg.symm]
  have HG := Lib.hid hg
  clear hg
  go_wp2_with (first
    | (go_at_call 97; refine CB.out.mono ?_; rintro e2 w2 ⟨rfl, X, R, h2, k2, br2⟩
       have H2 := Lib.hid (And.intro h2 (And.intro k2 br2))
       have HFX := Lib.hid (br2.fit HX0.out HF.out)
       have hfew := h2.few HAR.out HFX.out
       have CE := Lib.hid (endRound_any g X [] 0 0 R w2 h2 (by omega) (by simp))
       clear h2 k2 br2)
    | (go_at_call 148; refine CE.out.mono ?_; rintro e3 w3 ⟨rfl, R3, h3, k3⟩
       have H3 := Lib.hid (And.intro h3 k3)
       clear h3 k3))
  go_ret
  exact ⟨X, R3, rfl, H3.out.1, B1.out.trans (H2.out.2.1.below.trans H3.out.2.below), HFX.out, fun f => by rw [H2.out.2.2.2.2 f]; simp [factsX]⟩

end Go.Proofs.YtigkgheddngkeaaGreatDoor
/-
  The walk of the program's constantDigits, and AllFacts' plain mathematics.
-/
namespace Go.Proofs.YtigkgheddngkeaaGreatDoor
open Go.RowKit

/-- The digits of n in base six, so many places. -/
def digits (n p : Nat) : List Int := (List.range p).map fun j : Nat => ((n / 6 ^ (p - 1 - j) % 6 : Nat) : Int)
theorem digits_length (n p : Nat) : (digits n p).length = p := by simp [digits]
theorem div_pow (n k : Nat) : n / 6 ^ k / 6 = n / 6 ^ (k + 1) := by rw [Nat.div_div_eq_div_mul, Nat.pow_succ]
def digitCell (n p m j : Nat) : Value := if m ≤ j then .int .i64 ((n / 6 ^ (p - 1 - j) % 6 : Nat) : Int) else .int .i64 0

set_option maxHeartbeats 1000000 in
theorem constantDigits_six (n p : Nat) (w : World) (hn : n ≤ 1048576) (hp : p ≤ 6) :
    Calls Tryz.prog 105 #[.int .i64 n, .int .i64 p] w fun e w' => ∃ A' c', e = .returned (.slice A' p c') ∧ OwnInts w' w.heap.size w'.heap.size (.slice A' p c') (digits n p) ∧ Below w.heap.size w w' := by
  have hmk := run_make_row' (P := Tryz.prog) 22 3 (.int .i64 0) 8 Tryz.underlying22 Tryz.infoInt rfl .i64 .i64 p (by omega) (by omega)
  go_enter Tryz.func105, Tryz.ntmps105
  go_wp2_with (fail)
  go_loopw [0, 6] (fun v i wr => ∃ (m : Nat) (q : Nat), m ≤ p ∧ i = .int .i64 ((m : Int) - 1) ∧ v = .int .i64 q ∧ q = n / 6 ^ (p - m) ∧ wr.rowIs w.heap.size 3 p (digitCell n p m) ∧ Below w.heap.size w wr) (fun _ i _ => (intOf i + 1).toNat)
  case atStart => exact ⟨p, n, Nat.le_refl _, rfl, rfl, by simp, (World.rowIs_made w _ _ _).congr (fun j hj => by simp [digitCell]; omega), below1 _ _⟩
  case round =>
    obtain ⟨m, q, hm, rfl, rfl, hq, hrow, hbe⟩ := hrel
    have hqn : q ≤ n := by rw [hq]; exact Nat.div_le_self _ _
    rcases Nat.eq_zero_or_pos m with h0 | h0
    · have HO := Lib.hid (show OwnInts wr w.heap.size wr.heap.size (.slice (some ⟨w.heap.size, 0, none⟩) p p) (digits n p) by
        have h1 : wr.rowIs w.heap.size 3 (digits n p).length (fun j => .int .i64 ((digits n p).getD j 0)) := by
          rw [digits_length]
          refine hrow.congr (fun j hj => ?_)
          simp [digitCell, digits, h0, hj]
        have h2 := OwnInts.of_rowIs h1 (Nat.le_refl _) h1.lt (by rw [digits_length]; unfold maxLen; omega)
        rwa [digits_length] at h2)
      have hneg : ¬ (0 : Int) ≤ (m : Int) - 1 := by omega
      clear hrow hq h0
      go_wp2_with (fail)
      go_ret
      exact ⟨_, _, rfl, HO.out, hbe⟩
    · obtain ⟨k, rfl⟩ : ∃ k, m = k + 1 := ⟨m - 1, by omega⟩
      have hkp : k < p := by omega
      have c1 := hrow.cell hkp
      have f1 := hrow.frozen k
      have c1' : ∃ u, wr.cell? ⟨w.heap.size, k, none⟩ = some (.int .i64 u) := by
        rw [c1]
        unfold digitCell
        split <;> exact ⟨_, rfl⟩
      obtain ⟨u, c2⟩ := c1'
      have e1 : ((k + 1 : Nat) : Int) - 1 = (k : Int) := by omega
      have hrw := (hrow.set k (.int .i64 ((q % 6 : Nat) : Int))).congr (g := digitCell n p k) (fun j hj => by
        by_cases e : j = k
        · subst e
          rw [if_pos rfl, hq, show p - (j + 1) = p - 1 - j by omega]
          simp [digitCell]
        · rw [if_neg e]
          unfold digitCell
          by_cases h2 : k ≤ j
          · rw [if_pos (by omega), if_pos h2]
          · rw [if_neg (by omega), if_neg h2])
      have HR := Lib.hid hrw
      have HQ := Lib.hid (show q / 6 = n / 6 ^ (p - k) by rw [hq, div_pow]; congr 2; omega)
      rw [e1]
      clear hrow hq c1 hrw e1
      go_wp2_with (fail)
      go_roundw
      case rel => exact ⟨k, q / 6, by omega, rfl, by simp, HQ.out, by simpa using HR.out, hbe.setCell (Nat.le_refl _) _⟩
      case measure => simp [intOf]

theorem constantDigits_any (n p : Nat) (w : World) (hn : n ≤ 1048576) (hp : p ≤ 2) :
    Calls Tryz.prog 105 #[.int .i64 n, .int .i64 p] w fun e w' => ∃ A' c', e = .returned (.slice A' p c') ∧ OwnInts w' w.heap.size w'.heap.size (.slice A' p c') (digits n p) ∧ Below w.heap.size w w' := constantDigits_six n p w hn (by omega)

theorem pow6 : (6 : Nat) ^ 0 = 1 ∧ (6 : Nat) ^ 1 = 6 ∧ (6 : Nat) ^ 2 = 36 := by decide
/-- All facts of a predicate with so many places. -/
def allOk (p q : Int) : Bool := decide (0 ≤ p ∧ p ≤ 23) && decide (0 ≤ q ∧ q ≤ 2)
def allTo (p : Int) (q : Nat) (m : Nat) : List LFact := (List.range m).map fun i => (p, digits i q)
def allFacts (p q : Int) : List LFact := if allOk p q then allTo p q.toNat (6 ^ q.toNat) else []
theorem allTo_length (p : Int) (q m : Nat) : (allTo p q m).length = m := by simp [allTo]
theorem allTo_snoc (p : Int) (q m : Nat) : allTo p q (m + 1) = allTo p q m ++ [(p, digits m q)] := by simp [allTo, List.range_succ]
theorem allTo_tot (p : Int) (q : Nat) : ∀ m, tot (allTo p q m) = m * q
  | 0 => by simp [allTo, tot]
  | m + 1 => by rw [allTo_snoc, tot_append, allTo_tot p q m, tot_cons]; simp [tot, digits_length, Nat.add_mul]

end Go.Proofs.YtigkgheddngkeaaGreatDoor
/-
  The facts of a table, ascending: plain mathematics.
-/
namespace Go.Proofs.YtigkgheddngkeaaGreatDoor
open Go.RowKit

/-- The facts of a table's word; the facts of a table. -/
def wordFacts (p x q : Nat) : List LFact := (bitsOf x).map fun j => ((p : Int), digits j.toNat q)
def tabFacts (T : List Nat) (ar : List Int) : List LFact := (List.range ar.length).flatMap fun p => wordFacts p (T.getD p 0) (ar.getD p 0).toNat

theorem bitsOf_mem {x : Nat} {i : Int} : i ∈ bitsOf x ↔ ∃ j : Nat, j < 64 ∧ x.testBit j = true ∧ (j : Int) = i := by
  unfold bitsOf
  rw [List.mem_map]
  constructor
  · rintro ⟨j, hj, e⟩
    rw [List.mem_filter, List.mem_range] at hj
    exact ⟨j, hj.1, hj.2, e⟩
  · rintro ⟨j, h1, h2, e⟩
    exact ⟨j, List.mem_filter.2 ⟨List.mem_range.2 h1, h2⟩, e⟩
theorem bitsOf_up (x : Nat) : (bitsOf x).Pairwise (· < ·) := by
  unfold bitsOf
  rw [List.pairwise_map]
  exact (List.pairwise_lt_range.filter _).imp fun h => by omega
theorem digits_numF {xs : List Int} (hc : xs.all constOk = true) (hl : xs.length ≤ 2) : digits (numF xs) xs.length = xs := by
  rcases xs with _ | ⟨x, _ | ⟨y, _ | ⟨z, xs⟩⟩⟩
  · rfl
  · simp only [List.all_cons, List.all_nil, Bool.and_true] at hc
    have := const_range hc
    simp [digits, numF, List.range_succ]
    omega
  · simp only [List.all_cons, List.all_nil, Bool.and_true, Bool.and_eq_true] at hc
    have := const_range hc.1
    have := const_range hc.2
    simp [digits, numF, List.range_succ]
    omega
  · simp at hl
theorem digits_up1 : ∀ i j : Fin 6, i < j → cmpL (digits i 1) (digits j 1) < 0 := by decide +kernel
theorem digits_up2 : ∀ i j : Fin 36, i < j → cmpL (digits i 2) (digits j 2) < 0 := by decide +kernel
theorem digits_up {i j q : Nat} (hq : q ≤ 2) (hj : j < 6 ^ q) (h : i < j) : cmpL (digits i q) (digits j q) < 0 := by
  match q, hq with
  | 0, _ => simp at hj; omega
  | 1, _ => exact digits_up1 ⟨i, by omega⟩ ⟨j, by omega⟩ h
  | 2, _ => exact digits_up2 ⟨i, by omega⟩ ⟨j, by omega⟩ h
theorem tabFacts_mem {T : List Nat} {ar : List Int} {f : LFact} : f ∈ tabFacts T ar ↔ ∃ p j : Nat, p < ar.length ∧ j < 64 ∧ (T.getD p 0).testBit j = true ∧ f = ((p : Int), digits j (ar.getD p 0).toNat) := by
  unfold tabFacts wordFacts
  simp only [List.mem_flatMap, List.mem_map, List.mem_range, bitsOf_mem]
  constructor
  · rintro ⟨p, hp, i, ⟨j, h1, h2, rfl⟩, rfl⟩
    exact ⟨p, j, hp, h1, h2, rfl⟩
  · rintro ⟨p, j, hp, h1, h2, rfl⟩
    exact ⟨p, hp, (j : Int), ⟨j, h1, h2, rfl⟩, rfl⟩
theorem tabFacts_asc {T : List Nat} {ar : List Int} (ha : arityOk ar = true) (hb : ∀ p j : Nat, p < ar.length → (T.getD p 0).testBit j = true → j < 6 ^ (ar.getD p 0).toNat) : Asc (tabFacts T ar) := by
  unfold Asc tabFacts
  rw [List.pairwise_flatMap]
  have hq : ∀ p, p < ar.length → (ar.getD p 0).toNat ≤ 2 := fun p hp => by
    have h1 := ha
    simp only [arityOk, Bool.and_eq_true, decide_eq_true_eq, List.all_eq_true] at h1
    have h2 : placeOk ar[p] = true := h1.2 _ (List.getElem_mem hp)
    rw [getD_at hp]
    simp [placeOk] at h2
    omega
  refine ⟨fun p hp => ?_, ?_⟩
  · rw [List.mem_range] at hp
    unfold wordFacts
    rw [List.pairwise_map]
    refine List.Pairwise.imp_of_mem (fun {a b} ha hb' hab => ?_) (bitsOf_up _)
    obtain ⟨i, _, _, rfl⟩ := bitsOf_mem.1 ha
    obtain ⟨j, _, h2, rfl⟩ := bitsOf_mem.1 hb'
    simp only [factOrder, if_true, Int.toNat_natCast]
    exact digits_up (hq p hp) (hb p j hp h2) (by omega)
  · refine List.pairwise_lt_range.imp fun {p p'} hpp x hx y hy => ?_
    unfold wordFacts at hx hy
    obtain ⟨_, _, rfl⟩ := List.mem_map.1 hx
    obtain ⟨_, _, rfl⟩ := List.mem_map.1 hy
    have h1 : ¬ ((p : Int) = (p' : Int)) := by omega
    have h2 : ((p : Int) < (p' : Int)) := by omega
    simp [factOrder, h1, cmpI, h2]

/-- A table of facts has just these. -/
theorem tabFacts_with {ar : List Int} (ha : arityOk ar = true) {F : List LFact} (hF : ∀ f ∈ F, factFits ar f = true) : Asc (tabFacts (tabWith zeroT F) ar) ∧ ∀ f, f ∈ tabFacts (tabWith zeroT F) ar ↔ f ∈ F := by
  have hl : ar.length ≤ 24 := by simp only [arityOk, Bool.and_eq_true, decide_eq_true_eq] at ha; exact ha.1
  have hz : ∀ p : Nat, p < ar.length → p < zeroT.length := fun p hp => by simp [zeroT]; omega
  have hbit : ∀ p j : Nat, p < ar.length → (((tabWith zeroT F).getD p 0).testBit j = true ↔ ∃ f ∈ F, f.1.toNat = p ∧ numF f.2 = j) := fun p j hp => by
    simp only [tabWith_bit _ _ (hz p hp), zero_bit, Bool.false_eq_true, false_or]
  have hone : ∀ f ∈ F, f.1 = ((f.1.toNat : Nat) : Int) ∧ f.1.toNat < ar.length ∧ f.2.length = (ar.getD f.1.toNat 0).toNat ∧ digits (numF f.2) (ar.getD f.1.toNat 0).toNat = f.2 ∧ numF f.2 < 6 ^ (ar.getD f.1.toNat 0).toNat := fun f hf => by
    obtain ⟨⟨h0, h1, h2⟩, h3⟩ := fits_parts (hF f hf)
    have h4 := fits_short ha (hF f hf)
    have h5 : f.2.length = (ar.getD f.1.toNat 0).toNat := by omega
    refine ⟨by omega, by omega, h5, ?_, ?_⟩
    · rw [← h5]
      exact digits_numF h3 h4
    · rw [← h5]
      have := numF_lt h3 f.2.length (Nat.le_refl _)
      rwa [List.take_length] at this
  refine ⟨tabFacts_asc ha fun p j hp h => ?_, fun f => ?_⟩
  · obtain ⟨f, hf, rfl, rfl⟩ := (hbit p j hp).1 h
    exact (hone f hf).2.2.2.2
  · rw [tabFacts_mem]
    constructor
    · rintro ⟨p, j, hp, _, h, rfl⟩
      obtain ⟨g, hg, rfl, rfl⟩ := (hbit p j hp).1 h
      obtain ⟨e1, _, _, e2, _⟩ := hone g hg
      rw [e2, ← e1]
      exact hg
    · intro hf
      obtain ⟨e1, e2, _, e3, e4⟩ := hone f hf
      exact ⟨f.1.toNat, numF f.2, e2, numF_64 (fits_parts (hF f hf)).2 (fits_short ha (hF f hf)), (hbit _ _ e2).2 ⟨f, hf, rfl, rfl⟩, by rw [e3, ← e1]⟩

end Go.Proofs.YtigkgheddngkeaaGreatDoor
/-
  The walk of (*factTable).facts: a table's facts, ascending, in memory of the call's own.
-/
namespace Go.Proofs.YtigkgheddngkeaaGreatDoor
open Go.RowKit

def tabTo (T : List Nat) (ar : List Int) (k : Nat) : List LFact := (List.range k).flatMap fun p => wordFacts p (T.getD p 0) (ar.getD p 0).toNat
theorem tabTo_snoc (T : List Nat) (ar : List Int) (k : Nat) : tabTo T ar (k + 1) = tabTo T ar k ++ wordFacts k (T.getD k 0) (ar.getD k 0).toNat := by simp [tabTo, List.range_succ]
theorem wordFacts_len (p x q : Nat) : (wordFacts p x q).length ≤ 64 := by
  unfold wordFacts
  rw [List.length_map]
  exact bitsOf_length x
theorem tabTo_len (T : List Nat) (ar : List Int) : ∀ k, (tabTo T ar k).length ≤ k * 64
  | 0 => by simp [tabTo]
  | k + 1 => by
    rw [tabTo_snoc, List.length_append]
    have := tabTo_len T ar k
    have := wordFacts_len k (T.getD k 0) (ar.getD k 0).toNat
    omega

set_option maxHeartbeats 4000000 in
set_option maxRecDepth 100000 in
theorem tabFacts_any (g : Nat) (T : List Nat) (v : Value) (ar : List Int) (w : World) (h : TabAt w g T) (hr : RdInts w w.heap.size v ar) (har : arityOk ar = true) (hT : Tab w) :
    Calls Tryz.prog 63 #[.pointer (some ⟨g, 0, none⟩), v] w fun e w' => ∃ A' c', e = .returned (.slice A' (tabFacts T ar).length c') ∧ OwnFacts w' w.heap.size w'.heap.size (.slice A' (tabFacts T ar).length c') (tabFacts T ar) ∧ Below w.heap.size w w' := by
  obtain ⟨i0, hi0, hz0, hz1, hz2⟩ := info_parts Tryz.infoFact
  have H := Lib.hid hr
  have HTA := Lib.hid h
  have HT := Lib.hid hT
  have hgl := h.1.lt
  have hl24 : ar.length ≤ 24 := by simp only [arityOk, Bool.and_eq_true, decide_eq_true_eq] at har; exact har.1
  have HQ := Lib.hid (show ∀ k (hk : k < ar.length), 0 ≤ ar[k] ∧ ar[k] ≤ 2 from fun k hk => by
    simp only [arityOk, Bool.and_eq_true, decide_eq_true_eq, List.all_eq_true] at har
    have h2 : placeOk ar[k] = true := har.2 _ (List.getElem_mem hk)
    simp [placeOk] at h2
    omega)
  obtain ⟨A, c, rfl, hc, _⟩ := hr
  clear h hT har
  go_enter Tryz.func63, Tryz.ntmps63
  go_wp2_with fail
  go_loopw [5, 11] (fun o i wr => ∃ (k : Nat) (A' : Option Addr) (c' : Nat) (av : List Value), k ≤ ar.length ∧ i = .int .i64 k ∧ o = .slice A' (tabTo T ar k).length c' ∧ ColRel w wr (tabTo T ar k) A' c' av) (fun _ i _ => ar.length - (intOf i).toNat)
  case atStart => exact ⟨0, none, 0, [], Nat.zero_le _, rfl, rfl, ColRel.nil w⟩
  case round =>
    obtain ⟨k, A', c', av, hk, rfl, rfl, hcol⟩ := hrel
    have hll := tabTo_len T ar k
    by_cases hlt : k < ar.length
    · have hsz := hcol.below.size
      have hbe := hcol.below
      obtain ⟨A7, c7, e7, _, hx⟩ := (H.out.on hbe)
      injection e7 with e7 e9 e8
      clear e9
      subst e7 e8
      obtain ⟨b7, o7, rfl, _, hx⟩ := hx (by omega)
      obtain ⟨q, hqe⟩ : ∃ q : Nat, ar[k] = (q : Int) := ⟨ar[k].toNat, by have := HQ.out k hlt; omega⟩
      have hq2 : q ≤ 2 := by have := HQ.out k hlt; omega
      have hck : wr.cell? ⟨b7, o7 + k, none⟩ = some (.int .i64 q) := by rw [← hqe]; exact hx k hlt
      have hk24 : k < 24 := by omega
      have hki : (k : Int) < 24 := by omega
      have htr := HTA.out.below hbe hgl
      obtain ⟨x, hxe⟩ : ∃ x, x = T.getD k 0 := ⟨_, rfl⟩
      have hx64 : x < 18446744073709551616 := by rw [hxe]; exact htr.lt
      have htk : wr.cell? ⟨g, k, none⟩ = some (.int .u64 ((x : Nat) : Int)) := by rw [hxe]; exact htr.cell hk24
      have HF := Lib.hid (show tabTo T ar (k + 1) = tabTo T ar k ++ (bitsOf x).map (fun j => ((k : Int), digits j.toNat q)) from by
        rw [tabTo_snoc, ← hxe]
        unfold wordFacts
        rw [getD_at hlt, hqe]
        rfl)
      have HCOL := Lib.hid hcol
      clear hx hqe htr hxe hbe hcol
      go_upto_region 6 with fail
      rename World => wo
      go_loopw [5, 8] (fun o z wr => ∃ (y : Nat) (L : List LFact) (A' : Option Addr) (c' : Nat) (av : List Value), z = .int .u64 y ∧ o = .slice A' L.length c' ∧ L ++ (bitsOf y).map (fun j => ((k : Int), digits j.toNat q)) = tabTo T ar (k + 1) ∧ y < 2 ^ 64 ∧ ColRel w wr L A' c' av) (fun _ z _ => (intOf z).toNat)
      case atStart => exact ⟨x, tabTo T ar k, A', c', av, rfl, rfl, HF.out.symm, hx64, HCOL.out⟩
      case round =>
        obtain ⟨y, L, A', c', av, rfl, rfl, hL, hy, hcol⟩ := hrel
        have hlL : L.length ≤ 1536 := by
          have h1 := congrArg List.length hL
          rw [List.length_append] at h1
          have := tabTo_len T ar (k + 1)
          omega
        by_cases h0 : y = 0
        · subst h0
          rw [bitsOf_zero, List.map_nil, List.append_nil] at hL
          have HE := Lib.hid (And.intro hL hcol)
          clear hL hcol
          go_wp2_with fail
          go_roundw
          case rel => exact ⟨k + 1, A', c', av, by omega, by go_num, by rw [HE.out.1], by rw [← HE.out.1]; exact HE.out.2⟩
          case measure => simp [intOf]; omega
        · obtain ⟨hst, hlt2⟩ := bitsOf_step h0 hy
          have ht : ((y : Int) != 0) = true := by simpa using h0
          have HY := Lib.hid (And.intro hy (And.intro h0 hlt2))
          have HB := Lib.hid (show (L ++ [((k : Int), digits (Lib.ctz 64 y) q)]) ++ (bitsOf (y &&& (y - 1))).map (fun j => ((k : Int), digits j.toNat q)) = tabTo T ar (k + 1) by
            rw [List.append_assoc, List.singleton_append, ← hL, hst, List.map_cons]; rfl)
          have hkk : Lib.ctz 64 y < 64 := (Lib.lowest_bit 64 y h0 hy).2
          have HA := Lib.hid (show bits BinOp.and IntKind.u64 (y : Int) (IntKind.u64.wrap ((y : Int) - 1)) = ((y &&& (y - 1) : Nat) : Int) by
            have e1 : IntKind.u64.wrap ((y : Int) - 1) = ((y - 1 : Nat) : Int) := by rw [IntKind.wrap_u64]; omega
            rw [e1, bits_and_u64_nat y (y - 1) (by simpa using hy) (by omega)])
          have HP := Lib.hid hcol
          have HTT := Lib.hid (HT.out.below hcol.below)
          have HCC := Lib.hid (fun (w : World) (hw : Tab w) => tz64_any y (by simpa using hy) h0 w hw)
          generalize Lib.ctz 64 y = kk at hst HB hkk HCC
          clear hst hlt2 hy h0 hL hcol
          go_wp2_with (first
            | (go_at_call 106; refine (HCC.out _ HTT.out).mono ?_; rintro e w' ⟨rfl, rfl⟩)
            | (go_at_call 105; refine (constantDigits_any kk q _ (by omega) hq2).mono ?_; rintro e w4 ⟨A4, c4, rfl, ho4, hb4⟩
               have H4 := Lib.hid (And.intro ho4 hb4)
               have hz5 := hb4.size
               have hz6 := HP.out.below.size
               clear ho4 hb4)
            | (at_builtin; refine wpList_append_lies _ rfl (.tmp 27) (.tmp 34) 35 rfl w.heap.size 68 i0 (.agg #[.int .i64 0, .slice none 0 0]) 2 32 Tryz.underlying35 hi0 hz0 hz1 hz2 rfl (by decide) (.slice A' L.length c') L.length (flat L av) rfl ?c1 ⟨w4.heap.size, 0, none⟩ 1 1 [.int .i64 k, .slice A4 q c4] rfl rfl (news2 _ _ _ _) ?c2 (by omega) (by unfold maxLen; omega) (by omega) ?c3 _ rfl ?_))
          case c1 => exact (ownsRow_below HP.out.own.row HP.out.own.lt H4.out.2 (Nat.le_refl _)).alloc _
          case c2 => intro u hu; simp at hu; rcases hu with rfl | rfl <;> rfl
          case c3 => simp; omega
          intro g2 cap w5 hown hg _ _
          obtain ⟨av', hcol, hlen⟩ := HP.out.push (f := ((k : Int), digits kk q)) (a := .slice A4 q c4) rfl H4.out.2 H4.out.1 hg hown
          have HC := Lib.hid (And.intro hcol hlen)
          obtain ⟨L2, hL2⟩ : ∃ L2, L2 = L ++ [((k : Int), digits kk q)] := ⟨_, rfl⟩
          have hle : L.length + 1 = L2.length := by rw [hL2]; simp
          rw [hle]
          have HC := Lib.hid (show ColRel w w5 L2 (some ⟨g2, 0, none⟩) cap av' by rw [hL2]; exact hcol)
          rw [← hL2] at HB
          clear hcol hlen hown hg hle hL2
          go_wp2_with fail
          go_roundw
          case rel => exact ⟨y &&& (y - 1), L2, some ⟨g2, 0, none⟩, cap, av', by rw [HA.out], rfl, HB.out, Nat.lt_trans HY.out.2.2 HY.out.1, HC.out⟩
          case measure =>
            rw [HA.out]
            simp only [intOf]
            have := HY.out.2.2
            omega
    · have HO := Lib.hid (show OwnFacts wr w.heap.size wr.heap.size (.slice A' (tabTo T ar k).length c') (tabTo T ar k) ∧ tabTo T ar k = tabFacts T ar from ⟨hcol.own.own, by rw [show k = ar.length by omega]; rfl⟩)
      have hbe := hcol.below
      clear hcol
      rw [HO.out.2]
      go_wp2_with fail
      go_ret
      exact ⟨_, _, rfl, by rw [← HO.out.2]; exact HO.out.1, hbe⟩

end Go.Proofs.YtigkgheddngkeaaGreatDoor
/-
  The facts of the table within what has grown.
-/
namespace Go.Proofs.YtigkgheddngkeaaGreatDoor
open Go.RowKit

/-- A table stands at places 2 to 25 of block g. -/
structure TabG (w : World) (g : Nat) (T : List Nat) : Prop where
  cell : ∀ {p : Nat}, p < 24 → w.cell? ⟨g, 2 + p, none⟩ = some (.int .u64 ((T.getD p 0 : Nat) : Int))
  word : ∀ p, T.getD p 0 < 18446744073709551616
  lt : g < w.heap.size
theorem TabG.below {w w' : World} {g B : Nat} {T : List Nat} (h : TabG w g T) (hb : Below B w w') (hg : g < B) : TabG w' g T := ⟨fun {p} hp => (hb.cell (p := ⟨g, 2 + p, none⟩) hg).trans (h.cell hp), h.word, Nat.lt_of_lt_of_le h.lt hb.size⟩
theorem GrAt.tab {w : World} {g o e : Nat} {X : List FV} {E : List Nat} {R : Nat → Value} (h : GrAt w g X E o e R) : TabG w g (tabWith zeroT (factsX X)) := ⟨fun {p} hp => h.raw.cellTab hp, fun p => h.raw.word, h.lt⟩

set_option maxHeartbeats 4000000 in
set_option maxRecDepth 100000 in
theorem tabFactsG_any (g : Nat) (T : List Nat) (v : Value) (ar : List Int) (w : World) (h : TabG w g T) (hr : RdInts w w.heap.size v ar) (har : arityOk ar = true) (hT : Tab w) :
    Calls Tryz.prog 63 #[.pointer (some ⟨g, 2, none⟩), v] w fun e w' => ∃ A' c', e = .returned (.slice A' (tabFacts T ar).length c') ∧ OwnFacts w' w.heap.size w'.heap.size (.slice A' (tabFacts T ar).length c') (tabFacts T ar) ∧ Below w.heap.size w w' := by
  obtain ⟨i0, hi0, hz0, hz1, hz2⟩ := info_parts Tryz.infoFact
  have H := Lib.hid hr
  have HTA := Lib.hid h
  have HT := Lib.hid hT
  have hgl := h.lt
  have hl24 : ar.length ≤ 24 := by simp only [arityOk, Bool.and_eq_true, decide_eq_true_eq] at har; exact har.1
  have HQ := Lib.hid (show ∀ k (hk : k < ar.length), 0 ≤ ar[k] ∧ ar[k] ≤ 2 from fun k hk => by
    simp only [arityOk, Bool.and_eq_true, decide_eq_true_eq, List.all_eq_true] at har
    have h2 : placeOk ar[k] = true := har.2 _ (List.getElem_mem hk)
    simp [placeOk] at h2
    omega)
  obtain ⟨A, c, rfl, hc, _⟩ := hr
  clear h hT har
  go_enter Tryz.func63, Tryz.ntmps63
  go_wp2_with fail
  go_loopw [5, 11] (fun o i wr => ∃ (k : Nat) (A' : Option Addr) (c' : Nat) (av : List Value), k ≤ ar.length ∧ i = .int .i64 k ∧ o = .slice A' (tabTo T ar k).length c' ∧ ColRel w wr (tabTo T ar k) A' c' av) (fun _ i _ => ar.length - (intOf i).toNat)
  case atStart => exact ⟨0, none, 0, [], Nat.zero_le _, rfl, rfl, ColRel.nil w⟩
  case round =>
    obtain ⟨k, A', c', av, hk, rfl, rfl, hcol⟩ := hrel
    have hll := tabTo_len T ar k
    by_cases hlt : k < ar.length
    · have hsz := hcol.below.size
      have hbe := hcol.below
      obtain ⟨A7, c7, e7, _, hx⟩ := (H.out.on hbe)
      injection e7 with e7 e9 e8
      clear e9
      subst e7 e8
      obtain ⟨b7, o7, rfl, _, hx⟩ := hx (by omega)
      obtain ⟨q, hqe⟩ : ∃ q : Nat, ar[k] = (q : Int) := ⟨ar[k].toNat, by have := HQ.out k hlt; omega⟩
      have hq2 : q ≤ 2 := by have := HQ.out k hlt; omega
      have hck : wr.cell? ⟨b7, o7 + k, none⟩ = some (.int .i64 q) := by rw [← hqe]; exact hx k hlt
      have hk24 : k < 24 := by omega
      have hki : (k : Int) < 24 := by omega
      have htr := HTA.out.below hbe hgl
      obtain ⟨x, hxe⟩ : ∃ x, x = T.getD k 0 := ⟨_, rfl⟩
      have hx64 : x < 18446744073709551616 := by rw [hxe]; exact htr.word k
      have htk : wr.cell? ⟨g, 2 + k, none⟩ = some (.int .u64 ((x : Nat) : Int)) := by rw [hxe]; exact htr.cell hk24
      have HF := Lib.hid (show tabTo T ar (k + 1) = tabTo T ar k ++ (bitsOf x).map (fun j => ((k : Int), digits j.toNat q)) from by
        rw [tabTo_snoc, ← hxe]
        unfold wordFacts
        rw [getD_at hlt, hqe]
        rfl)
      have HCOL := Lib.hid hcol
      clear hx hqe htr hxe hbe hcol
      go_upto_region 6 with fail
      rename World => wo
      go_loopw [5, 8] (fun o z wr => ∃ (y : Nat) (L : List LFact) (A' : Option Addr) (c' : Nat) (av : List Value), z = .int .u64 y ∧ o = .slice A' L.length c' ∧ L ++ (bitsOf y).map (fun j => ((k : Int), digits j.toNat q)) = tabTo T ar (k + 1) ∧ y < 2 ^ 64 ∧ ColRel w wr L A' c' av) (fun _ z _ => (intOf z).toNat)
      case atStart => exact ⟨x, tabTo T ar k, A', c', av, rfl, rfl, HF.out.symm, hx64, HCOL.out⟩
      case round =>
        obtain ⟨y, L, A', c', av, rfl, rfl, hL, hy, hcol⟩ := hrel
        have hlL : L.length ≤ 1536 := by
          have h1 := congrArg List.length hL
          rw [List.length_append] at h1
          have := tabTo_len T ar (k + 1)
          omega
        by_cases h0 : y = 0
        · subst h0
          rw [bitsOf_zero, List.map_nil, List.append_nil] at hL
          have HE := Lib.hid (And.intro hL hcol)
          clear hL hcol
          go_wp2_with fail
          go_roundw
          case rel => exact ⟨k + 1, A', c', av, by omega, by go_num, by rw [HE.out.1], by rw [← HE.out.1]; exact HE.out.2⟩
          case measure => simp [intOf]; omega
        · obtain ⟨hst, hlt2⟩ := bitsOf_step h0 hy
          have ht : ((y : Int) != 0) = true := by simpa using h0
          have HY := Lib.hid (And.intro hy (And.intro h0 hlt2))
          have HB := Lib.hid (show (L ++ [((k : Int), digits (Lib.ctz 64 y) q)]) ++ (bitsOf (y &&& (y - 1))).map (fun j => ((k : Int), digits j.toNat q)) = tabTo T ar (k + 1) by
            rw [List.append_assoc, List.singleton_append, ← hL, hst, List.map_cons]; rfl)
          have hkk : Lib.ctz 64 y < 64 := (Lib.lowest_bit 64 y h0 hy).2
          have HA := Lib.hid (show bits BinOp.and IntKind.u64 (y : Int) (IntKind.u64.wrap ((y : Int) - 1)) = ((y &&& (y - 1) : Nat) : Int) by
            have e1 : IntKind.u64.wrap ((y : Int) - 1) = ((y - 1 : Nat) : Int) := by rw [IntKind.wrap_u64]; omega
            rw [e1, bits_and_u64_nat y (y - 1) (by simpa using hy) (by omega)])
          have HP := Lib.hid hcol
          have HTT := Lib.hid (HT.out.below hcol.below)
          have HCC := Lib.hid (fun (w : World) (hw : Tab w) => tz64_any y (by simpa using hy) h0 w hw)
          generalize Lib.ctz 64 y = kk at hst HB hkk HCC
          clear hst hlt2 hy h0 hL hcol
          go_wp2_with (first
            | (go_at_call 106; refine (HCC.out _ HTT.out).mono ?_; rintro e w' ⟨rfl, rfl⟩)
            | (go_at_call 105; refine (constantDigits_any kk q _ (by omega) hq2).mono ?_; rintro e w4 ⟨A4, c4, rfl, ho4, hb4⟩
               have H4 := Lib.hid (And.intro ho4 hb4)
               have hz5 := hb4.size
               have hz6 := HP.out.below.size
               clear ho4 hb4)
            | (at_builtin; refine wpList_append_lies _ rfl (.tmp 27) (.tmp 34) 35 rfl w.heap.size 68 i0 (.agg #[.int .i64 0, .slice none 0 0]) 2 32 Tryz.underlying35 hi0 hz0 hz1 hz2 rfl (by decide) (.slice A' L.length c') L.length (flat L av) rfl ?c1 ⟨w4.heap.size, 0, none⟩ 1 1 [.int .i64 k, .slice A4 q c4] rfl rfl (news2 _ _ _ _) ?c2 (by omega) (by unfold maxLen; omega) (by omega) ?c3 _ rfl ?_))
          case c1 => exact (ownsRow_below HP.out.own.row HP.out.own.lt H4.out.2 (Nat.le_refl _)).alloc _
          case c2 => intro u hu; simp at hu; rcases hu with rfl | rfl <;> rfl
          case c3 => simp; omega
          intro g2 cap w5 hown hg _ _
          obtain ⟨av', hcol, hlen⟩ := HP.out.push (f := ((k : Int), digits kk q)) (a := .slice A4 q c4) rfl H4.out.2 H4.out.1 hg hown
          have HC := Lib.hid (And.intro hcol hlen)
          obtain ⟨L2, hL2⟩ : ∃ L2, L2 = L ++ [((k : Int), digits kk q)] := ⟨_, rfl⟩
          have hle : L.length + 1 = L2.length := by rw [hL2]; simp
          rw [hle]
          have HC := Lib.hid (show ColRel w w5 L2 (some ⟨g2, 0, none⟩) cap av' by rw [hL2]; exact hcol)
          rw [← hL2] at HB
          clear hcol hlen hown hg hle hL2
          go_wp2_with fail
          go_roundw
          case rel => exact ⟨y &&& (y - 1), L2, some ⟨g2, 0, none⟩, cap, av', by rw [HA.out], rfl, HB.out, Nat.lt_trans HY.out.2.2 HY.out.1, HC.out⟩
          case measure =>
            rw [HA.out]
            simp only [intOf]
            have := HY.out.2.2
            omega
    · have HO := Lib.hid (show OwnFacts wr w.heap.size wr.heap.size (.slice A' (tabTo T ar k).length c') (tabTo T ar k) ∧ tabTo T ar k = tabFacts T ar from ⟨hcol.own.own, by rw [show k = ar.length by omega]; rfl⟩)
      have hbe := hcol.below
      clear hcol
      rw [HO.out.2]
      go_wp2_with fail
      go_ret
      exact ⟨_, _, rfl, by rw [← HO.out.2]; exact HO.out.1, hbe⟩

end Go.Proofs.YtigkgheddngkeaaGreatDoor
/-
  Consequences: the specification's and the program's.
-/
namespace Go.Proofs.YtigkgheddngkeaaGreatDoor
open Go.RowKit

end Go.Proofs.YtigkgheddngkeaaGreatDoor
/-
  Least: the specification's and the program's.
-/
namespace Go.Proofs.YtigkgheddngkeaaGreatDoor
open Go.RowKit

def lokB (p : LProg) (fs : List LFact) : Bool := positive p && factsOk p.1 fs
def leastL (p : LProg) (fs : List LFact) : List LFact := if lokB p fs then leastFrom p.2 (setOf fs) else []
theorem lok_parts {p : LProg} {fs : List LFact} (h : lokB p fs = true) : arityOk p.1 = true ∧ (∀ r ∈ p.2, ruleFits p.1 r = true) ∧ (∀ f ∈ fs, factFits p.1 f = true) ∧ p.2.length ≤ 60 := by
  simp only [lokB, positive, Bool.and_eq_true] at h
  obtain ⟨h1, h2, h3⟩ := prog_parts h.1.1
  exact ⟨h1, h3, (factsOk_parts h.2).2.1, h2⟩
theorem iterL_asc {rs : List LRule} {F : List LFact} (h : Asc F) : ∀ n, Asc (iterL rs F n)
  | 0 => h
  | _ + 1 => setOf_asc _
theorem leastL_few (p : LProg) (fs : List LFact) : (leastL p fs).length ≤ 1536 ∧ tot (leastL p fs) ≤ 3072 := by
  unfold leastL
  cases h : lokB p fs
  · simp [tot]
  · obtain ⟨h1, h2, h3, _⟩ := lok_parts h
    rw [if_pos rfl]
    exact iter_few h1 h2 (FitL.set h3) _

set_option maxHeartbeats 2000000 in
set_option maxRecDepth 100000 in
theorem l4Ok_any (v v2 : Value) (p : LProg) (fs : List LFact) (w : World) (h : RdProg w w.heap.size v p) (h2 : RdFacts w w.heap.size v2 fs) (hs : szP p ≤ 1048576) (hn : fs.length ≤ 1048576) (ht : tot fs ≤ 1048576) :
    Calls Tryz.prog 57 #[v, v2] w fun e w' => e = .returned (.bool (lokB p fs)) ∧ Below w.heap.size w w' := by
  have HP := Lib.hid h
  have H2 := Lib.hid h2
  have hs' := hs
  unfold szP at hs'
  obtain ⟨a, b, rfl, hA, hR⟩ := h
  have HA := Lib.hid hA
  obtain ⟨A, c, rfl, hcA, _⟩ := hA
  obtain ⟨A2, c2, rfl, hcR, _⟩ := hR
  obtain ⟨A3, c3, rfl, hcF, _⟩ := h2
  obtain ⟨po, hpo⟩ : ∃ po, po = positive p := ⟨_, rfl⟩
  obtain ⟨fo, hfo⟩ : ∃ fo, fo = factsOk p.1 fs := ⟨_, rfl⟩
  obtain ⟨R, hRR⟩ : ∃ R, R = lokB p fs := ⟨_, rfl⟩
  have HRR := Lib.hid (show R = (po && fo) by rw [hRR, hpo, hfo]; rfl)
  rw [← hRR]
  clear hRR
  go_enter Tryz.func57, Tryz.ntmps57
  go_upto_region 1 with fail
  obtain ⟨w1, hw1⟩ : ∃ w1, w1 = w.alloc (Obj.cells #[Value.slice A p.1.length c, Value.slice A2 p.2.length c2] 33) := ⟨_, rfl⟩
  have X1 : Blk w1 w.heap.size 33 #[.slice A p.1.length c, .slice A2 p.2.length c2] := by rw [hw1]; exact Blk.new _ _ _
  have B1 : Below w.heap.size w w1 := by rw [hw1]; exact below1 _ _
  rw [← hw1]
  clear hw1
  have x0 : w1.cell? ⟨w.heap.size, 0, none⟩ = some (.slice A p.1.length c) := X1.cell 0
  have x1 : w1.cell? ⟨w.heap.size, 1, none⟩ = some (.slice A2 p.2.length c2) := X1.cell 1
  have CP := Lib.hid ((specPositive_any _ p w1 (HP.out.on B1) hs).mono fun e w' (hh : e = .returned (.bool (positive p)) ∧ Below w1.heap.size w1 w') => (⟨by rw [hh.1, hpo], hh.2⟩ : e = .returned (.bool po) ∧ Below w1.heap.size w1 w'))
  have CF := Lib.hid (fun W (hW : Below w.heap.size w W) => (specFactsOk_any _ _ p.1 fs W (HA.out.on hW) (H2.out.on hW) (by omega) (by omega) (by omega)).mono fun e w' (hh : e = .returned (.bool (factsOk p.1 fs)) ∧ Below W.heap.size W w') => (⟨by rw [hh.1, hfo], hh.2⟩ : e = .returned (.bool fo) ∧ Below W.heap.size W w'))
  have HX1 := Lib.hid X1
  clear hpo hfo X1
  cases po
  · go_wp2_with (go_at_call 90; refine CP.out.mono ?_; rintro e w2 ⟨rfl, b2⟩; have B2 := Lib.hid (bthen B1 b2); clear b2)
    go_ret
    exact ⟨ret_bool (by rw [HRR.out]; rfl), B2.out⟩
  · go_wp2_with (first
      | (go_at_call 90; refine CP.out.mono ?_; rintro e w2 ⟨rfl, b2⟩; have B2 := Lib.hid (bthen B1 b2)
         have x20 : w2.cell? ⟨w.heap.size, 0, none⟩ = some (.slice A p.1.length c) := (HX1.out.below b2 HX1.out.lt).cell 0
         clear b2)
      | (go_at_call 76; refine (CF.out _ B2.out).mono ?_; rintro e w3 ⟨rfl, b3⟩; have B3 := Lib.hid (bthen B2.out b3); clear b3))
    go_ret
    exact ⟨ret_bool (by rw [HRR.out]; rfl), B3.out⟩

set_option maxHeartbeats 2000000 in
set_option maxRecDepth 100000 in
theorem specLeast_any (v v2 : Value) (p : LProg) (fs : List LFact) (w : World) (h : RdProg w w.heap.size v p) (h2 : RdFacts w w.heap.size v2 fs) (hs : szP p ≤ 1048576) (hn : fs.length ≤ 1048576) (ht : tot fs ≤ 1048576) :
    Calls Tryz.prog 26 #[v, v2] w fun e w' => ∃ A' c', e = .returned (.slice A' (leastL p fs).length c') ∧ OwnFacts w' w.heap.size w'.heap.size (.slice A' (leastL p fs).length c') (leastL p fs) ∧ Below w.heap.size w w' := by
  have HP := Lib.hid h
  have H2 := Lib.hid h2
  have hs' := hs
  unfold szP at hs'
  obtain ⟨a, b, rfl, hA, hR⟩ := h
  have HR := Lib.hid hR
  obtain ⟨A, c, rfl, hcA, _⟩ := hA
  obtain ⟨A2, c2, rfl, hcR, _⟩ := hR
  obtain ⟨A3, c3, rfl, hcF, _⟩ := h2
  obtain ⟨po, hpo⟩ : ∃ po, po = lokB p fs := ⟨_, rfl⟩
  obtain ⟨R, hRR⟩ : ∃ R, R = leastL p fs := ⟨_, rfl⟩
  have HRR := Lib.hid (show R = if po then leastFrom p.2 (setOf fs) else [] by rw [hRR, hpo]; rfl)
  rw [← hRR]
  clear hRR
  go_enter Tryz.func26, Tryz.ntmps26
  go_upto_region 1 with fail
  obtain ⟨w1, hw1⟩ : ∃ w1, w1 = w.alloc (Obj.cells #[Value.slice A p.1.length c, Value.slice A2 p.2.length c2] 33) := ⟨_, rfl⟩
  have X1 : Blk w1 w.heap.size 33 #[.slice A p.1.length c, .slice A2 p.2.length c2] := by rw [hw1]; exact Blk.new _ _ _
  have B1 : Below w.heap.size w w1 := by rw [hw1]; exact below1 _ _
  rw [← hw1]
  clear hw1
  have x0 : w1.cell? ⟨w.heap.size, 0, none⟩ = some (.slice A p.1.length c) := X1.cell 0
  have x1 : w1.cell? ⟨w.heap.size, 1, none⟩ = some (.slice A2 p.2.length c2) := X1.cell 1
  have CP := Lib.hid ((l4Ok_any _ _ p fs w1 (HP.out.on B1) (H2.out.on B1) hs hn ht).mono fun e w' (hh : e = .returned (.bool (lokB p fs)) ∧ Below w1.heap.size w1 w') => (⟨by rw [hh.1, hpo], hh.2⟩ : e = .returned (.bool po) ∧ Below w1.heap.size w1 w'))
  have HPO := Lib.hid hpo
  have HX1 := Lib.hid X1
  clear hpo X1
  cases po
  · go_wp2_with (go_at_call 57; refine CP.out.mono ?_; rintro e w2 ⟨rfl, b2⟩; have B2 := Lib.hid (bthen B1 b2); clear b2)
    go_ret
    have e : R = [] := by rw [HRR.out]; rfl
    rw [e]
    exact ⟨none, 0, rfl, ⟨_, .nil, World.ownsRow_nil _ _ _ _, fun g hg => by cases hg⟩, B2.out⟩
  · obtain ⟨har, hfit, hff, hrl⟩ := lok_parts HPO.out.symm
    have CA := Lib.hid (fun W (hW : Below w.heap.size w W) => l4Least_any p.1 har p.2 hfit (by omega) (by omega) (.slice A2 p.2.length c2) (.slice A3 fs.length c3) fs W (HR.out.on hW) (H2.out.on hW) hff hn ht)
    have HRE := Lib.hid (show R = leastFrom p.2 (setOf fs) by rw [HRR.out]; rfl)
    rw [← HRE.out] at CA
    clear har hfit hff hrl
    go_wp2_with (first
      | (go_at_call 57; refine CP.out.mono ?_; rintro e w2 ⟨rfl, b2⟩; have B2 := Lib.hid (bthen B1 b2)
         have x21 : w2.cell? ⟨w.heap.size, 1, none⟩ = some (.slice A2 p.2.length c2) := (HX1.out.below b2 HX1.out.lt).cell 1
         clear b2)
      | (go_at_call 66; refine (CA.out _ B2.out).mono ?_; rintro e w4 ⟨A4, c4, rfl, o4, b4⟩; have B4 := Lib.hid (bthen B2.out b4)
         have O4 := Lib.hid (o4.mono B2.out.size (Nat.le_refl _))
         clear o4 b4))
    go_ret
    exact ⟨A4, c4, rfl, O4.out, B4.out⟩

/-- What growthOf hands back: a growth that has come to its end. -/
structure Grown (w : World) (g : Nat) (p : LProg) (fs : List LFact) (X : List FV) (E : List Nat) (o : Nat) (R : Nat → Value) (m : Nat) : Prop where
  at_ : GrAt w g X E o X.length R
  fit : FitL p.1 (factsX X)
  rounds : RoundsM p.2 (setOf fs) m
  now : ∀ f, f ∈ factsX X ↔ f ∈ iterL p.2 (setOf fs) m
  up : E.Pairwise (· < ·)
  len : E.length = m + 1
  ends : ∀ k, k ≤ m → E.getD k 0 ≤ X.length ∧ ∀ f, f ∈ (factsX X).take (E.getD k 0) ↔ f ∈ iterL p.2 (setOf fs) k
theorem Grown.of {w : World} {g n : Nat} {p : LProg} {fs : List LFact} {X : List FV} {L1 : List LFact} {E : List Nat} {o : Nat} {R : Nat → Value} {m : Nat} (h : GrAt w g X E o X.length R) (h1 : ∀ f, f ∈ L1 ↔ f ∈ fs) (hn : n = L1.length) (hb : GrewBy p.1 p.2 L1 [n] (factsX X) E m) : Grown w g p fs X E o R m := by
  have he : setOf L1 = setOf fs := (setOf_asc _).unique (setOf_asc _) fun f => by rw [setOf_mem, setOf_mem, h1]
  obtain ⟨M, e1, e2, e3⟩ := hb.ends
  obtain ⟨N, e4⟩ := hb.pre
  have hr := hb.rounds
  have hnow := hb.now
  rw [he] at hr hnow e3
  refine ⟨h, hb.fit, hr, hnow, hb.up, by rw [e1]; simp [e2]; (try omega), fun k hk => ?_⟩
  rcases k with _ | k
  · rw [e1]
    show n ≤ X.length ∧ ∀ f, f ∈ (factsX X).take n ↔ f ∈ setOf fs
    rw [e4, hn, List.take_left']
    · refine ⟨?_, fun f => by rw [h1, setOf_mem]⟩
      rw [← factsX_len X, e4, List.length_append]
      omega
    · rfl
  · have e5 : E.getD (k + 1) 0 = M.getD k 0 := by rw [e1]; rfl
    rw [e5]
    obtain ⟨g1, g2⟩ := e3 k (by omega)
    rw [factsX_len] at g1
    exact ⟨g1, g2⟩

set_option maxHeartbeats 4000000 in
set_option maxRecDepth 100000 in
theorem growthOf_any (v v2 : Value) (p : LProg) (fs : List LFact) (w : World) (h : RdProg w w.heap.size v p) (h2 : RdFacts w w.heap.size v2 fs) (hs : szP p ≤ 1048576) (hn : fs.length ≤ 1048576) (ht : tot fs ≤ 1048576) :
    Calls Tryz.prog 60 #[v, v2] w fun e w' => ((lokB p fs = false ∧ e = .returned (.tuple #[.pointer none, .bool false])) ∨ (lokB p fs = true ∧ ∃ g X E o R m, e = .returned (.tuple #[.pointer (some ⟨g, 0, none⟩), .bool true]) ∧ w.heap.size ≤ g ∧ Grown w' g p fs X E o R m)) ∧ Below w.heap.size w w' := by
  have HP := Lib.hid h
  have H2 := Lib.hid h2
  have hs' := hs
  unfold szP at hs'
  obtain ⟨a, b, rfl, hA, hR⟩ := h
  have HA := Lib.hid hA
  have HR := Lib.hid hR
  obtain ⟨A, c, rfl, hcA, _⟩ := hA
  obtain ⟨A2, c2, rfl, hcR, _⟩ := hR
  obtain ⟨A3, c3, rfl, hcF, _⟩ := h2
  obtain ⟨po, hpo⟩ : ∃ po, po = positive p := ⟨_, rfl⟩
  obtain ⟨fo, hfo⟩ : ∃ fo, fo = factsOk p.1 fs := ⟨_, rfl⟩
  have HRR := Lib.hid (show lokB p fs = (po && fo) by rw [hpo, hfo]; rfl)
  go_enter Tryz.func60, Tryz.ntmps60
  go_upto_region 1 with fail
  obtain ⟨w1, hw1⟩ : ∃ w1, w1 = w.alloc (Obj.cells #[Value.slice A p.1.length c, Value.slice A2 p.2.length c2] 33) := ⟨_, rfl⟩
  have X1 : Blk w1 w.heap.size 33 #[.slice A p.1.length c, .slice A2 p.2.length c2] := by rw [hw1]; exact Blk.new _ _ _
  have B1 : Below w.heap.size w w1 := by rw [hw1]; exact below1 _ _
  rw [← hw1]
  clear hw1
  have x0 : w1.cell? ⟨w.heap.size, 0, none⟩ = some (.slice A p.1.length c) := X1.cell 0
  have x1 : w1.cell? ⟨w.heap.size, 1, none⟩ = some (.slice A2 p.2.length c2) := X1.cell 1
  have CP := Lib.hid ((implPositive_any _ p w1 (HP.out.on B1) hs).mono fun e w' (hh : e = .returned (.bool (positive p)) ∧ Below w1.heap.size w1 w') => (⟨by rw [hh.1, hpo], hh.2⟩ : e = .returned (.bool po) ∧ Below w1.heap.size w1 w'))
  have CF := Lib.hid (fun W (hW : Below w.heap.size w W) => (implFactsOk_any _ _ p.1 fs W (HA.out.on hW) (H2.out.on hW) (by omega) (by omega) (by omega)).mono fun e w' (hh : e = .returned (.bool (factsOk p.1 fs)) ∧ Below W.heap.size W w') => (⟨by rw [hh.1, hfo], hh.2⟩ : e = .returned (.bool fo) ∧ Below W.heap.size W w'))
  have HX1 := Lib.hid X1
  clear hpo hfo X1
  cases po
  · go_wp2_with (go_at_call 93; refine CP.out.mono ?_; rintro e w2 ⟨rfl, b2⟩; have B2 := Lib.hid (bthen B1 b2); clear b2)
    refine bodyPost_ret (v := .tuple #[.pointer none, .bool false]) (by simp [results, Tryz.results60, go_sem]) rfl ?_
    exact ⟨.inl ⟨by rw [HRR.out]; rfl, rfl⟩, B2.out⟩
  · cases fo
    · go_wp2_with (first
        | (go_at_call 93; refine CP.out.mono ?_; rintro e w2 ⟨rfl, b2⟩; have B2 := Lib.hid (bthen B1 b2)
           have x20 : w2.cell? ⟨w.heap.size, 0, none⟩ = some (.slice A p.1.length c) := (HX1.out.below b2 HX1.out.lt).cell 0
           clear b2)
        | (go_at_call 95; refine (CF.out _ B2.out).mono ?_; rintro e w3 ⟨rfl, b3⟩; have B3 := Lib.hid (bthen B2.out b3); clear b3))
      refine bodyPost_ret (v := .tuple #[.pointer none, .bool false]) (by simp [results, Tryz.results60, go_sem]) rfl ?_
      exact ⟨.inl ⟨by rw [HRR.out]; rfl, rfl⟩, B3.out⟩
    · have hlok : lokB p fs = true := by rw [HRR.out]; rfl
      obtain ⟨har, hfit, hff, hrl⟩ := lok_parts hlok
      have HLOK := Lib.hid hlok
      have HHH := Lib.hid (And.intro har (And.intro hfit hff))
      clear hlok har hfit hff
      go_wp2_with (first
        | (go_at_call 93; refine CP.out.mono ?_; rintro e w2 ⟨rfl, b2⟩; have B2 := Lib.hid (bthen B1 b2)
           have HX2 := Lib.hid (HX1.out.below b2 HX1.out.lt)
           have x20 : w2.cell? ⟨w.heap.size, 0, none⟩ = some (.slice A p.1.length c) := HX2.out.cell 0
           clear b2)
        | (go_at_call 95; refine (CF.out _ B2.out).mono ?_; rintro e w3 ⟨rfl, b3⟩; have B3 := Lib.hid (bthen B2.out b3)
           have HX3 := Lib.hid (HX2.out.below b3 HX2.out.lt)
           clear b3
           have CG := Lib.hid (growthFrom_any p.1 HHH.out.1 (.slice A3 fs.length c3) fs w3 (H2.out.on B3.out) HHH.out.2.2 hn))
        | (go_at_call 96; refine CG.out.mono ?_; rintro e w4 ⟨X, R, rfl, g4, b4, f4, m4⟩
           have x41 : w4.cell? ⟨w.heap.size, 1, none⟩ = some (.slice A2 p.2.length c2) := (HX3.out.below b4 HX3.out.lt).cell 1
           have HG4 := Lib.hid (And.intro g4 (And.intro b4 (And.intro f4 m4)))
           have CB := Lib.hid (growBy_any w3.heap.size p.1 HHH.out.1 p.2 HHH.out.2.1 (by omega) (by omega) X [X.length] 0 R (.slice A2 p.2.length c2) w4 g4 f4 ((HR.out.on B3.out).below b4 (Nat.le_refl _)) (by simp) (by simp) (by simp) (by simp))
           clear g4 b4 f4 m4)
        | (go_at_call 102; refine CB.out.mono ?_; rintro e w5 ⟨rfl, X5, E5, o5, R5, m5, g5, k5, gr5⟩
           have HG5 := Lib.hid (And.intro g5 (And.intro k5 gr5))
           clear g5 k5 gr5))
      refine bodyPost_ret (v := .tuple #[.pointer (some ⟨w3.heap.size, 0, none⟩), .bool true]) (by simp [results, Tryz.results60, go_sem]) rfl ?_
      exact ⟨.inr ⟨HLOK.out, w3.heap.size, X5, E5, o5, R5, m5, rfl, B3.out.size, Grown.of HG5.out.1 HG4.out.2.2.2 (factsX_len X).symm HG5.out.2.2⟩, (bthen B3.out HG4.out.2.1).trans (HG5.out.2.1.below.mono B3.out.size)⟩

end Go.Proofs.YtigkgheddngkeaaGreatDoor
/-
  Least: the program's.
-/
namespace Go.Proofs.YtigkgheddngkeaaGreatDoor
open Go.RowKit

theorem Grown.least {w : World} {g o m : Nat} {p : LProg} {fs : List LFact} {X : List FV} {E : List Nat} {R : Nat → Value} (h : Grown w g p fs X E o R m) (hl : lokB p fs = true) : tabFacts (tabWith zeroT (factsX X)) p.1 = leastL p fs := by
  obtain ⟨h1, h2, h3, _⟩ := lok_parts hl
  have hm := roundsM_is h1 h2 (FitL.set h3) h.rounds
  have ht := tabFacts_with h1 h.fit.fits
  unfold leastL leastFrom
  rw [hl, hm]
  exact ht.1.unique (iterL_asc (setOf_asc _) m) fun f => (ht.2 f).trans (h.now f)

set_option maxHeartbeats 4000000 in
set_option maxRecDepth 100000 in
theorem implLeast_any (v v2 : Value) (p : LProg) (fs : List LFact) (w : World) (h : RdProg w w.heap.size v p) (h2 : RdFacts w w.heap.size v2 fs) (hs : szP p ≤ 1048576) (hn : fs.length ≤ 1048576) (ht : tot fs ≤ 1048576) (hT : Tab w) :
    Calls Tryz.prog 27 #[v, v2] w fun e w' => ∃ A' c', e = .returned (.slice A' (leastL p fs).length c') ∧ OwnFacts w' w.heap.size w'.heap.size (.slice A' (leastL p fs).length c') (leastL p fs) ∧ Below w.heap.size w w' := by
  have HT := Lib.hid hT
  have HP := Lib.hid h
  have H2 := Lib.hid h2
  obtain ⟨a, b, rfl, hA, hR⟩ := h
  have HA := Lib.hid hA
  obtain ⟨A, c, rfl, hcA, _⟩ := hA
  obtain ⟨A2, c2, rfl, hcR, _⟩ := hR
  obtain ⟨A3, c3, rfl, hcF, _⟩ := h2
  obtain ⟨R, hRR⟩ : ∃ R, R = leastL p fs := ⟨_, rfl⟩
  have HRR := Lib.hid hRR
  rw [← hRR]
  clear hRR hT
  go_enter Tryz.func27, Tryz.ntmps27
  go_upto_region 1 with fail
  obtain ⟨w1, hw1⟩ : ∃ w1, w1 = w.alloc (Obj.cells #[Value.slice A p.1.length c, Value.slice A2 p.2.length c2] 33) := ⟨_, rfl⟩
  have X1 : Blk w1 w.heap.size 33 #[.slice A p.1.length c, .slice A2 p.2.length c2] := by rw [hw1]; exact Blk.new _ _ _
  have B1 : Below w.heap.size w w1 := by rw [hw1]; exact below1 _ _
  rw [← hw1]
  clear hw1
  have x0 : w1.cell? ⟨w.heap.size, 0, none⟩ = some (.slice A p.1.length c) := X1.cell 0
  have x1 : w1.cell? ⟨w.heap.size, 1, none⟩ = some (.slice A2 p.2.length c2) := X1.cell 1
  have CG := Lib.hid (growthOf_any _ _ p fs w1 (HP.out.on B1) (H2.out.on B1) hs hn ht)
  have HX1 := Lib.hid X1
  clear X1
  go_wp2_with (go_at_call 60; refine CG.out.mono ?_; rintro e w2 ⟨hcase, b2⟩; rcases hcase with ⟨hno, rfl⟩ | ⟨hyes, g, X, E, o, Rg, m, rfl, hg, hgr⟩)
  · go_wp2_with fail
    go_ret
    have e : R = [] := by rw [HRR.out]; unfold leastL; rw [hno]; rfl
    rw [e]
    exact ⟨none, 0, rfl, ⟨_, .nil, World.ownsRow_nil _ _ _ _, fun g hg => by cases hg⟩, bthen B1 b2⟩
  · have HGR := Lib.hid hgr
    have HY := Lib.hid hyes
    have B2 := Lib.hid (bthen B1 b2)
    have X2 := Lib.hid (HX1.out.below b2 HX1.out.lt)
    have HG := Lib.hid hg
    obtain ⟨har, _⟩ := lok_parts hyes
    have HAR := Lib.hid har
    have x20 : w2.cell? ⟨w.heap.size, 0, none⟩ = some (.slice A p.1.length c) := X2.out.cell 0
    clear hgr hyes b2 x0 x1 har
    go_upto_region 4 with fail
    obtain ⟨SS, hSS⟩ : ∃ SS : World → Prop, SS = (fun W => Below w2.heap.size w2 W ∧ W.cell? ⟨w.heap.size, 0, none⟩ = some (.slice A p.1.length c)) := ⟨_, rfl⟩
    have HB := Lib.hid (show ∀ W, SS W → (Below w2.heap.size w2 W ∧ W.cell? ⟨w.heap.size, 0, none⟩ = some (.slice A p.1.length c)) from by rw [hSS]; exact fun W hW => hW)
    have HS := Lib.hid (show ∀ W, Below w2.heap.size w2 W → SS W from by
      rw [hSS]
      exact fun W hW => ⟨hW, (hW.cell (World.block_lt_of_cell? _ _ x20)).trans x20⟩)
    clear hSS
    have BB : Below w2.heap.size w2 w2.drew := (Below.refl _ _).drew
    have SB := HS.out _ BB
    have CT := Lib.hid (tabFactsG_any g (tabWith zeroT (factsX X)) (.slice A p.1.length c) p.1 w2.drew (HGR.out.at_.drew.tab) ((HA.out.on B2.out).on BB) HAR.out ((HT.out.below B2.out).below BB))
    rw [HGR.out.least HY.out, ← HRR.out] at CT
    refine wp_region_rel SS 6 7 (by kernel_rfl) rfl ?_
    refine wpAnyR_pure (i := 0) (oi := _) ?va0 rfl rfl (by kernel_rfl) (by decide) (fun _ _ _ h => h) rfl ?hya0 (fun _ => SB) ?resta0
    case hya0 => (intro W; go_simp; (try with_reducible rfl))
    try simp only [List.setIfInBounds_toArray, List.set_cons_zero, List.set_cons_succ]
    refine wpAnyR_pure (i := 1) (oi := _) ?va1 rfl rfl (by kernel_rfl) (by decide) (fun _ _ _ h => h) rfl ?hya1 (fun _ => SB) ?resta1
    case hya1 => (intro W; go_simp; (try with_reducible rfl))
    try simp only [List.setIfInBounds_toArray, List.set_cons_zero, List.set_cons_succ]
    refine wpAnyR_pure (i := 2) (oi := _) ?va2 rfl rfl (by kernel_rfl) (by decide) (fun _ _ _ h => h) rfl ?hya2 (fun _ => SB) ?resta2
    case hya2 => (intro W; go_simp; (try with_reducible rfl))
    try simp only [List.setIfInBounds_toArray, List.set_cons_zero, List.set_cons_succ]
    refine wpAnyR_pure (i := 3) (oi := _) ?va3 rfl rfl (by kernel_rfl) (by decide) (fun _ _ _ h => h) rfl ?hya3 (fun _ => SB) ?resta3
    case hya3 => (intro W; go_simp; (try with_reducible rfl))
    try simp only [List.setIfInBounds_toArray, List.set_cons_zero, List.set_cons_succ]
    refine wpAnyR_take (i := 4) (oi := _) ?va4 rfl rfl (by kernel_rfl) (fun _ _ _ h => h) rfl ?hya4 SB ?resta4
    case hya4 => (intro W hW; obtain ⟨_, E0⟩ := HB.out W hW; go_simp; (try with_reducible rfl))
    try simp only [List.setIfInBounds_toArray, List.set_cons_zero, List.set_cons_succ]
    refine wpAnyR_one (i := 5) (by kernel_rfl) rfl (fun K hK => ?_)
    try rw [if_pos (show Region.wanted _ _ = true from rfl)]
    go_simp
    refine CT.out.mono ?_
    rintro e5 w5 ⟨A5, c5, rfl, o5, b5⟩
    have H5 := Lib.hid (And.intro o5 b5)
    clear o5 b5
    have S5 := HS.out w5 (bthen BB H5.out.2)
    refine hK.out _ _ (fun _ => S5) ?_
    clear hK K
    try simp only [List.setIfInBounds_toArray, List.set_cons_zero, List.set_cons_succ, Act.put]
    refine wpAnyR_one (i := 6) (by kernel_rfl) rfl (fun K hK => ?_)
    go_simp
    refine hK.out _ _ (fun hf => absurd hf (by decide)) ?_
    clear hK K
    refine wpAnyR_done (by kernel_rfl) ?_
    clear S5 SB HB HS
    go_wp2_with fail
    go_ret
    exact ⟨A5, c5, rfl, H5.out.1.mono (Nat.le_trans B2.out.size BB.size) (Nat.le_refl _), bthen B2.out (bthen BB H5.out.2)⟩

end Go.Proofs.YtigkgheddngkeaaGreatDoor
/-
  Marks on rules and programs that are not read again: markRuleS, markProgram.
-/
namespace Go.Proofs.YtigkgheddngkeaaGreatDoor
open Go.RowKit

theorem endR_le (k : Int) (r : LRule) : k ≤ endR k r ∧ endR k r ≤ k + 2 * (szR r : Int) := by
  unfold endR endL szR
  omega
theorem totR_take_le (rs : List LRule) (j : Nat) : totR (rs.take j) ≤ totR rs := by
  have := congrArg (fun l => (l.map szR).sum) (List.take_append_drop j rs)
  simp only [List.map_append, List.sum_append] at this
  unfold totR
  omega

set_option maxHeartbeats 1000000 in
set_option maxRecDepth 100000 in
theorem wmarkRuleS_le (v : Value) (rs : List LRule) (k : Int) (lo hi : Nat) (w : World) (h : WrRules w lo hi v rs) (hk0 : 0 ≤ k) (hk : k ≤ 2097152) (hn : rs.length ≤ 1048576) (ht : totR rs ≤ 1048576) :
    Calls Tryz.prog 65 #[v, .int .i64 k] w fun e w' => ∃ z : Int, e = .returned (.int .i64 z) ∧ (k ≤ z ∧ z ≤ k + (rs.length : Int) + 2 * (totR rs : Int)) ∧ Marked lo hi w w' := by
  have H := Lib.hid h
  obtain ⟨A, c, rfl, _⟩ := h
  go_enter Tryz.func65, Tryz.ntmps65
  go_wp2_with (fail)
  go_loopw [1, 5] (fun m i wr => ∃ (j : Nat) (q : Int), j ≤ rs.length ∧ i = .int .i64 j ∧ m = .int .i64 q ∧ (k ≤ q ∧ q ≤ k + (j : Int) + 2 * (totR (rs.take j) : Int)) ∧ Marked lo hi w wr) (fun _ i _ => rs.length - (intOf i).toNat)
  case atStart => exact ⟨0, k, Nat.zero_le _, rfl, rfl, by simp [totR], Marked.refl _ _ _⟩
  case round =>
    obtain ⟨j, q, hj, rfl, rfl, ⟨hq, hq2⟩, hm⟩ := hrel
    by_cases hlt : j < rs.length
    · obtain ⟨A', c', e, _, hx⟩ := H.out.marked hm
      injection e with e1 _ e3
      subst e1
      subst e3
      obtain ⟨b, o, rfl, h1, h2, hx⟩ := hx (by omega)
      obtain ⟨⟨f0, f1⟩, u0, u1, u2, c0, c1, c2, ⟨x, rfl⟩, hI, hL⟩ := hx j hlt
      have m0 := Marked.store (p := ⟨b, o + j * 3, none⟩) ⟨h1, h2⟩ c0 q
      have hI2 := hI.marked m0
      have hL2 := hL.marked m0
      obtain ⟨A3, n3, rfl, _⟩ := hI
      obtain ⟨A4, n4, rfl, _⟩ := hL
      have d1 := m0.slice c1
      have htk := totR_take rs j hlt
      have hle := totR_take_le rs (j + 1)
      have hsz : rs[j].1.2.length + (rs[j].2.length + totL rs[j].2) = szR rs[j] := rfl
      have hq0 : 0 ≤ q := by omega
      have hq1 : q ≤ 8388608 := by omega
      have HI := Lib.hid hI2
      have HL := Lib.hid hL2
      have HM := Lib.hid (hm.trans m0)
      have HE := endR_le (q + 1) rs[j]
      clear hx hI2 hL2
      go_wp2_with (fail)
      refine (wmarkIntS_any _ _ (q + 1) lo hi _ HI.out (by omega) (by omega)).mono ?_
      rintro e w3 ⟨rfl, hm3⟩
      have d2 := (m0.trans hm3).slice c2
      have HM3 := Lib.hid (HM.out.trans hm3)
      have HL3 := Lib.hid (HL.out.marked hm3)
      clear m0 hm3 c0 c1 c2 d1
      go_wp2_with (fail)
      refine (wmarkLitS_any _ rs[j].2 _ lo hi _ HL3.out (by omega) (by omega) (by omega) (by omega)).mono ?_
      rintro e w4 ⟨rfl, hm4⟩
      have HM4 := Lib.hid (HM3.out.trans hm4)
      have HQ := Lib.hid (show k ≤ endL (q + 1 + (rs[j].1.2.length : Int)) rs[j].2 ∧ endL (q + 1 + (rs[j].1.2.length : Int)) rs[j].2 ≤ k + ((j + 1 : Nat) : Int) + 2 * (totR (rs.take (j + 1)) : Int) by
        unfold endR at HE
        rw [htk]
        omega)
      clear HE htk
      go_wp2_with (fail)
      go_roundw
      case rel => exact ⟨j + 1, _, by omega, by go_num, rfl, HQ.out, HM4.out⟩
      case measure => simp [intOf]; omega
    · have HK := Lib.hid (show k ≤ q ∧ q ≤ k + (rs.length : Int) + 2 * (totR rs : Int) by
        have := totR_take_le rs j
        omega)
      clear hq hq2
      go_wp2_with (fail)
      go_ret
      exact ⟨_, rfl, HK.out, hm⟩

set_option maxHeartbeats 400000 in
theorem wmarkProgram_le (a b : Value) (p : LProg) (k : Int) (lo hi : Nat) (w : World) (h : WrInts w lo hi a p.1.length) (h2 : WrRules w lo hi b p.2) (hk0 : 0 ≤ k) (hk : k ≤ 1048576) (hs : szP p ≤ 1048576) :
    Calls Tryz.prog 22 #[.agg #[a, b], .int .i64 k] w fun e w' => ∃ z : Int, e = .returned (.int .i64 z) ∧ (k ≤ z ∧ z ≤ k + 2 * (szP p : Int)) ∧ Marked lo hi w w' := by
  have H := Lib.hid h
  have H2 := Lib.hid h2
  have HSZ := Lib.hid (show szP p = p.1.length + (p.2.length + totR p.2) from rfl)
  unfold szP at hs
  obtain ⟨A, c, rfl, _⟩ := h
  obtain ⟨A2, c2, rfl, _⟩ := h2
  go_enter Tryz.func22, Tryz.ntmps22
  go_wp2_with (fail)
  obtain ⟨w1, hw1⟩ : ∃ w1, w1 = w.alloc (Obj.cells #[Value.slice A p.1.length c, Value.slice A2 p.2.length c2] 33) := ⟨_, rfl⟩
  have M1 : Marked lo hi w w1 := by rw [hw1]; exact Marked.of_below (below1 _ _)
  have x1 : Blk w1 w.heap.size 33 #[.slice A p.1.length c, .slice A2 p.2.length c2] := by rw [hw1]; exact Blk.new _ _ _
  rw [← hw1]
  clear hw1
  refine (wmarkIntS_any _ _ k lo hi _ (H.out.marked M1) hk0 (by omega)).mono ?_
  rintro e w2 ⟨rfl, hm2⟩
  have y2 : w2.cell? ⟨w.heap.size, 1, none⟩ = some (.slice A2 p.2.length c2) := hm2.slice (x1.cell 1)
  have M2 := M1.trans hm2
  go_wp2_with (fail)
  refine (wmarkRuleS_le _ p.2 _ lo hi _ (H2.out.marked M2) (by omega) (by omega) (by omega) (by omega)).mono ?_
  rintro e w3 ⟨z, rfl, hz, hm3⟩
  have M3 := M2.trans hm3
  have HZ := Lib.hid (show k ≤ z ∧ z ≤ k + 2 * (szP p : Int) by rw [HSZ.out]; omega)
  clear hz
  go_wp2_with (fail)
  go_ret
  exact ⟨_, rfl, HZ.out, M3⟩
theorem wmarkProgram_any (a b : Value) (p : LProg) (k : Int) (lo hi : Nat) (w : World) (h : WrInts w lo hi a p.1.length) (h2 : WrRules w lo hi b p.2) (hk0 : 0 ≤ k) (hk : k ≤ 1048576) (hs : szP p ≤ 1048576) :
    Calls Tryz.prog 22 #[.agg #[a, b], .int .i64 k] w fun e w' => ∃ z : Int, e = .returned (.int .i64 z) ∧ 0 ≤ z ∧ Marked lo hi w w' :=
  (wmarkProgram_le a b p k lo hi w h h2 hk0 hk hs).mono fun _ _ ⟨z, h1, h2, h3⟩ => ⟨z, h1, by omega, h3⟩

end Go.Proofs.YtigkgheddngkeaaGreatDoor
/-
  What comes in, its lengths.
-/
namespace Go.Proofs.YtigkgheddngkeaaGreatDoor
open Go.RowKit

theorem ruleLens_in {r : LRule} (h : ruleFitsIn r) : ruleLens r := by
  obtain ⟨h1, h2, h3⟩ := h
  unfold maxLen at *
  exact ⟨by omega, by omega, fun k hk => by have := h3 k hk; omega⟩
theorem progLens_in {p : LProg} (h : p.1.length ≤ maxLen ∧ p.2.length ≤ maxLen ∧ ∀ k (h : k < p.2.length), ruleFitsIn p.2[k]) : progLens p := by
  obtain ⟨h1, h2, h3⟩ := h
  refine ⟨?_, ?_, fun k hk => ruleLens_in (h3 k hk)⟩ <;> (unfold maxLen at *; omega)

end Go.Proofs.YtigkgheddngkeaaGreatDoor
/-
  Programs that a call has made, and their sizes and marks, in the one form that the laws' walks ask.
-/
namespace Go.Proofs.YtigkgheddngkeaaGreatDoor
open Go.RowKit

/-- A program whose two rows stand in blocks from lo on and below hi. -/
def OwnProg (w : World) (lo hi : Nat) (v : Value) (p : LProg) : Prop := ∃ a b, v = .agg #[a, b] ∧ OwnInts w lo hi a p.1 ∧ OwnRules w lo hi b p.2
theorem RdProg.more {w : World} {B B' : Nat} {v : Value} {p : LProg} (h : RdProg w B v p) (hB : B ≤ B') : RdProg w B' v p := by
  obtain ⟨a, b, rfl, h1, h2⟩ := h
  exact ⟨a, b, rfl, h1.more hB, h2.more hB⟩
theorem OwnProg.below {w w' : World} {lo hi B : Nat} {v : Value} {p : LProg} (h : OwnProg w lo hi v p) (hb : Below B w w') (hB : hi ≤ B) : OwnProg w' lo hi v p := by
  obtain ⟨a, b, rfl, h1, h2⟩ := h
  exact ⟨a, b, rfl, h1.below hb hB, h2.below hb hB⟩
theorem OwnProg.only {w w' : World} {lo hi lo' hi' : Nat} {v : Value} {p : LProg} (h : OwnProg w lo hi v p) (ho : Only lo' hi' w w') (hd : hi ≤ lo' ∨ hi' ≤ lo) (hh : hi ≤ w.heap.size) : OwnProg w' lo hi v p := by
  obtain ⟨a, b, rfl, h1, h2⟩ := h
  exact ⟨a, b, rfl, h1.only ho hd, h2.keep fun g h3 h4 => ho.block g (by omega) (by omega)⟩
theorem OwnProg.rd {w : World} {lo hi : Nat} {v : Value} {p : LProg} (h : OwnProg w lo hi v p) : RdProg w hi v p := by
  obtain ⟨a, b, rfl, h1, h2⟩ := h
  exact ⟨a, b, rfl, h1.rd, h2.rd⟩

theorem toProgram_own (v : Value) (p : LProg) (w : World) (h : RdProg w w.heap.size v p) (hn : szP p ≤ 1048576) :
    Calls Tryz.prog 16 #[v] w fun e w' => ∃ A c A2 c2, e = .returned (.agg #[.slice A p.1.length c, .slice A2 p.2.length c2]) ∧ OwnProg w' w.heap.size w'.heap.size (.agg #[.slice A p.1.length c, .slice A2 p.2.length c2]) p ∧ Below w.heap.size w w' :=
  (toProgram_any v p w h hn).mono fun _ _ ⟨A, c, A2, c2, he, h1, h2, hb⟩ => ⟨A, c, A2, c2, he, ⟨_, _, rfl, h1, h2⟩, hb⟩

theorem us_prog {v : Value} {p : LProg} {left : Int} {w : World} (h : RdProg w w.heap.size v p) (h0 : 0 ≤ left) (hl : left ≤ 1048576) (hn : progLens p) :
    Calls Tryz.prog 13 #[v, .int .i64 left] w fun e w' => ∃ z, e = .returned (.int .i64 z) ∧ (z = -1 ∨ (0 ≤ z ∧ z + szP p = left)) ∧ Below w.heap.size w w' :=
  szProgram_any v p left w h h0 hl hn

theorem um_prog {v : Value} {p : LProg} {lo hi : Nat} {w : World} (k : Int) (h : OwnProg w lo hi v p) (hk0 : 0 ≤ k) (hk : k ≤ 1048576) (hs : szP p ≤ 1048576) :
    Calls Tryz.prog 22 #[v, .int .i64 k] w fun e w' => ∃ z, e = .returned (.int .i64 z) ∧ k ≤ z ∧ z ≤ k + 2 * (szP p : Int) ∧ True ∧ Only lo hi w w' := by
  obtain ⟨a, b, rfl, h1, h2⟩ := h
  exact (wmarkProgram_le a b p k lo hi w h1.wr h2.wr hk0 hk hs).mono fun _ _ ⟨z, he, hz, hm⟩ => ⟨z, he, hz.1, hz.2, trivial, hm.only⟩

end Go.Proofs.YtigkgheddngkeaaGreatDoor
/-
  What comes in, opened into the words of the Base text.
-/
namespace Go.Proofs.YtigkgheddngkeaaGreatDoor
open Go.ChangeShapes Go.WideShapes Go.ChangeAt Go.RowKit Go.Joins Go.Deep

section
variable {H : Type} {enc : TypeId × Value → H} {W : World}

def InFact (W : World) (v : Value) (f : LFact) : Prop := RdFact W W.heap.size v f ∧ f.2.length ≤ maxLen
def InFacts (W : World) (v : Value) (fs : List LFact) : Prop := RdFacts W W.heap.size v fs ∧ fs.length ≤ maxLen ∧ ∀ k (h : k < fs.length), fs[k].2.length ≤ maxLen

theorem Tryz.cells65 : Tryz.prog.cellsOf 65 = 2 := by kernel_rfl
set_option maxRecDepth 100000 in
theorem open_inFact {v : Value} {d : DataW H} {p : List MemPlace} {b0 : Nat} (hv : Value.okWide Tryz.prog W .any b0 65 v) (h : DataW.Trod enc Tryz.prog W 0 (fun _ => true) true 65 v d p) :
    ∃ f, InFact W v f := by
  obtain ⟨v0, v1, y0, y1, n, rfl, _, _, h0, h1⟩ := open_agg2 Tryz.underlying65 (by kernel_rfl) Tryz.cells65 hv h
  obtain ⟨m, e0, _, _⟩ := DataW.trod_int Tryz.underlying3 h0
  simp at e0
  subst e0
  obtain ⟨xs, hx⟩ := open_inInts_cells h1
  exact ⟨(m, xs), ⟨v1, rfl, hx.1⟩, hx.2⟩

set_option maxRecDepth 100000 in
theorem open_inFacts {v : Value} {d : DataW H} {p : List MemPlace} {b0 : Nat} (hv : Value.okWide Tryz.prog W .any b0 26 v) (h : DataW.Trod enc Tryz.prog W 0 (fun _ => true) true 26 v d p) :
    ∃ fs, InFacts W v fs := by
  obtain ⟨a, len, cap, rfl⟩ := okWide_slice Tryz.underlying26 hv
  obtain ⟨fuel, hf⟩ := h
  rcases open_slice_pairs Tryz.underlying26 Tryz.underlying65 Tryz.cells65 rfl rfl Tryz.cells3 Tryz.cells22 hf with ⟨hcs, _⟩ | ⟨a', len', cap', m, n, V0, V1, D0, D1, P0, P1, hcs, _, hl, hm, hmm, _, hx⟩
  · simp [Value.cells] at hcs
    obtain ⟨rfl, rfl, rfl⟩ := hcs
    exact ⟨[], ⟨none, 0, rfl, by simp, fun h => absurd h (by simp)⟩, by simp, fun k h => absurd h (by simp)⟩
  · simp [Value.cells] at hcs
    obtain ⟨rfl, rfl, rfl⟩ := hcs
    simp at hmm
    subst hmm
    obtain ⟨F, hF⟩ := choose_lt (α := LFact) (n := len) (p := fun i f => V0 i = .int .i64 f.1 ∧ InInts W (V1 i) f.2) (fun i hi => by
      obtain ⟨_, _, h0, h1⟩ := hx i (by omega)
      obtain ⟨q, e0, _, _⟩ := DataW.trod_int Tryz.underlying3 h0
      obtain ⟨xs, hxs⟩ := open_inInts_cells h1
      simp at e0
      exact ⟨(q, xs), e0, hxs⟩)
    refine ⟨(List.range len).map F, ⟨some a', m, by simp, by simpa using hl, fun hn => ?_⟩, by simp; omega, fun k hk => ?_⟩
    · simp at hn
      obtain ⟨b, off, spot⟩ := a'
      have hspot : spot = none := by simpa [Addr.add] using World.cell?_spot (hx 0 (by omega)).1
      subst hspot
      have hb : b < W.heap.size := by simpa [Addr.add] using World.block_lt_of_cell? _ _ (hx 0 (by omega)).1
      refine ⟨b, off, rfl, hb, fun k hk => ?_⟩
      simp at hk
      obtain ⟨c0, c1, _, _⟩ := hx k (by omega)
      obtain ⟨e0, e1⟩ := hF k hk
      rw [Go.WideShapes.add_plain, e0] at c0
      rw [Go.WideShapes.add_plain] at c1
      exact ⟨V1 k, by simpa using c0, by simpa [Nat.add_assoc] using c1, by simpa using e1.1⟩
    · simp at hk ⊢
      exact (hF k hk).2.2
end

end Go.Proofs.YtigkgheddngkeaaGreatDoor
