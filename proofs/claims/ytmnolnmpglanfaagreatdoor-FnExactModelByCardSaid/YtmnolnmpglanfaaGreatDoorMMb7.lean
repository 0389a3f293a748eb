/-
  Texts that the claim's last one imports, laid together: part 7 of 15. No condition of its own.
-/
import Derived.Deep.Cut
import Derived.Deep.CutRange
import Derived.Laws.IdiomCopy
import Derived.Deep.RegionLaw
import Derived.Test.YtmnolnmpglanfaaGreatDoorMMb2
import Derived.Test.YtmnolnmpglanfaaGreatDoorMMb3
import Derived.Test.YtmnolnmpglanfaaGreatDoorMMb6
namespace Go.Proofs.YtmnolnmpglanfaaGreatDoor
open Go.RowKit Go.Sort Go.Shelf
theorem ColB.drewN {w wr : World} {S : List (List Int)} {A : Option Addr} {c : Nat} (h : ColB w wr S A c) (n : Nat) : ColB w (wr.drewN n) S A c := h.later (bdrewN (Below.refl _ _) n)
set_option maxHeartbeats 4000000 in
set_option maxRecDepth 100000 in
theorem joinRows_any (lo hi V : Nat) (v0 v1 : Value) (S R : List (List Int)) (w : World) (h0 : RdW w lo v0 S) (h1 : OwnW w lo hi v1 R) (hhi : hi <= w.heap.size) (hlo : lo <= w.heap.size)
 (hS : ∀ b ∈ S, bindOk b = true) (hR : ∀ b ∈ R, bindOk b = true) (hag : ∀ s ∈ S, ∀ r ∈ R, keyV V r = keyV V s -> ∀ u, u < 4 -> s.getD u (-1) = -1 \/ r.getD u (-1) = -1 \/ s.getD u (-1) = r.getD u (-1))
 (hnS : S.length <= 65536) (hnR : R.length <= 65536) :
 Calls Tryz.prog 279 #[v0, v1, .int .u32 ((maskW V : Nat) : Int)] w fun e w' =>
  ∃ A c R', R'.Perm R /\ e = .returned (.slice A (joinL V R' S).length c) /\ OwnW w' w.heap.size w'.heap.size (.slice A (joinL V R' S).length c) (joinL V R' S) /\ Only lo hi w w' := by
 obtain ⟨i0, hi0, hz0, hz1, hz2⟩ := info_parts Tryz.infoWord
 have H0 := Lib.hid h0
 have HS := Lib.hid hS
 have HR := Lib.hid hR
 have HAG := Lib.hid hag
 obtain ⟨A0, c0, rfl, hc0, _⟩ := h0
 obtain ⟨A1, c1, rfl⟩ := h1.form
 obtain ⟨N, hN⟩ : ∃ N, N = R.length := ⟨_, rfl⟩
 rw [<- hN] at h1 hnR ⊢
 have H1 := Lib.hid h1
 have HN := Lib.hid hN
 clear hS hR hag h1 hN
 go_enter Tryz.func279, Tryz.ntmps279
 obtain ⟨w1, hw1⟩ : ∃ w1, w1 = w.alloc (Obj.cells #[Value.int IntKind.u32 ((maskW V : Nat) : Int)] 180) := ⟨_, rfl⟩
 have B1 : Below w.heap.size w w1 := by rw [hw1]; exact below1 _ _
 have X1 : Blk w1 w.heap.size 180 #[.int .u32 ((maskW V : Nat) : Int)] := by rw [hw1]; exact Blk.new _ _ _
 have Z1 : w1.heap.size = w.heap.size + 1 := by rw [hw1]; simp
 have HSF := Lib.hid (sortF_words lo hi w.heap.size V (.slice A1 N c1) R w1 (H1.out.below B1 hhi) HR.out (by rw [<- HN.out]; omega) (.inr hhi) (X1.cell 0))
 rw [hw1] at HSF
 have HW1 := Lib.hid hw1
 clear hw1
 go_upto_region 3 with (go_at_call 285; refine HSF.out.mono ?_; rintro e w2 ⟨rfl, R', hp, hup, own2, only2⟩)
 rw [<- HW1.out] at only2
 have HL' := Lib.hid (show R'.length = N by rw [HN.out]; exact hp.length_eq)
 have hz : w1.heap.size <= w2.heap.size := only2.size
 have X2 : Blk w2 w.heap.size 180 #[.int .u32 ((maskW V : Nat) : Int)] := X1.only only2 (.inr hhi)
 have R0 : RdW w2 lo (.slice A0 S.length c0) S := by
  have := H0.out.below B1 hlo
  exact this.below (only2.below (Nat.le_refl _) (Nat.le_trans hlo B1.size)) (Nat.le_refl _)
 have HX2 := Lib.hid X2
 have HR0 := Lib.hid (R0.more (show lo <= w2.heap.size by omega))
 have HO2 := Lib.hid (own2.rd.more (show hi <= w2.heap.size by omega))
 have HUP := Lib.hid hup
 have HP := Lib.hid hp
 have HRR := Lib.hid (fun r (hr : r ∈ R') => HR.out r (hp.mem_iff.1 hr))
 have HON := Lib.hid (show Only lo hi w w2 from ⟨only2.os.trans B1.os, only2.tape.trans B1.tape, only2.output.trans B1.output, by omega, fun k hk ho => (only2.block k (by omega) ho).trans (B1.block k hk)⟩)
 clear X2 R0 own2 only2 hup hp HSF HW1 X1 B1
 go_wp2_with fail
 go_loopg [8, 19] S.length (fun q vo vi wr => ∃ (k : Nat) (A : Option Addr) (c : Nat), vi = .int .i64 k /\ k <= S.length /\ q = S.length - k /\ vo = .slice A (joinL V R' (S.take k)).length c /\ ColB w2 wr (joinL V R' (S.take k)) A c)
 case atStart => exact ⟨0, none, 0, rfl, Nat.zero_le _, rfl, rfl, ColB.nil (Below.refl _ _)⟩
 case round =>
  obtain ⟨k, A, c, rfl, hk, hq, rfl, hcol⟩ := hrel
  have HC := Lib.hid hcol
  have hB := hcol.below
  have q0 : wr.cell? ⟨w.heap.size, 0, none⟩ = some (.int .u32 ((maskW V : Nat) : Int)) := (HX2.out.below hB HX2.out.lt).cell 0
  have HBW := Lib.hid hB
  clear hcol hB
  by_cases hlt : k < S.length
  ·obtain ⟨b0, o0, rfl, hb0, k0⟩ := (HR0.out.on HBW.out).get hlt
   have hsk : S[k] ∈ S := List.getElem_mem hlt
   have HSE := Lib.hid (searchF_words (.slice A1 N c1) R' S[k] w.heap.size V wr (HO2.out.on HBW.out) HRR.out (HS.out _ hsk) HUP.out (by rw [HL'.out]; omega) q0)
   have HSO := Lib.hid (HS.out _ hsk)
   have HJT := Lib.hid (joinL_take (V := V) (R := R') hlt)
   have HJL := Lib.hid (joinL_len V R' (S.take k))
   obtain ⟨s, hs⟩ : ∃ s, s = S[k] := ⟨_, rfl⟩
   rw [<- hs] at k0 HSE HSO HJT
   have HSK := Lib.hid (show s ∈ S by rw [hs]; exact hsk)
   clear hs hsk
   go_upto_region 8 with (go_at_call 286; refine HSE.out.mono ?_; rintro e w3 ⟨⟨p, ok, rfl, hpn, hl, hf⟩, rfl⟩; rw [HL'.out] at hpn; have HLF := Lib.hid (And.intro hl hf); clear hl hf)
   obtain ⟨T0, hT0⟩ : ∃ T0, T0 = joinL V R' (S.take k) := ⟨_, rfl⟩
   rw [<- hT0] at HC HJT HJL ⊢
   have hT0l : T0.length <= 4294967296 := by
    have h1 := HJL.out
    have h2 : (S.take k).length * R'.length <= 65536 * 65536 := Nat.mul_le_mul (by simp; omega) (by rw [HL'.out]; exact hnR)
    omega
   have HQ := Lib.hid hq
   clear hT0 k0 hq HSE q0
   go_loopg [8, 11] N (fun q vo vi wx => ∃ (t : Nat) (T : List (List Int)) (A : Option Addr) (c : Nat), vi = .int .i64 t /\ p <= t /\ t <= N /\ N - t <= q /\ vo = .slice A T.length c /\ ColB w2 wx T A c /\ Hid (T = T0 ++ ((R'.drop p).take (t - p)).map (over s) /\ ∀ j (h : j < R'.length), p <= j -> j < t -> keyV V R'[j] = keyV V s))
   case atStart => exact ⟨p, T0, A, c, rfl, Nat.le_refl _, hpn, by omega, rfl, HC.out, by simp, fun j _ h1 h2 => absurd h1 (by omega)⟩
   case round =>
    obtain ⟨t, T, A2, c2, rfl, hpt, htN, hgk2, rfl, hcol2, HT⟩ := hrel
    have HC2 := Lib.hid hcol2
    have HB2 := Lib.hid hcol2.below
    have q0 : wr.cell? ⟨w.heap.size, 0, none⟩ = some (.int .u32 ((maskW V : Nat) : Int)) := (HX2.out.below HB2.out HX2.out.lt).cell 0
    clear hcol2
    by_cases htl : t < N
    ·have htR : t < R'.length := by have := HL'.out; omega
     obtain ⟨b1, o1, rfl, hb1, k1⟩ := (HO2.out.on HB2.out).get htR
     have hrR : R'[t] ∈ R' := List.getElem_mem htR
     have HRO := Lib.hid (HRR.out _ hrR)
     have HAG2 := Lib.hid (HAG.out s HSK.out R'[t] (HP.out.mem_iff.1 hrR))
     have HTK := Lib.hid (show ((R'.drop p).take (t + 1 - p)) = ((R'.drop p).take (t - p)) ++ [R'[t]] by
      rw [show t + 1 - p = (t - p) + 1 by omega, take_snoc (R'.drop p) (t - p) (by simp; omega)]
      congr 2
      simp
      congr 1
      omega)
     obtain ⟨r, hr⟩ : ∃ r, r = R'[t] := ⟨_, rfl⟩
     have HRT := Lib.hid hr
     rw [<- hr] at k1 HRO HAG2 HTK
     clear hr hrR
     have e1 : bits .and .u32 ((encB r : Nat) : Int) ((maskW V : Nat) : Int) = ((keyV V r : Nat) : Int) := by rw [and_word32 (encB_lt HRO.out) (maskW_lt V), enc_restr HRO.out]; rfl
     have e2 : bits .and .u32 ((encB s : Nat) : Int) ((maskW V : Nat) : Int) = ((keyV V s : Nat) : Int) := by rw [and_word32 (encB_lt HSO.out) (maskW_lt V), enc_restr HSO.out]; rfl
     by_cases he : keyV V r = keyV V s
     ·have he2 : (((keyV V r : Nat) : Int) == ((keyV V s : Nat) : Int)) = true := by simp [he]
      have e3 : bits .or .u32 ((encB s : Nat) : Int) ((encB r : Nat) : Int) = ((encB (over s r) : Nat) : Int) := by rw [or_word32 (encB_lt HSO.out) (encB_lt HRO.out), enc_over HSO.out HRO.out (HAG2.out he)]
      have HE := Lib.hid he
      have hTl : T.length <= T0.length + N := by
       rw [HT.out.1, List.length_append, List.length_map]
       have : ((R'.drop p).take (t - p)).length <= N := by rw [List.length_take, List.length_drop, HL'.out]; omega
       omega
      clear he
      go_wp2_with fail
      go_big_quiet (fail)
      go_wp2_with (at_builtin; refine wpList_append_lies _ rfl (.tmp 48) (.tmp 55) 248 rfl w2.heap.size 180 i0 (.int .u32 0) 1 4 Tryz.underlying248 hi0 hz0 hz1 hz2 rfl (by decide) (.slice A2 T.length c2) T.length (T.map wd) rfl ?c1 ⟨_, 0, none⟩ 1 1 [wd (over s r)] rfl rfl (news1s _ _ _ _ (by simp)) ?c2 (by omega) (by unfold maxLen; omega) (by omega) ?c3 _ rfl ?_)
      case c1 => exact (HC2.out.drewN nq).own.1.alloc _
      case c2 => intro u hu; simp at hu; subst hu; rfl
      case c3 => have := HB2.out.size; simp; omega
      intro g cap w4 hown hg _ _
      have hcolN := (HC2.out.drewN nq).push (Below.refl _ _) hg hown
      have HCN := Lib.hid hcolN
      have hlen : T.length + 1 = (T ++ [over s r]).length := by simp
      rw [hlen]
      clear hcolN hown hg hlen
      go_wp2_with fail
      go_roundg (N - (t + 1))
      case measure => omega
      case rel => exact ⟨t + 1, T ++ [over s r], _, _, by go_num, by omega, by omega, Nat.le_refl _, rfl, HCN.out, by rw [HTK.out, List.map_append, <- List.append_assoc, <- HT.out.1]; rfl, fun j h h1 h2 => by
       by_cases ej : j = t
       ·subst ej
        rw [<- HRT.out]
        exact HE.out
       ·exact HT.out.2 j h h1 (by omega)⟩
     ·have he2 : (((keyV V r : Nat) : Int) == ((keyV V s : Nat) : Int)) = false := by simp; omega
      have HFIN := Lib.hid (show joinL V R' (S.take (k + 1)) = T by
       rw [HJT.out, HT.out.1, run_all HUP.out hpt (by omega) HLF.out.1 HLF.out.2 HT.out.2 (fun _ => by rw [<- HRT.out]; exact he)])
      clear he
      go_wp2_with fail
      go_big_quiet (fail)
      go_wp2_with fail
      go_roundg (S.length - (k + 1))
      case measure => (have := HQ.out; omega)
      case rel => exact ⟨k + 1, _, _, by go_num, by omega, rfl, by rw [HFIN.out], by rw [HFIN.out]; exact HC2.out.drewN nq⟩
    ·have HFIN := Lib.hid (show joinL V R' (S.take (k + 1)) = T by
      rw [HJT.out, HT.out.1, run_all HUP.out hpt (by have := HL'.out; omega) HLF.out.1 HLF.out.2 HT.out.2 (fun h => absurd h (by have := HL'.out; omega))])
     have htlz : decide ((t : Int) < (N : Int)) = false := decide_eq_false (by omega)
     go_wp2_with fail
     go_big_quiet (fail)
     go_wp2_with fail
     go_roundg (S.length - (k + 1))
     case measure => (have := HQ.out; omega)
     case rel => exact ⟨k + 1, _, _, by go_num, by omega, rfl, by rw [HFIN.out], by rw [HFIN.out]; exact HC2.out.drewN nq⟩
  ·have HFIN := Lib.hid (show S.take k = S from List.take_of_length_le (by omega))
   have HF2 := Lib.hid (show Only lo hi w wr from HON.out.trans (Only.of_below HBW.out))
   go_wp2_with fail
   go_ret
   refine ⟨A, c, R', HP.out, ?_, ?_, HF2.out⟩
   ·rw [HFIN.out]
    rfl
   ·have := HC.out.own
    rw [HFIN.out] at this
    exact this.mono (by omega) (Nat.le_refl _)
open Go.RowKit
theorem maskW_and (V M : Nat) : maskW V &&& maskW M = maskW (V &&& M) := by
 have key : ∀ a b : Bool, bit15 a &&& bit15 b = bit15 (a && b) := by decide
 unfold maskW
 rw [nib_and (bit15_lt _) (bit15_lt _), nib_and (bit15_lt _) (bit15_lt _), nib_and (bit15_lt _) (bit15_lt _), key, key, key, key, Nat.testBit_and, Nat.testBit_and, Nat.testBit_and, Nat.testBit_and]
theorem or_same {K M : Nat} (_hK : K < 16) (hM : M < 16) (h : ∀ v, v < 4 -> M.testBit v = true -> K.testBit v = true) : K ||| M = K := by
 apply Nat.eq_of_testBit_eq
 intro i
 rw [Nat.testBit_or]
 by_cases hi : i < 4
 ·cases hm : M.testBit i
  ·rw [Bool.or_false]
  ·rw [h i hi hm]; rfl
 ·have : M < 2 ^ i := Nat.lt_of_lt_of_le hM (by
   have := Nat.pow_le_pow_right (n := 2) (by decide) (show 4 <= i by omega)
   simpa using this)
  rw [Nat.testBit_lt_two_pow this, Bool.or_false]
def RdQC (w : World) (B : Nat) (u0 u1 u2 u3 : Value) (q : LQ) : Prop := u0 = .int .i64 q.1.1 /\ u1 = .int .i64 q.1.2.1 /\ RdInts w B u2 q.1.2.2 /\ RdFacts w B u3 q.2
structure QOk (q : LQ) : Prop where
 kind : q.1.1 = 0 \/ q.1.1 = 1 \/ q.1.1 = 2 \/ q.1.1 = 3
 terms : q.1.2.2.all termOk = true
 consts : ∀ f ∈ q.2, f.2.all constOk = true
 args : q.1.2.2.length <= 1048576
 len : q.2.length <= 1048576
 tot : tot q.2 <= 1048576
set_option maxHeartbeats 4000000 in
set_option maxRecDepth 100000 in
theorem ask_any (lo hi K : Nat) (u0 u1 u2 u3 v : Value) (q : LQ) (Q : List LQ) (S : List (List Int)) (w : World) (hq : RdQC w lo u0 u1 u2 u3 q) (hok : QOk q) (hs : OwnW w lo hi v S) (hhi : hi <= w.heap.size) (hlo : lo <= hi) (hS : Sols K Q S) (hne : S ≠ []) (hK : K < 16)
 (hv : q.1.1 ≠ 0 -> ∀ v, v < 4 -> (maskOf q.1.2.2).testBit v = true -> K.testBit v = true) :
 Calls Tryz.prog 270 #[.agg #[u0, u1, u2, u3], v, .int .u64 (K : Nat)] w fun e w' =>
  ∃ A c S', e = .returned (.slice A S'.length c) /\ OwnW w' lo w'.heap.size (.slice A S'.length c) S' /\ Only lo hi w w' /\ Sols (K ||| maskOf q.1.2.2) (q :: Q) S' := by
 obtain ⟨rfl, rfl, hu2, hu3⟩ := hq
 have H2 := Lib.hid (hu2.more (show lo <= w.heap.size by omega))
 have H3 := Lib.hid (hu3.more (show lo <= w.heap.size by omega))
 have HL := Lib.hid hu2
 have HOK := Lib.hid hok
 have HS := Lib.hid hS
 have HOW := Lib.hid hs
 obtain ⟨A2, c2, rfl, hc2, _⟩ := hu2
 obtain ⟨A3, c3, rfl, hc3, _⟩ := hu3
 have hSok : ∀ b ∈ S, bindOk b = true := fun b hb => ((hS.mem b).1 hb).1
 have HSO := Lib.hid hSok
 have hnS := binds_len hS.nodup hSok
 have hkd := hok.kind
 obtain ⟨A0, c0, rfl⟩ := hs.form
 obtain ⟨w1, hw1⟩ : ∃ w1, w1 = w.alloc (Obj.cells #[Value.int IntKind.i64 q.1.1, Value.int IntKind.i64 q.1.2.1, Value.slice A2 q.1.2.2.length c2, Value.slice A3 q.2.length c3] 276) := ⟨_, rfl⟩
 have B1 : Below w.heap.size w w1 := by rw [hw1]; exact below1 _ _
 have X1 : Blk w1 w.heap.size 276 #[.int .i64 q.1.1, .int .i64 q.1.2.1, .slice A2 q.1.2.2.length c2, .slice A3 q.2.length c3] := by rw [hw1]; exact Blk.new _ _ _
 have Z1 : w1.heap.size = w.heap.size + 1 := by rw [hw1]; simp
 have HAV := Lib.hid (argVars_any (.slice A2 q.1.2.2.length c2) q.1.2.2 w1.heap.size w1 (H2.out.on B1) hok.args)
 have hM := maskOf_lt q.1.2.2
 have HBM := Lib.hid (fun W => bindingMask_any (maskOf q.1.2.2) hM W)
 have HBK := Lib.hid (fun W => bindingMask_any K hK W)
 have HAR := Lib.hid (atomRows_any (.slice A3 q.2.length c3) (.agg #[.int .i64 q.1.2.1, .slice A2 q.1.2.2.length c2]) q.2 q.1.2 w1 (H3.out.on B1) ⟨_, rfl, H2.out.on B1⟩ hok.terms hok.consts hok.len hok.tot hok.args)
 have HX := Lib.hid (And.intro B1 X1)
 have q0 : w1.cell? ⟨w.heap.size, 0, none⟩ = some (.int .i64 q.1.1) := X1.cell 0
 have q1 : w1.cell? ⟨w.heap.size, 1, none⟩ = some (.int .i64 q.1.2.1) := X1.cell 1
 have q2 : w1.cell? ⟨w.heap.size, 2, none⟩ = some (.slice A2 q.1.2.2.length c2) := X1.cell 2
 have q3 : w1.cell? ⟨w.heap.size, 3, none⟩ = some (.slice A3 q.2.length c3) := X1.cell 3
 have hlt1 : w.heap.size < w1.heap.size := by omega
 have hand : bits .and .u32 ((maskW (maskOf q.1.2.2) : Nat) : Int) ((maskW K : Nat) : Int) = ((maskW (maskOf q.1.2.2 &&& K) : Nat) : Int) := by rw [and_word32 (maskW_lt _) (maskW_lt _), maskW_and]
 have HV := Lib.hid hv
 clear hs hS hok hv X1 B1 hSok
 rw [hw1] at HAV HAR q0 q1 q2 q3
 have HW1 := Lib.hid hw1
 clear hw1
 rcases hkd with hk | hk | hk | hk
 ·rw [hk] at HAV HAR HX HW1 q0 q1 q2 q3 ⊢
  have HK := Lib.hid hk
  clear hk
  go_enter Tryz.func270, Tryz.ntmps270
  go_upto_region 4 with (first
   | (go_at_call 265; refine HAV.out.mono ?_; rintro e w' ⟨rfl, rfl⟩)
   | (go_at_call 278; refine (HBM.out _).mono ?_; rintro e w' ⟨rfl, rfl⟩))
  go_wp2_with (first
   | (go_at_call 278; refine (HBK.out _).mono ?_; rintro e w' ⟨rfl, rfl⟩)
   | (go_at_call 280; refine HAR.out.mono ?_; rintro e w2 ⟨A4, c4, R, rfl, ownR, hb2, hup, hmem⟩
      rw [<- HW1.out] at ownR hb2
      have HB2 := Lib.hid hb2
      have HRO := Lib.hid (rowsOf_of HOK.out.terms HOK.out.consts hup hmem)
      have hRok : ∀ b ∈ R, bindOk b = true := fun b hb => ((HRO.out.2 b).1 hb).1
      have HJ := Lib.hid (joinRows_any w1.heap.size w2.heap.size (maskOf q.1.2.2 &&& K) (.slice A0 S.length c0) (.slice A4 R.length c4) S R w2 ((HOW.out.rd.below (bthen HX.out.1 hb2) hhi).more (by omega)) ownR (Nat.le_refl _) hb2.size HSO.out hRok
       (fun s hs r hr hkey => agree_of (HSO.out s hs) (hRok r hr) ((HS.out.mem s).1 hs).2.1 ((HRO.out.2 r).1 hr).2.1 hkey) hnS (binds_len HRO.out.1 hRok))
      clear ownR hb2 hup hmem hRok)
   | (go_at_call 279; refine HJ.out.mono ?_; rintro e w3 ⟨A5, c5, R', hp, rfl, own5, only5⟩
      have H5 := Lib.hid (And.intro hp (And.intro own5 only5)); clear hp own5 only5))
  go_ret
  obtain ⟨hp, own5, only5⟩ := H5.out
  have hz2 := HB2.out.size
  refine ⟨_, _, _, rfl, own5.mono (by omega) (Nat.le_refl _), Only.of_below (Only.then_ (bthen HX.out.1 HB2.out) only5 (by omega)), HS.out.yes HK.out HOK.out.terms (HRO.out.perm hp)⟩
 ·rw [hk] at HAV HAR HX HW1 q0 q1 q2 q3 ⊢
  have HK := Lib.hid hk
  clear hk
  go_enter Tryz.func270, Tryz.ntmps270
  go_upto_region 6 with (first
   | (go_at_call 265; refine HAV.out.mono ?_; rintro e w' ⟨rfl, rfl⟩)
   | (go_at_call 278; refine (HBM.out _).mono ?_; rintro e w' ⟨rfl, rfl⟩))
  go_wp2_with (first
   | (go_at_call 280; refine HAR.out.mono ?_; rintro e w2 ⟨A4, c4, R, rfl, ownR, hb2, hup, hmem⟩
      rw [<- HW1.out] at ownR hb2
      have HB2 := Lib.hid hb2
      have HRO := Lib.hid (rowsOf_of HOK.out.terms HOK.out.consts hup hmem)
      have hRok : ∀ b ∈ R, bindOk b = true := fun b hb => ((HRO.out.2 b).1 hb).1
      have hnR := binds_len HRO.out.1 hRok
      have HJ := Lib.hid (denyRows_any lo hi (maskOf q.1.2.2) (.slice A0 S.length c0) (.slice A4 R.length c4) S R w2 (HOW.out.below (bthen HX.out.1 hb2) hhi) w1.heap.size w2.heap.size ownR (by omega) (Nat.le_refl _) (by have := hb2.size; omega) HSO.out hne hup (by omega) (by omega))
      clear ownR hb2 hup hmem hRok hnR)
   | (go_at_call 281; refine HJ.out.mono ?_; rintro e w3 ⟨A5, c5, rfl, own5, only5⟩
      have H5 := Lib.hid (And.intro own5 only5); clear own5 only5))
  go_ret
  obtain ⟨own5, only5⟩ := H5.out
  have hz2 := HB2.out.size
  have hv := HV.out (by rw [HK.out]; decide)
  refine ⟨_, _, _, rfl, own5.mono (Nat.le_refl _) (by have := only5.size; omega), (Only.of_below (bthen HX.out.1 HB2.out)).trans only5, ?_⟩
  rw [or_same hK hM hv]
  exact HS.out.keep HOK.out.terms hv _ (deny_is HS.out HK.out HOK.out.terms hv HRO.out)
 all_goals
  have hv := HV.out (by rw [hk]; decide)
  have HJ := Lib.hid (compareTerms_any lo hi (.slice A0 S.length c0) (.agg #[.int .i64 q.1.1, .int .i64 q.1.2.1, .slice A2 q.1.2.2.length c2]) S q.1 w1 (HOW.out.below HX.out.1 hhi) (by omega) ⟨_, rfl, HL.out.below HX.out.1 (by omega)⟩ (by omega) (by omega) HOK.out.terms HSO.out hne (by omega) HOK.out.args _ rfl)
  have HK := Lib.hid hk
  rw [HW1.out] at HJ
  rw [hk] at HAV HAR HX HW1 HJ q0 q1 q2 q3 ⊢
  clear hk
  go_enter Tryz.func270, Tryz.ntmps270
  go_upto_region 7 with (first
   | (go_at_call 265; refine HAV.out.mono ?_; rintro e w' ⟨rfl, rfl⟩)
   | (go_at_call 278; refine (HBM.out _).mono ?_; rintro e w' ⟨rfl, rfl⟩))
  go_wp2_with (go_at_call 282; refine HJ.out.mono ?_; rintro e w3 ⟨A5, c5, rfl, own5, only5⟩; rw [<- HW1.out] at only5; have H5 := Lib.hid (And.intro own5 only5); clear own5 only5)
  go_ret
  obtain ⟨own5, only5⟩ := H5.out
  refine ⟨_, _, _, rfl, own5.mono (Nat.le_refl _) (by have := only5.size; omega), (Only.of_below HX.out.1).trans only5, ?_⟩
  rw [or_same hK hM hv]
  refine HS.out.keep HOK.out.terms hv _ fun b _ => ?_
  unfold holdsQ litHolds
  rw [if_pos (by have := HK.out; omega)]
  simp only [HK.out, List.getD_eq_getElem?_getD]
open Go.RowKit
abbrev QV := Value × Value × Value × Value
def flatQ : List QV -> List Value
 | [] => []
 | u :: us => u.1 :: u.2.1 :: u.2.2.1 :: u.2.2.2 :: flatQ us
theorem flatQ_length : ∀ us : List QV, (flatQ us).length = us.length * 4
 | [] => rfl
 | u :: us => by simp only [flatQ, List.length_cons, flatQ_length us]; omega
theorem flatQ_append : ∀ us vs : List QV, flatQ (us ++ vs) = flatQ us ++ flatQ vs
 | [], vs => rfl
 | u :: us, vs => by simp only [List.cons_append, flatQ, flatQ_append us vs]
theorem flatQ_at : ∀ (us : List QV) (k : Nat) (h : k < us.length), (flatQ us)[k * 4]? = some us[k].1 /\ (flatQ us)[k * 4 + 1]? = some us[k].2.1 /\ (flatQ us)[k * 4 + 2]? = some us[k].2.2.1 /\ (flatQ us)[k * 4 + 3]? = some us[k].2.2.2
 | u :: us, 0, _ => ⟨rfl, rfl, rfl, rfl⟩
 | u :: us, k + 1, h => by
  have ih := flatQ_at us k (by simpa using h)
  have e : ∀ r, (flatQ (u :: us))[(k + 1) * 4 + r]? = (flatQ us)[k * 4 + r]? := fun r => by
   rw [show (k + 1) * 4 + r = (k * 4 + r) + 1 + 1 + 1 + 1 by omega]
   rfl
  have e0 := e 0
  rw [Nat.add_zero, Nat.add_zero] at e0
  rw [e0, e 1, e 2, e 3]
  exact ih
theorem flatQ_take : ∀ (us : List QV) (i : Nat), flatQ (us.take i) = (flatQ us).take (i * 4)
 | [], i => by simp [flatQ]
 | u :: us, 0 => by simp [flatQ]
 | u :: us, i + 1 => by
  rw [show (i + 1) * 4 = i * 4 + 1 + 1 + 1 + 1 by omega]
  simp only [List.take_succ_cons, flatQ, flatQ_take us i]
theorem flatQ_drop : ∀ (us : List QV) (i : Nat), flatQ (us.drop i) = (flatQ us).drop (i * 4)
 | [], i => by simp [flatQ]
 | u :: us, 0 => by simp
 | u :: us, i + 1 => by
  rw [show (i + 1) * 4 = i * 4 + 1 + 1 + 1 + 1 by omega]
  simp only [List.drop_succ_cons, flatQ, flatQ_drop us i]
def AtQ (w : World) (g c : Nat) (us : List QV) : Prop :=
 ∃ cur, w.heap[g]? = some (.cells cur 276 (0, 0)) /\ us.length <= c /\ c <= maxLen /\ cur.size = c * 4 /\ cur.toList.take (us.length * 4) = flatQ us
def RdQs (w : World) (B : Nat) (us : List QV) (qs : List LQ) : Prop := us.length = qs.length /\ ∀ k (h : k < us.length) (h2 : k < qs.length), RdQC w B us[k].1 us[k].2.1 us[k].2.2.1 us[k].2.2.2 qs[k]
section
variable {w w' : World} {g c lo hi B : Nat} {us : List QV} {qs : List LQ}
theorem AtQ.lt (h : AtQ w g c us) : g < w.heap.size := by
 obtain ⟨cur, hg, _⟩ := h
 exact Blk.lt hg
theorem AtQ.cell (h : AtQ w g c us) {j : Nat} (hj : j < us.length * 4) : w.cell? ⟨g, j, none⟩ = (flatQ us)[j]? := by
 obtain ⟨cur, hg, h1, h2, h3, h4⟩ := h
 rw [Blk.cell hg, <- h4, List.getElem?_take_of_lt hj, Array.getElem?_toList]
theorem AtQ.frozen (h : AtQ w g c us) (j : Nat) : w.frozen? ⟨g, j, none⟩ = false := by
 obtain ⟨cur, hg, _⟩ := h
 exact Blk.frozen hg j
theorem AtQ.cells (h : AtQ w g c us) {k : Nat} (hk : k < us.length) : w.cell? ⟨g, k * 4, none⟩ = some us[k].1 /\ w.cell? ⟨g, k * 4 + 1, none⟩ = some us[k].2.1 /\ w.cell? ⟨g, k * 4 + 2, none⟩ = some us[k].2.2.1 /\ w.cell? ⟨g, k * 4 + 3, none⟩ = some us[k].2.2.2 := by
 obtain ⟨a, b, d, e⟩ := flatQ_at us k hk
 exact ⟨by rw [h.cell (by omega), a], by rw [h.cell (by omega), b], by rw [h.cell (by omega), d], by rw [h.cell (by omega), e]⟩
theorem AtQ.only (h : AtQ w g c us) (ho : Only lo hi w w') (hd : g < lo \/ hi <= g) : AtQ w' g c us := by
 obtain ⟨cur, hg, r⟩ := h
 exact ⟨cur, (ho.block g (Blk.lt hg) hd).trans hg, r⟩
theorem AtQ.below (h : AtQ w g c us) (hb : Below B w w') (hg : g < B) : AtQ w' g c us := by
 obtain ⟨cur, e, r⟩ := h
 exact ⟨cur, (hb.block g hg).trans e, r⟩
theorem RdQs.below {B' : Nat} (h : RdQs w B us qs) (hb : Below B' w w') (hB : B <= B') : RdQs w' B us qs := ⟨h.1, fun k h1 h2 => by
 obtain ⟨a, b, d, e⟩ := h.2 k h1 h2
 exact ⟨a, b, d.below hb hB, e.below hb hB⟩⟩
end
theorem setCells_all (g : Nat) : ∀ (vs : List Value) (o : Nat) (w : World) (cur : Array Value) (t : TypeId), w.heap[g]? = some (.cells cur t (0, 0)) -> o + vs.length <= cur.size ->
 ∃ cur', (w.setCells g o vs).heap[g]? = some (.cells cur' t (0, 0)) /\ cur'.size = cur.size /\ (∀ j, cur'[j]? = if o <= j /\ j < o + vs.length then vs[j - o]? else cur[j]?) /\ Only g (g + 1) w (w.setCells g o vs)
 | [], o, w, cur, t, h, _ => ⟨cur, h, rfl, fun j => by rw [if_neg (by simp only [List.length_nil]; omega)], Only.refl _ _ _⟩
 | v :: vs, o, w, cur, t, h, hs => by
  simp only [List.length_cons] at hs
  obtain ⟨cur', h1, h2, h3, h4⟩ := setCells_all g vs (o + 1) (w.setCell ⟨g, o, none⟩ v) _ t (Blk.set_ (show Blk w g t cur from h) o v) (by simp; omega)
  refine ⟨cur', h1, by simpa using h2, fun j => ?_, (Only.setCell (p := ⟨g, o, none⟩) (Only.refl g (g + 1) w) ⟨Nat.le_refl g, Nat.lt_succ_self g⟩ v).trans h4⟩
  rw [h3 j, Array.getElem?_setIfInBounds]
  by_cases e : o = j
  ·subst e
   rw [if_neg (by omega), if_pos rfl, if_pos (by omega), if_pos (by simp)]
   simp
  ·by_cases e2 : o + 1 <= j /\ j < o + 1 + vs.length
   ·rw [if_pos e2, if_pos (by simp; omega)]
    rw [show j - o = (j - (o + 1)) + 1 by omega]
    simp
   ·rw [if_neg e2, if_neg e, if_neg (by simp; omega)]
theorem Tryz.infoQuestion : (Tryz.prog.info? 276).map (fun i => (i.zero, i.size, i.bytes)) = some (some (.agg #[.int .i64 0, .int .i64 0, .slice none 0 0, .slice none 0 0]), 4, 64) := by kernel_rfl
theorem AtQ.past {w : World} {g c o : Nat} {us : List QV} {vs : List Value} (h : AtQ w g c us) (ho : us.length * 4 <= o) (hl : o + vs.length <= c * 4) : AtQ (w.setCells g o vs) g c us /\ Only g (g + 1) w (w.setCells g o vs) := by
 obtain ⟨cur, hg, h1, h2, h3, h4⟩ := h
 obtain ⟨cur', g1, g2, g3, g4⟩ := setCells_all g vs o w cur _ hg (by omega)
 refine ⟨⟨cur', g1, h1, h2, by omega, ?_⟩, g4⟩
 rw [<- h4]
 apply List.ext_getElem?
 intro j
 rw [List.getElem?_take, List.getElem?_take]
 split
 ·rw [Array.getElem?_toList, Array.getElem?_toList, g3 j, if_neg (by omega)]
 ·rfl
theorem AtQ.deleted {w : World} {g c i : Nat} {us : List QV} (h : AtQ w g c us) (hi : i < us.length) : AtQ (w.setCells g (i * 4) ((flatQ us).drop ((i + 1) * 4))) g c (us.eraseIdx i) /\ Only g (g + 1) w (w.setCells g (i * 4) ((flatQ us).drop ((i + 1) * 4))) := by
 obtain ⟨cur, hg, h1, h2, h3, h4⟩ := h
 have hfl := flatQ_length us
 have hdl : ((flatQ us).drop ((i + 1) * 4)).length = us.length * 4 - (i + 1) * 4 := by rw [List.length_drop, hfl]
 obtain ⟨cur', g1, g2, g3, g4⟩ := setCells_all g ((flatQ us).drop ((i + 1) * 4)) (i * 4) w cur _ hg (by omega)
 have hel : (us.eraseIdx i).length = us.length - 1 := List.length_eraseIdx_of_lt hi
 refine ⟨⟨cur', g1, by omega, h2, by omega, ?_⟩, g4⟩
 rw [hel, List.eraseIdx_eq_take_drop_succ, flatQ_append, flatQ_take, flatQ_drop]
 apply List.ext_getElem?
 intro j
 by_cases hj : j < (us.length - 1) * 4
 ·rw [List.getElem?_take_of_lt hj, Array.getElem?_toList, g3 j]
  by_cases h5 : j < i * 4
  ·rw [if_neg (by omega), List.getElem?_append_left (by rw [List.length_take, hfl]; omega), List.getElem?_take_of_lt h5, <- h4, List.getElem?_take_of_lt (by omega), Array.getElem?_toList]
  ·rw [if_pos (by omega), List.getElem?_append_right (by rw [List.length_take, hfl]; omega), List.length_take, hfl]
   congr 1
   omega
 ·rw [List.getElem?_eq_none (by simp; omega), List.getElem?_eq_none (by simp [hfl]; omega)]
theorem run_clear_q {w : World} {g k : Nat} {cur : Array Value} (hg : Blk w g 276 cur) (hk : k * 4 + 4 <= cur.size) (d : Nat) (ty : TypeId) :
 (Builtin.clear_ #[250] ty #[.slice (some ⟨g, k * 4, none⟩) 1 d]).run Tryz.prog w = .ok (.tuple #[]) (w.setCells g (k * 4) [.int .i64 0, .int .i64 0, .slice none 0 0, .slice none 0 0]) := by
 have hz : ∀ W, (zeroValue 276).run Tryz.prog W = .ok (.agg #[.int .i64 0, .int .i64 0, .slice none 0 0, .slice none 0 0]) W := Tryz.zeroValue276
 obtain ⟨zc, hzc⟩ : ∃ zc : List Value, zc = [.int .i64 0, .int .i64 0, .slice none 0 0, .slice none 0 0] := ⟨_, rfl⟩
 have hst := run_storeCells_cells (P := Tryz.prog) g (k * 4) zc 0 w (fun j hj => by
  have : j < 4 := by rw [hzc] at hj; exact hj
  rw [Blk.cell hg, Array.getElem?_eq_getElem (by omega)]
  rfl) (fun j _ => Blk.frozen hg _) (by rw [hzc]; intro v hv; simp at hv; rcases hv with rfl | rfl <;> rfl)
 rw [Nat.add_zero] at hst
 have hzz : (Builtin.zeroCells #[Value.int IntKind.i64 0, Value.int IntKind.i64 0, Value.slice none 0 0, Value.slice none 0 0] 1).toList = zc := by rw [hzc]; simp [Builtin.zeroCells, List.range_succ]
 rw [<- hzc]
 simp only [Builtin.clear_]
 simp [run_underlying Tryz.underlying250, hz, Value.cells, hzz, hst]
set_option maxHeartbeats 4000000 in
set_option maxRecDepth 100000 in
theorem deleteQ_any (g c i m : Nat) (us : List QV) (w : World) (h : AtQ w g c us) (hm : us.length = m + 1) (hi : i <= m) (hn : m <= 1048576) (h1c : ∀ u ∈ flatQ us, u.oneCell' = true) :
 Calls Tryz.prog 271 #[.slice (some ⟨g, 0, none⟩) (m + 1 : Nat) c, .int .i64 i, .int .i64 ((i : Int) + 1)] w fun e w' =>
  e = .returned (.slice (some ⟨g, 0, none⟩) m c) /\ AtQ w' g c (us.eraseIdx i) /\ Only g (g + 1) w w' := by
 obtain ⟨i0, hi0, hz0, hz1, hz2⟩ := info_parts Tryz.infoQuestion
 have hcap : m + 1 <= c := by obtain ⟨_, _, h1, _⟩ := h; omega
 have hcm : c <= maxLen := by obtain ⟨_, _, _, h2, _⟩ := h; exact h2
 have hcm2 : c <= 9223372036854775807 := by unfold maxLen at hcm; omega
 obtain ⟨news, hnews⟩ : ∃ news, news = (flatQ us).drop ((i + 1) * 4) := ⟨_, rfl⟩
 have hfl := flatQ_length us
 have hnl : news.length = (m - i) * 4 := by rw [hnews, List.length_drop, hfl, hm]; omega
 -- where the moved questions stand
 obtain ⟨A, hA, hsrc⟩ : ∃ A : Addr, (if c = i + 1 then some (⟨g, 0, none⟩ : Addr) else some ⟨g, (i + 1) * 4, none⟩) = some A /\ Hid (∀ t u, news[t]? = some u -> w.drew.cell? (A.add t) = some u) := by
  by_cases e : c = i + 1
  ·refine ⟨⟨g, 0, none⟩, by simp [e], fun t u hu => ?_⟩
   have h0 : news.length = 0 := by omega
   rw [List.length_eq_zero_iff.1 h0] at hu
   simp at hu
  ·refine ⟨⟨g, (i + 1) * 4, none⟩, by simp [e], fun t u hu => ?_⟩
   have ht : t < news.length := (List.getElem?_eq_some_iff.1 hu).1
   rw [hnews, List.getElem?_drop] at hu
   rw [Go.WideShapes.add_plain]
   show w.cell? ⟨g, (i + 1) * 4 + t, none⟩ = _
   rw [h.cell (by omega), hu]
 have s2 : Hid (∀ u ∈ news, u.oneCell' = true) := fun u hu => h1c u (by rw [hnews] at hu; exact List.mem_of_mem_drop hu)
 have s3 : Hid (∀ t, t < news.length -> (w.drew.cell? ⟨g, 0 + i * 4 + t, none⟩).isSome = true /\ w.drew.frozen? ⟨g, 0 + i * 4 + t, none⟩ = false) := fun t ht => by
  rw [Nat.zero_add]
  refine ⟨?_, h.frozen _⟩
  show (w.cell? ⟨g, i * 4 + t, none⟩).isSome = true
  rw [h.cell (by omega), List.getElem?_eq_getElem (by rw [hfl]; omega)]
  rfl
 obtain ⟨W1, hW1⟩ : ∃ W1, W1 = w.drew.setCells g (0 + i * 4) news := ⟨_, rfl⟩
 have hd : AtQ W1 g c (us.eraseIdx i) /\ Only g (g + 1) w W1 := by
  have h' : AtQ w.drew g c us := h
  have := h'.deleted (i := i) (by omega)
  rw [<- hnews] at this
  rw [hW1, Nat.zero_add]
  exact ⟨this.1, (Only.of_below (bdrewN (Below.refl _ w) 1)).trans this.2⟩
 have hel : (us.eraseIdx i).length = m := by rw [List.length_eraseIdx_of_lt (by omega)]; omega
 have hcl : ∀ ty, (Builtin.clear_ #[250] ty #[.slice (some ⟨g, m * 4, none⟩) 1 (c - m)]).run Tryz.prog W1 = .ok (.tuple #[]) (W1.setCells g (m * 4) [.int .i64 0, .int .i64 0, .slice none 0 0, .slice none 0 0]) := fun ty => by
  obtain ⟨cur, hg, _, _, hs, _⟩ := hd.1
  exact run_clear_q hg (by omega) _ ty
 have HP := Lib.hid (hd.1.past (o := m * 4) (vs := [.int .i64 0, .int .i64 0, .slice none 0 0, .slice none 0 0]) (by rw [hel]; exact Nat.le_refl _) (by simp only [List.length_cons, List.length_nil]; omega))
 have HO := Lib.hid hd.2
 have hW : Hid (W1 = w.drew.setCells g (0 + i * 4) news) := hW1
 have hic : i <= c := by omega
 have hjc : i + 1 <= c := by omega
 have hip : (0 : Int) <= (i : Int) + 1 := by omega
 have hmp : (0 : Int) <= (m : Int) + 1 := by omega
 have hml : Hid (i + (m - i) = m) := by show _ = _; omega
 clear hW1 hd h hnews hfl hcm h1c hel hm
 go_enter Tryz.func271, Tryz.ntmps271
 go_wp2_with fail
 go_region_law (refine step_append_room rfl (.tmp 22) (.tmp 25) 250 rfl 276 i0 4 Tryz.underlying250 hi0 hz1 g 0 i c (by simp [Act.eval, Act.put]) A (m - i) (c - (i + 1)) news (by simp [Act.eval, Act.put]) hnl hsrc.out s2.out (by omega) s3.out ?_; rw [<- hW.out, hml.out])
 have hcne : ¬ c = m := by omega
 have hmm : m <= m + 1 := by omega
 have hmi : (m : Int) <= (m : Int) + 1 := by omega
 go_wp2_with (simp only [hcl])
 go_ret
 exact ⟨rfl, HP.out.1, HO.out.trans HP.out.2⟩
open Go.RowKit
theorem RdQs.more {w : World} {B B' : Nat} {us : List QV} {qs : List LQ} (h : RdQs w B us qs) (hB : B <= B') : RdQs w B' us qs := ⟨h.1, fun k h1 h2 => by
 obtain ⟨a, b, d, e⟩ := h.2 k h1 h2
 exact ⟨a, b, d.more hB, e.more hB⟩⟩
theorem RdQs.only {w w' : World} {B lo hi : Nat} {us : List QV} {qs : List LQ} (h : RdQs w B us qs) (ho : Only lo hi w w') (hB : B <= lo) (hs : B <= w.heap.size) : RdQs w' B us qs := h.below (ho.below hB hs) (Nat.le_refl _)
theorem AtQ.quest {w : World} {g c B k : Nat} {us : List QV} {qs : List LQ} (h : AtQ w g c us) (hr : RdQs w B us qs) (hk : k < qs.length) : ∃ A2 c2 A3 c3,
 w.cell? ⟨g, k * 4, none⟩ = some (.int .i64 qs[k].1.1) /\ w.cell? ⟨g, k * 4 + 1, none⟩ = some (.int .i64 qs[k].1.2.1) /\ w.cell? ⟨g, k * 4 + 2, none⟩ = some (.slice A2 qs[k].1.2.2.length c2) /\ w.cell? ⟨g, k * 4 + 3, none⟩ = some (.slice A3 qs[k].2.length c3) /\
 RdQC w B (.int .i64 qs[k].1.1) (.int .i64 qs[k].1.2.1) (.slice A2 qs[k].1.2.2.length c2) (.slice A3 qs[k].2.length c3) qs[k] := by
 have hku : k < us.length := by rw [hr.1]; exact hk
 obtain ⟨e0, e1, e2, e3⟩ := h.cells hku
 obtain ⟨a0, a1, a2, a3⟩ := hr.2 k hku hk
 have b2 := a2
 have b3 := a3
 obtain ⟨A2, c2, f2, _⟩ := a2
 obtain ⟨A3, c3, f3, _⟩ := a3
 rw [f2] at e2 b2
 rw [f3] at e3 b3
 rw [a0] at e0
 rw [a1] at e1
 exact ⟨A2, c2, A3, c3, e0, e1, e2, e3, rfl, rfl, b2, b3⟩
def FreeQ (K : Nat) (q : LQ) : Prop := q.1.1 = 0 \/ ∀ v, v < 4 -> (maskOf q.1.2.2).testBit v = true -> K.testBit v = true
theorem safeTo_iff {a b : Nat} : safeTo a b 4 = true <-> ∀ v, v < 4 -> a.testBit v = true -> b.testBit v = true := by
 unfold safeTo
 rw [List.all_eq_true]
 constructor
 ·intro h v hv ha
  have := h v (List.mem_range.2 hv)
  rw [ha] at this
  simpa using this
 ·intro h v hv
  have := h v (List.mem_range.1 hv)
  cases ha : a.testBit v
  ·rfl
  ·rw [this ha]; rfl
set_option maxHeartbeats 1000000 in
set_option maxRecDepth 100000 in
theorem isYes_any (B : Nat) (q : LQ) (u0 u1 u2 u3 : Value) (w : World) (hq : RdQC w B u0 u1 u2 u3 q) :
 Calls Tryz.prog 277 #[.agg #[u0, u1, u2, u3]] w fun e w' => e = .returned (.bool (q.1.1 == 0)) /\ Below w.heap.size w w' := by
 obtain ⟨rfl, rfl, hu2, hu3⟩ := hq
 obtain ⟨A2, c2, rfl, hc2, _⟩ := hu2
 obtain ⟨A3, c3, rfl, hc3, _⟩ := hu3
 go_enter Tryz.func277, Tryz.ntmps277
 go_wp2_with fail
 go_ret
 exact ⟨rfl, below1 _ _⟩
set_option maxHeartbeats 2000000 in
set_option maxRecDepth 100000 in
theorem indexYes_any (g c B : Nat) (us : List QV) (qs : List LQ) (w : World) (h : AtQ w g c us) (hr : RdQs w B us qs) (hB : B <= w.heap.size) (hn : qs.length <= 1048576) (hex : ∃ i, ∃ h : i < qs.length, qs[i].1.1 = 0) :
 Calls Tryz.prog 276 #[.slice (some ⟨g, 0, none⟩) qs.length c, .func (.func 277) #[] #[]] w fun e w' =>
  ∃ i : Nat, e = .returned (.int .i64 i) /\ (∃ h : i < qs.length, qs[i].1.1 = 0) /\ Below w.heap.size w w' := by
 have H := Lib.hid h
 have HR := Lib.hid hr
 have HX := Lib.hid hex
 clear hex
 go_enter Tryz.func276, Tryz.ntmps276
 go_wp2_with fail
 go_loopw [8] (fun i wr => ∃ k : Nat, k <= qs.length /\ i = .int .i64 k /\ (∀ j (h : j < qs.length), j < k -> qs[j].1.1 ≠ 0) /\ Below w.heap.size w wr) (fun i _ => qs.length - (intOf i).toNat)
 case atStart => exact ⟨0, Nat.zero_le _, rfl, fun j _ h => absurd h (by omega), Below.refl _ _⟩
 case round =>
  obtain ⟨k, hk, rfl, hs, hbe⟩ := hrel
  by_cases hlt : k < qs.length
  ·obtain ⟨A2, c2, A3, c3, q0, q1, q2, q3, hq⟩ := (H.out.below hbe H.out.lt).quest (HR.out.below hbe hB) hlt
   have CI := Lib.hid (isYes_any B qs[k] _ _ _ _ wr hq)
   have HS := Lib.hid hs
   have HBE := Lib.hid hbe
   clear hq hs hbe
   by_cases h0 : qs[k].1.1 = 0
   ·have CI2 : Hid _ := CI
    have hd : (qs[k].1.1 == 0) = true := by simpa using h0
    rw [hd] at CI
    have H0 := Lib.hid h0
    clear h0 CI2
    go_wp2_with (go_at_call 277; refine CI.out.mono ?_; rintro e w2 ⟨rfl, hb2⟩; have HB2 := Lib.hid (bthen HBE.out hb2); clear hb2)
    go_ret
    exact ⟨k, rfl, ⟨hlt, H0.out⟩, HB2.out⟩
   ·have hd : (qs[k].1.1 == 0) = false := by simpa using h0
    rw [hd] at CI
    have H0 := Lib.hid h0
    clear h0
    go_wp2_with (go_at_call 277; refine CI.out.mono ?_; rintro e w2 ⟨rfl, hb2⟩; have HB2 := Lib.hid (bthen HBE.out hb2); clear hb2)
    go_roundw
    case rel => exact ⟨k + 1, by omega, by go_num, fun j h hj => by
     by_cases e : j = k
     ·subst e; exact H0.out
     ·exact HS.out j h (by omega), HB2.out⟩
    case measure => simp [intOf]; omega
  ·obtain ⟨i, hi, h0⟩ := HX.out
   exact absurd h0 (hs i hi (by omega))
set_option maxHeartbeats 2000000 in
set_option maxRecDepth 100000 in
theorem nextAsked_any (g c B K : Nat) (us : List QV) (qs : List LQ) (w : World) (h : AtQ w g c us) (hr : RdQs w B us qs) (hB : B <= w.heap.size) (hK : K < 16) (hn : qs.length <= 1048576) (ha : ∀ q ∈ qs, q.1.2.2.length <= 1048576)
 (hex : ∃ i, ∃ h : i < qs.length, FreeQ K qs[i]) :
 Calls Tryz.prog 269 #[.slice (some ⟨g, 0, none⟩) qs.length c, .int .u64 (K : Nat)] w fun e w' =>
  ∃ i : Nat, e = .returned (.int .i64 i) /\ (∃ h : i < qs.length, FreeQ K qs[i]) /\ Below w.heap.size w w' := by
 have H := Lib.hid h
 have HR := Lib.hid hr
 have HX := Lib.hid hex
 have HA := Lib.hid ha
 clear hex ha
 go_enter Tryz.func269, Tryz.ntmps269
 go_wp2_with fail
 go_loopw [9] (fun i wr => ∃ k : Nat, k <= qs.length /\ i = .int .i64 k /\ (∀ j (h : j < qs.length), j < k -> safeTo (maskOf qs[j].1.2.2) K 4 = false) /\ Below w.heap.size w wr) (fun i _ => qs.length - (intOf i).toNat)
 case atStart => exact ⟨0, Nat.zero_le _, rfl, fun j _ h => absurd h (by omega), Below.refl _ _⟩
 case round =>
  obtain ⟨k, hk, rfl, hs, hbe⟩ := hrel
  by_cases hlt : k < qs.length
  ·obtain ⟨A2, c2, A3, c3, q0, q1, q2, q3, hq⟩ := (H.out.below hbe H.out.lt).quest (HR.out.below hbe hB) hlt
   have hln := HA.out _ (List.getElem_mem hlt)
   have hsz := hbe.size
   have CA := Lib.hid (fun W (hW : Below wr.heap.size wr W) => argVars_any (.slice A2 qs[k].1.2.2.length c2) qs[k].1.2.2 wr.heap.size W ((hq.2.2.1.more (by omega)).below hW (Nat.le_refl _)) hln)
   have hsb := safe_bits ⟨maskOf qs[k].1.2.2, maskOf_lt _⟩ ⟨K, hK⟩
   simp only at hsb
   have HS := Lib.hid hs
   have HBE := Lib.hid hbe
   clear hq hs hbe
   cases hsf : safeTo (maskOf qs[k].1.2.2) K 4
   ·rw [hsf] at hsb
    have H0 := Lib.hid hsf
    clear hsf
    go_wp2_with (go_at_call 265; refine (CA.out _ (below1 _ _)).mono ?_; rintro e w2 ⟨rfl, rfl⟩)
    go_roundw
    case rel => exact ⟨k + 1, by omega, by go_num, fun j h hj => by
     by_cases e : j = k
     ·subst e; exact H0.out
     ·exact HS.out j h (by omega), bthen HBE.out (below1 _ _)⟩
    case measure => simp [intOf]; omega
   ·rw [hsf] at hsb
    have H0 := Lib.hid (safeTo_iff.1 hsf)
    clear hsf
    go_wp2_with (go_at_call 265; refine (CA.out _ (below1 _ _)).mono ?_; rintro e w2 ⟨rfl, rfl⟩)
    go_ret
    exact ⟨k, rfl, ⟨hlt, .inr H0.out⟩, bthen HBE.out (below1 _ _)⟩
  ·have hsz := hbe.size
   have CI := Lib.hid (indexYes_any g c B us qs wr (H.out.below hbe H.out.lt) (HR.out.below hbe hB) (by omega) hn (by
    obtain ⟨i, hi, h0⟩ := HX.out
    rcases h0 with h0 | h0
    ·exact ⟨i, hi, h0⟩
    ·have := hs i hi (by omega)
     rw [safeTo_iff.2 h0] at this
     cases this))
   have HBE := Lib.hid hbe
   clear hs hbe
   go_wp2_with (go_at_call 276; refine CI.out.mono ?_; rintro e w2 ⟨i, rfl, hi, hb2⟩; have HB2 := Lib.hid (And.intro hi hb2); clear hi hb2)
   go_ret
   exact ⟨i, rfl, ⟨HB2.out.1.1, .inl HB2.out.1.2⟩, bthen HBE.out HB2.out.2⟩
open Go.RowKit
open Go.RowKit
theorem AtQ.made (w : World) (cs : Array Value) (n : Nat) (hs : cs.size = n * 4) (hm : n <= maxLen) : AtQ (w.alloc (.cells cs 276)) w.heap.size n [] :=
 ⟨cs, Blk.new _ _ _, Nat.zero_le _, hm, hs, by simp [flatQ]⟩
theorem AtQ.push {w : World} {g c : Nat} {us : List QV} (h : AtQ w g c us) (hl : us.length < c) (u : QV) :
 AtQ (w.setCells g (us.length * 4) [u.1, u.2.1, u.2.2.1, u.2.2.2]) g c (us ++ [u]) /\ Only g (g + 1) w (w.setCells g (us.length * 4) [u.1, u.2.1, u.2.2.1, u.2.2.2]) := by
 obtain ⟨cur, hg, h1, h2, h3, h4⟩ := h
 have hfl := flatQ_length us
 obtain ⟨cur', g1, g2, g3, g4⟩ := setCells_all g [u.1, u.2.1, u.2.2.1, u.2.2.2] (us.length * 4) w cur _ hg (by simp; omega)
 refine ⟨⟨cur', g1, by simp; omega, h2, by omega, ?_⟩, g4⟩
 rw [flatQ_append]
 apply List.ext_getElem?
 intro j
 rw [List.length_append, List.length_singleton]
 by_cases hj : j < (us.length + 1) * 4
 ·rw [List.getElem?_take_of_lt hj, Array.getElem?_toList, g3 j]
  by_cases hj2 : j < us.length * 4
  ·rw [if_neg (by simp; omega), List.getElem?_append_left (by omega), <- h4, List.getElem?_take_of_lt hj2, Array.getElem?_toList]
  ·rw [if_pos (by simp; omega), List.getElem?_append_right (by omega), hfl]
   rfl
 ·rw [List.getElem?_eq_none (by simp; omega), List.getElem?_eq_none (by simp [flatQ, hfl]; omega)]
theorem AtQ.free {w : World} {g c : Nat} {us : List QV} (h : AtQ w g c us) {j : Nat} (hj : j < c * 4) : ∃ x, w.cell? ⟨g, j, none⟩ = some x := by
 obtain ⟨cur, hg, h1, h2, h3, h4⟩ := h
 exact ⟨cur[j]'(by omega), by rw [Blk.cell hg, Array.getElem?_eq_getElem]⟩
def questL (fs : List LFact) (ls : List LLit) : List LQ := ls.map fun l => (l, fs)
open Go.RowKit
def IsSols (qs : List LQ) (S : List (List Int)) : Prop :=
 S.Nodup /\ ∀ b, b ∈ S <-> bindOk b = true /\ (∀ v, v < 4 -> (b.getD v (-1) ≠ -1 <-> ∃ q ∈ qs, (maskOf q.1.2.2).testBit v = true)) /\ ∀ q ∈ qs, holdsQ q b = true
def SafeQ (qs : List LQ) : Prop := ∀ q ∈ qs, ∀ v, v < 4 -> (maskOf q.1.2.2).testBit v = true -> ∃ q' ∈ qs, q'.1.1 = 0 /\ (maskOf q'.1.2.2).testBit v = true
theorem perm_erase {α : Type} : ∀ (l : List α) (i : Nat) (h : i < l.length), (l[i] :: l.eraseIdx i).Perm l
 | x :: l, 0, _ => List.Perm.refl _
 | x :: l, i + 1, h => by
  have hi : i < l.length := by simpa using h
  have ih := perm_erase l i hi
  exact (List.Perm.swap x l[i] (l.eraseIdx i)).trans (ih.cons x)
theorem RdQs.erase {w : World} {B : Nat} {us : List QV} {qs : List LQ} (h : RdQs w B us qs) (i : Nat) (hi : i < qs.length) : RdQs w B (us.eraseIdx i) (qs.eraseIdx i) := by
 have hl := h.1
 refine ⟨by rw [List.length_eraseIdx_of_lt hi, List.length_eraseIdx_of_lt (by omega)]; omega, fun k h1 h2 => ?_⟩
 rw [List.getElem_eraseIdx, List.getElem_eraseIdx]
 split
 ·exact h.2 k _ _
 ·exact h.2 (k + 1) _ _
theorem oneQ {w : World} {B : Nat} : ∀ {us : List QV} {qs : List LQ}, RdQs w B us qs -> ∀ u ∈ flatQ us, u.oneCell' = true := fun {us qs} h => by
 have key : ∀ (us : List QV), (∀ k (h : k < us.length), us[k].1.oneCell' = true /\ us[k].2.1.oneCell' = true /\ us[k].2.2.1.oneCell' = true /\ us[k].2.2.2.oneCell' = true) -> ∀ u ∈ flatQ us, u.oneCell' = true := by
  intro us
  induction us with
  | nil => intro _ u hu; simp [flatQ] at hu
  | cons x us ih =>
   intro hk u hu
   have h0 := hk 0 (by simp)
   have ih' := ih fun k hk' => hk (k + 1) (by simpa using hk')
   simp only [flatQ, List.mem_cons] at hu
   rcases hu with rfl | rfl | rfl | rfl | hu
   ·exact h0.1
   ·exact h0.2.1
   ·exact h0.2.2.1
   ·exact h0.2.2.2
   ·exact ih' u hu
 refine key us fun k hk => ?_
 obtain ⟨a, b, d, e⟩ := h.2 k hk (by rw [<- h.1]; exact hk)
 obtain ⟨A2, c2, e2, _⟩ := d
 obtain ⟨A3, c3, e3, _⟩ := e
 rw [a, b, e2, e3]
 exact ⟨rfl, rfl, rfl, rfl⟩
theorem free_there {K : Nat} {Q qs qs0 : List LQ} {S : List (List Int)} (h : Sols K Q S) (hp : (Q ++ qs).Perm qs0) (hs : SafeQ qs0) (hne : 0 < qs.length) : ∃ i, ∃ h : i < qs.length, FreeQ K qs[i] := by
 by_cases he : ∃ q ∈ qs, q.1.1 = 0
 ·obtain ⟨q, hq, h0⟩ := he
  obtain ⟨i, hi, rfl⟩ := List.getElem_of_mem hq
  exact ⟨i, hi, .inl h0⟩
 ·refine ⟨0, hne, .inr fun v hv hm => ?_⟩
  obtain ⟨q', hq', h0, hm'⟩ := hs qs[0] (hp.mem_iff.1 (List.mem_append_right _ (List.getElem_mem hne))) v hv hm
  rcases List.mem_append.1 (hp.mem_iff.2 hq') with hq | hq
  ·exact h.vars q' hq v hv hm'
  ·exact absurd ⟨q', hq, h0⟩ he
theorem sols_done {K : Nat} {Q qs0 : List LQ} {S : List (List Int)} (h : Sols K Q S) (hp : Q.Perm qs0) (hk : ∀ v, v < 4 -> K.testBit v = true -> ∃ q ∈ Q, (maskOf q.1.2.2).testBit v = true) : IsSols qs0 S := by
 refine ⟨h.nodup, fun b => ?_⟩
 rw [h.mem b]
 refine and_congr_right fun _ => and_congr ?_ ?_
 ·have hK : ∀ v, v < 4 -> (K.testBit v = true <-> ∃ q ∈ qs0, (maskOf q.1.2.2).testBit v = true) := fun v hv => by
   constructor
   ·intro hb
    obtain ⟨q, hq, hm⟩ := hk v hv hb
    exact ⟨q, hp.mem_iff.1 hq, hm⟩
   ·rintro ⟨q, hq, hm⟩
    exact h.vars q (hp.mem_iff.2 hq) v hv hm
  exact ⟨fun hd v hv => (hd v hv).trans (hK v hv), fun hd v hv => (hd v hv).trans (hK v hv).symm⟩
 ·exact ⟨fun hq q hm => hq q (hp.mem_iff.2 hm), fun hq q hm => hq q (hp.mem_iff.1 hm)⟩
theorem sols_none {K : Nat} {Q qs qs0 : List LQ} (h : Sols K Q []) (hp : (Q ++ qs).Perm qs0) (hk : ∀ v, v < 4 -> K.testBit v = true -> ∃ q ∈ Q, (maskOf q.1.2.2).testBit v = true) : IsSols qs0 [] := by
 refine ⟨List.nodup_nil, fun b => Iff.intro (fun hb => by cases hb) fun hh => ?_⟩
 obtain ⟨h1, h2, h3⟩ := hh
 suffices hx : restr K b ∈ ([] : List (List Int)) by cases hx
 refine (h.mem (restr K b)).2 ⟨restr_ok h1 K, fun v hv => ?_, fun q hq => ?_⟩
 ·rw [restr_at hv]
  by_cases e : K.testBit v = true
  ·rw [if_pos e]
   obtain ⟨q, hq, hm⟩ := hk v hv e
   exact ⟨fun _ => e, fun _ => (h2 v hv).2 ⟨q, hp.mem_iff.1 (List.mem_append_left _ hq), hm⟩⟩
  ·rw [if_neg e]
   exact ⟨fun hx => absurd rfl hx, fun hx => absurd hx e⟩
 ·rw [holdsQ_same (restr_ok h1 K) h1 (h.terms q hq) fun v hv hm => by rw [restr_at hv, if_pos (h.vars q hq v hv hm)]]
  exact h3 q (hp.mem_iff.1 (List.mem_append_left _ hq))
theorem OwnW.one (w : World) : OwnW (w.alloc (.cells #[.int .u32 0] 180)) w.heap.size (w.heap.size + 1) (.slice (some ⟨w.heap.size, 0, none⟩) 1 1) [noneB] :=
 ⟨⟨rfl, .inr ⟨w.heap.size, 1, _, rfl, Nat.le_refl _, heap_alloc_new w _, Nat.le_refl _, by decide, rfl, by simp [wd, encB_none]⟩⟩, fun g hg => by simp [Value.ownBlock] at hg; omega⟩
structure SolveAt (g c B : Nat) (w0 wr : World) (qs0 : List LQ) (us : List QV) (Q qs : List LQ) (K : Nat) (S : List (List Int)) (v : Value) : Prop where
 row : AtQ wr g c us
 rd : RdQs wr B us qs
 own : OwnW wr w0.heap.size wr.heap.size v S
 sols : Sols K Q S
 perm : (Q ++ qs).Perm qs0
 few : K < 16
 vars : ∀ v, v < 4 -> K.testBit v = true -> ∃ q ∈ Q, (maskOf q.1.2.2).testBit v = true
 only : Only g (g + 1) w0 wr
set_option maxHeartbeats 4000000 in
set_option maxRecDepth 100000 in
theorem solveFrom_any (g c B : Nat) (us0 : List QV) (qs0 : List LQ) (w : World) (h : AtQ w g c us0) (hr : RdQs w B us0 qs0) (hB : B <= g) (hn : qs0.length <= 1048576) (hok : ∀ q ∈ qs0, QOk q) (hsf : SafeQ qs0) :
 Calls Tryz.prog 248 #[.int .u32 0, .int .u64 0, .slice (some ⟨g, 0, none⟩) qs0.length c] w fun e w' =>
  ∃ A c' S, e = .returned (.slice A S.length c') /\ OwnW w' w.heap.size w'.heap.size (.slice A S.length c') S /\ Only g (g + 1) w w' /\ IsSols qs0 S := by
 have hgw := h.lt
 have HOK := Lib.hid hok
 have HSF := Lib.hid hsf
 have H0 := Lib.hid (show SolveAt g c B w (w.alloc (.cells #[.int .u32 0] 180)) qs0 us0 [] qs0 0 [noneB] (.slice (some ⟨w.heap.size, 0, none⟩) [noneB].length 1) from
  ⟨h.below (below1 w _) hgw, hr.below (below1 w _) (by omega), (OwnW.one w).mono (Nat.le_refl _) (by simp), sols_start, List.Perm.refl _, by omega, fun v _ h => by simp at h, Only.of_below (below1 w _)⟩)
 clear h hr hok hsf
 go_enter Tryz.func248, Tryz.ntmps248
 go_wp2_with fail
 go_loopw [1, 2, 7] (fun v4 v0 v3 wr => ∃ (us : List QV) (Q qs : List LQ) (K : Nat) (S : List (List Int)) (A : Option Addr) (c' : Nat), qs.length <= qs0.length /\ v0 = .slice (some ⟨g, 0, none⟩) qs.length c /\ v3 = .slice A S.length c' /\ v4 = .int .u64 (K : Nat) /\ SolveAt g c B w wr qs0 us Q qs K S (.slice A S.length c')) (fun _ v0 _ _ => match v0 with | .slice _ n _ => n | _ => 0)
 case atStart => exact ⟨us0, [], qs0, 0, [noneB], _, _, Nat.le_refl _, rfl, rfl, rfl, H0.out⟩
 case round =>
  obtain ⟨us, Q, qs, K, S, A3, c3, hql, rfl, rfl, rfl, hat⟩ := hrel
  have HAT := Lib.hid hat
  clear hat H0
  by_cases hq0 : 0 < qs.length
  ·have hd0 : decide ((qs.length : Int) > 0) = true := by simp; omega
   by_cases hS0 : 0 < S.length
   ·have hd1 : decide ((S.length : Int) > 0) = true := by simp; omega
    have CN := Lib.hid (nextAsked_any g c B K us qs wr HAT.out.row HAT.out.rd (by have := HAT.out.row.lt; omega) HAT.out.few (by omega) (fun q hq => (HOK.out q (HAT.out.perm.mem_iff.1 (List.mem_append_right _ hq))).args) (free_there HAT.out.sols HAT.out.perm HSF.out hq0))
    go_upto_region 4 with (go_at_call 269; refine CN.out.mono ?_; rintro e w2 ⟨i, rfl, hi, hb2⟩; have HI := Lib.hid (And.intro hi hb2); clear hi hb2)
    obtain ⟨⟨hi, hfree⟩, hb2⟩ := HI.out
    have hlo : w.heap.size <= wr.heap.size := HAT.out.only.size
    have hgl : g < wr.heap.size := HAT.out.row.lt
    have hs2 := hb2.size
    obtain ⟨A4, c4, A5, c5, q0, q1, q2, q3, hq⟩ := (HAT.out.row.below hb2 hgl).quest (HAT.out.rd.below hb2 (by omega)) hi
    obtain ⟨q, hqe⟩ : ∃ q, q = qs[i] := ⟨_, rfl⟩
    have hqm : q ∈ qs0 := by rw [hqe]; exact HAT.out.perm.mem_iff.1 (List.mem_append_right _ (List.getElem_mem hi))
    rw [<- hqe] at q0 q1 q2 q3 hq hfree
    have hqk := HOK.out q hqm
    have HQE := Lib.hid hqe
    clear hqe hqm
    go_upto_region 5 with fail
    obtain ⟨w3, hw3⟩ : ∃ w3, w3 = w2.alloc (Obj.cells #[Value.int IntKind.i64 q.1.1, Value.int IntKind.i64 q.1.2.1, Value.slice A4 q.1.2.2.length c4, Value.slice A5 q.2.length c5] 276) := ⟨_, rfl⟩
    have b3 : Below w2.heap.size w2 w3 := by rw [hw3]; exact below1 _ _
    have y3 : Blk w3 w2.heap.size 276 #[.int .i64 q.1.1, .int .i64 q.1.2.1, .slice A4 q.1.2.2.length c4, .slice A5 q.2.length c5] := by rw [hw3]; exact Blk.new _ _ _
    have hs3 : w2.heap.size < w3.heap.size := by rw [hw3]; simp
    rw [<- hw3]
    clear hw3 q0 q1 q2 q3
    have x0 : w3.cell? ⟨w2.heap.size, 0, none⟩ = some (.int .i64 q.1.1) := y3.cell 0
    have x1 : w3.cell? ⟨w2.heap.size, 1, none⟩ = some (.int .i64 q.1.2.1) := y3.cell 1
    have x2 : w3.cell? ⟨w2.heap.size, 2, none⟩ = some (.slice A4 q.1.2.2.length c4) := y3.cell 2
    have x3 : w3.cell? ⟨w2.heap.size, 3, none⟩ = some (.slice A5 q.2.length c5) := y3.cell 3
    have B23 := bthen hb2 b3
    have hq3 : RdQC w3 w.heap.size (.int .i64 q.1.1) (.int .i64 q.1.2.1) (.slice A4 q.1.2.2.length c4) (.slice A5 q.2.length c5) q :=
     ⟨rfl, rfl, (hq.2.2.1.below b3 (by omega)).more (by omega), (hq.2.2.2.below b3 (by omega)).more (by omega)⟩
    have CA := Lib.hid (ask_any w.heap.size wr.heap.size K _ _ _ _ (.slice A3 S.length c3) q Q S w3 hq3 hqk (HAT.out.own.below B23 (Nat.le_refl _)) B23.size hlo HAT.out.sols (fun e => by rw [e] at hS0; simp at hS0) HAT.out.few (fun h0 => by
     rcases hfree with h | h
     ·exact absurd h h0
     ·exact h))
    have HW3 := Lib.hid (And.intro B23 (And.intro y3 hq3))
    have hal := hqk.args
    have hor : bits .or .u64 ((K : Nat) : Int) ((maskOf q.1.2.2 : Nat) : Int) = ((K ||| maskOf q.1.2.2 : Nat) : Int) := or_word HAT.out.few (maskOf_lt _)
    clear hq hq3 y3 b3 hb2 hfree hqk B23 HI CN
    go_upto_region 6 with (go_at_call 270; refine CA.out.mono ?_; rintro e w4 ⟨A6, c6, S', rfl, ho4, on4, hs4⟩; have H4 := Lib.hid (And.intro ho4 (And.intro on4 hs4)); clear ho4 on4 hs4)
    obtain ⟨ho4, on4, hs4⟩ := H4.out
    obtain ⟨B23, y3, hq3⟩ := HW3.out
    have hz4 := on4.size
    have y4 := y3.only on4 (.inr (by omega))
    clear x0 x1 x2 x3
    have x2 : w4.cell? ⟨w2.heap.size, 2, none⟩ = some (.slice A4 q.1.2.2.length c4) := y4.cell 2
    have CV := Lib.hid (argVars_any (.slice A4 q.1.2.2.length c4) q.1.2.2 w.heap.size w4 (hq3.2.2.1.below (on4.below (Nat.le_refl _) (by omega)) (Nat.le_refl _)) hal)
    have o04 : Only g (g + 1) w w4 := ⟨on4.os.trans (B23.os.trans HAT.out.only.os), on4.tape.trans (B23.tape.trans HAT.out.only.tape), on4.output.trans (B23.output.trans HAT.out.only.output), by omega, fun k hk ho => (on4.block k (by omega) (.inl hk)).trans ((B23.block k (by omega)).trans (HAT.out.only.block k hk ho))⟩
    have r4 : AtQ w4 g c us := ((HAT.out.row.below B23 hgl).only on4 (.inl (by omega)))
    have d4 : RdQs w4 B us qs := (HAT.out.rd.below B23 (by omega)).only on4 (by omega) (by omega)
    obtain ⟨m, hm⟩ : ∃ m, qs.length = m + 1 := ⟨qs.length - 1, by omega⟩
    have hel : m = (qs.eraseIdx i).length := by rw [List.length_eraseIdx_of_lt hi]; omega
    have hul : us.length = m + 1 := by rw [<- hm]; exact HAT.out.rd.1
    have CD := deleteQ_any g c i m us w4 r4 hul (by omega) (by omega) (oneQ d4)
    rw [<- hm, hel] at CD
    have HCD := Lib.hid CD
    have HEL := Lib.hid (show (qs.eraseIdx i).length < qs.length by omega)
    have HN := Lib.hid (And.intro ho4 (And.intro hs4 (And.intro o04 (And.intro d4 hz4))))
    clear CD ho4 hs4 o04 d4 on4 y3 y4 hq3 B23 hm hel hul r4 H4 HW3
    go_wp2_with (first
     | (go_at_call 265; refine CV.out.mono ?_; rintro e w' ⟨rfl, rfl⟩)
     | (go_at_call 271; refine HCD.out.mono ?_; rintro e w5 ⟨rfl, r5, on5⟩; have H5 := Lib.hid (And.intro r5 on5); clear r5 on5))
    obtain ⟨r5, on5⟩ := H5.out
    obtain ⟨ho4, hs4, o04, d4, hz4⟩ := HN.out
    have hz5 := on5.size
    have hlen := HEL.out
    have hpm : ((q :: Q) ++ qs.eraseIdx i).Perm qs0 := by
     have h1 := perm_erase qs i hi
     rw [<- HQE.out] at h1
     exact (List.perm_middle.symm.trans ((List.Perm.refl Q).append h1)).trans HAT.out.perm
    have HFIN := Lib.hid (show SolveAt g c B w w5 qs0 (us.eraseIdx i) (q :: Q) (qs.eraseIdx i) (K ||| maskOf q.1.2.2) S' (.slice A6 S'.length c6) from
     ⟨r5, (d4.only on5 (by omega) (by omega)).erase i hi, (ho4.only on5 (.inr (by omega))).mono (Nat.le_refl _) hz5, hs4, hpm, Nat.or_lt_two_pow (n := 4) HAT.out.few (maskOf_lt _), fun v hv hb => by
       rw [Nat.testBit_or, Bool.or_eq_true] at hb
       rcases hb with hb | hb
       ·obtain ⟨q', hq', h⟩ := HAT.out.vars v hv hb
        exact ⟨q', List.mem_cons_of_mem _ hq', h⟩
       ·exact ⟨q, List.mem_cons_self, hb⟩, o04.trans on5⟩)
    clear r5 on5 ho4 hs4 o04 d4 hpm
    go_roundw
    case rel => exact ⟨us.eraseIdx i, q :: Q, qs.eraseIdx i, K ||| maskOf q.1.2.2, S', A6, c6, by omega, rfl, rfl, rfl, HFIN.out⟩
    case measure => simp; omega
   ·have hd1 : decide ((S.length : Int) > 0) = false := decide_eq_false (by omega)
    have HE := Lib.hid (show IsSols qs0 S by
     have : S = [] := List.eq_nil_of_length_eq_zero (by omega)
     subst this
     exact sols_none HAT.out.sols HAT.out.perm HAT.out.vars)
    go_wp2_with fail
    go_ret
    exact ⟨_, _, S, rfl, HAT.out.own, HAT.out.only, HE.out⟩
  ·have hd0 : decide ((qs.length : Int) > 0) = false := decide_eq_false (by omega)
   have HE := Lib.hid (show IsSols qs0 S by
    have : qs = [] := List.eq_nil_of_length_eq_zero (by omega)
    subst this
    exact sols_done HAT.out.sols (by simpa using HAT.out.perm) HAT.out.vars)
   go_wp2_with fail
   go_ret
   exact ⟨_, _, S, rfl, HAT.out.own, HAT.out.only, HE.out⟩
set_option maxHeartbeats 1000000 in
theorem solve_any (g c B : Nat) (us0 : List QV) (qs0 : List LQ) (w : World) (h : AtQ w g c us0) (hr : RdQs w B us0 qs0) (hB : B <= g) (hn : qs0.length <= 1048576) (hok : ∀ q ∈ qs0, QOk q) (hsf : SafeQ qs0) :
 Calls Tryz.prog 202 #[.slice (some ⟨g, 0, none⟩) qs0.length c] w fun e w' =>
  ∃ A c' S, e = .returned (.slice A S.length c') /\ OwnW w' w.heap.size w'.heap.size (.slice A S.length c') S /\ Only g (g + 1) w w' /\ IsSols qs0 S := by
 have CF := Lib.hid (solveFrom_any g c B us0 qs0 w h hr hB hn hok hsf)
 clear h hr hok hsf
 go_enter Tryz.func202, Tryz.ntmps202
 go_wp2_with (go_at_call 248; refine CF.out.mono ?_; rintro e w2 ⟨A, c', S, rfl, o2, on2, s2⟩; have H2 := Lib.hid (And.intro o2 (And.intro on2 s2)); clear o2 on2 s2)
 go_ret
 exact ⟨A, c', S, rfl, H2.out.1, H2.out.2.1, H2.out.2.2⟩
open Go.RowKit
theorem bodyMask_bit {v : Nat} : ∀ (ls : List LLit) (m : Nat), (ls.foldl (fun m l => m ||| maskOf l.2.2) m).testBit v = true <-> m.testBit v = true \/ ∃ l ∈ ls, (maskOf l.2.2).testBit v = true
 | [], m => by simp
 | l :: ls, m => by
  rw [List.foldl_cons, bodyMask_bit ls, Nat.testBit_or, Bool.or_eq_true]
  constructor
  ·rintro ((h | h) | ⟨l', hl, h⟩)
   ·exact .inl h
   ·exact .inr ⟨l, List.mem_cons_self, h⟩
   ·exact .inr ⟨l', List.mem_cons_of_mem _ hl, h⟩
  ·rintro (h | ⟨l', hl, h⟩)
   ·exact .inl (.inl h)
   ·rcases List.mem_cons.1 hl with rfl | hl
    ·exact .inl (.inr h)
    ·exact .inr ⟨l', hl, h⟩
theorem yesMask_bit {v : Nat} : ∀ (ls : List LLit) (m : Nat), (ls.foldl (fun m l => if l.1 = 0 then m ||| maskOf l.2.2 else m) m).testBit v = true <-> m.testBit v = true \/ ∃ l ∈ ls, l.1 = 0 /\ (maskOf l.2.2).testBit v = true
 | [], m => by simp
 | l :: ls, m => by
  rw [List.foldl_cons, yesMask_bit ls]
  by_cases e : l.1 = 0
  ·rw [if_pos e, Nat.testBit_or, Bool.or_eq_true]
   constructor
   ·rintro ((h | h) | ⟨l', hl, h⟩)
    ·exact .inl h
    ·exact .inr ⟨l, List.mem_cons_self, e, h⟩
    ·exact .inr ⟨l', List.mem_cons_of_mem _ hl, h⟩
   ·rintro (h | ⟨l', hl, h⟩)
    ·exact .inl (.inl h)
    ·rcases List.mem_cons.1 hl with rfl | hl
     ·exact .inl (.inr h.2)
     ·exact .inr ⟨l', hl, h⟩
  ·rw [if_neg e]
   constructor
   ·rintro (h | ⟨l', hl, h⟩)
    ·exact .inl h
    ·exact .inr ⟨l', List.mem_cons_of_mem _ hl, h⟩
   ·rintro (h | ⟨l', hl, h⟩)
    ·exact .inl h
    ·rcases List.mem_cons.1 hl with rfl | hl
     ·exact absurd h.1 e
     ·exact .inr ⟨l', hl, h⟩
structure SafeB (ls : List LLit) : Prop where
 kind : ∀ l ∈ ls, 0 <= l.1 /\ l.1 <= 3
 terms : ∀ l ∈ ls, l.2.2.all termOk = true
 few : ls.length <= 4
 safe : ∀ l ∈ ls, ∀ v, v < 4 -> (maskOf l.2.2).testBit v = true -> ∃ l' ∈ ls, l'.1 = 0 /\ (maskOf l'.2.2).testBit v = true
theorem SafeB.of {ls : List LLit} (h : bodySafe ls = true) : SafeB ls := by
 unfold bodySafe at h
 rw [Bool.and_eq_true, Bool.and_eq_true] at h
 obtain ⟨⟨h1, h2⟩, h3⟩ := h
 rw [List.all_eq_true] at h1
 rw [ruleSafe_eq, safeTo_iff, ruleMask_body] at h3
 refine ⟨fun l hl => ?_, fun l hl => ?_, by simpa using h2, fun l hl v hv hm => ?_⟩
 ·have := h1 l hl
  unfold litFine at this
  rw [Bool.and_eq_true] at this
  simpa using this.1
 ·have := h1 l hl
  unfold litFine at this
  rw [Bool.and_eq_true] at this
  exact this.2
 ·have hb : (bodyMask ls).testBit v = true := (bodyMask_bit ls 0).2 (.inr ⟨l, hl, hm⟩)
  have hy := h3 v hv hb
  rcases (yesMask_bit ls 0).1 hy with h | h
  ·simp at h
  ·exact h
theorem litHolds_same {fs gs : List LFact} (h : ∀ f, f ∈ fs <-> f ∈ gs) (l : LLit) (b : List Int) : litHolds fs l b = litHolds gs l b := by
 unfold litHolds
 split
 ·rfl
 ·rw [factsHas_in, factsHas_in]
  congr 2
  exact decide_eq_decide.2 (h _)
theorem solsOf_is {fs gs : List LFact} {ls : List LLit} (h : SafeB ls) (hc : ∀ f ∈ gs, f.2.all constOk = true) (hn : gs.Nodup) (hm : ∀ f, f ∈ gs <-> f ∈ fs) : UpB (solsOf gs ls) /\ IsSols (questL fs ls) (solsOf gs ls) := by
 obtain ⟨h1, h2⟩ := triedTo_is gs (restTo ls ls.length) (bindsTo gs ls ls.length) _ (Nat.le_refl _)
 obtain ⟨K, Q, hK, hS, hQ, hv⟩ := bindsTo_sols hc hn h.terms ls.length (Nat.le_refl _)
 rw [List.take_length] at hv
 refine ⟨h1, h1.nodup, fun b => ?_⟩
 unfold solsOf
 rw [h2, List.take_length, hS.mem b, and_assoc, and_assoc]
 have hKb : ∀ v, v < 4 -> (K.testBit v = true <-> ∃ q ∈ questL fs ls, (maskOf q.1.2.2).testBit v = true) := fun v hv4 => by
  rw [hv v hv4]
  constructor
  ·rintro ⟨l, hl, _, hb⟩
   exact ⟨(l, fs), List.mem_map.2 ⟨l, hl, rfl⟩, hb⟩
  ·rintro ⟨q, hq, hb⟩
   obtain ⟨l, hl, rfl⟩ := List.mem_map.1 hq
   exact h.safe l hl v hv4 hb
 refine and_congr_right fun _ => and_congr ?_ ?_
 ·exact ⟨fun hd v hv => (hd v hv).trans (hKb v hv), fun hd v hv => (hd v hv).trans (hKb v hv).symm⟩
 ·constructor
  ·rintro ⟨hq, hr⟩ q hq'
   obtain ⟨l, hl, rfl⟩ := List.mem_map.1 hq'
   show litHolds fs l b = true
   rw [<- litHolds_same hm]
   by_cases e : l.1 = 0
   ·exact hq (l, gs) ((hQ _).2 ⟨rfl, e, by rw [List.take_length]; exact hl⟩)
   ·refine List.all_eq_true.1 hr l ?_
    unfold restTo
    rw [List.take_length]
    exact List.mem_filter.2 ⟨hl, by simpa using e⟩
  ·intro hq
   refine ⟨fun q hq' => ?_, List.all_eq_true.2 fun l hl => ?_⟩
   ·obtain ⟨e1, e2, e3⟩ := (hQ q).1 hq'
    rw [List.take_length] at e3
    have := hq (q.1, fs) (List.mem_map.2 ⟨q.1, e3, rfl⟩)
    unfold holdsQ at this ⊢
    rw [e1, litHolds_same hm]
    exact this
   ·unfold restTo at hl
    rw [List.take_length] at hl
    have := hq (l, fs) (List.mem_map.2 ⟨l, (List.mem_filter.1 hl).1, rfl⟩)
    rw [litHolds_same hm]
    exact this
theorem cmp_enc {x y : List Int} (hx : bindOk x = true) (hy : bindOk y = true) (h : encB x < encB y) : cmpL x y < 0 := by
 obtain ⟨a, b, c, d, rfl⟩ := list4 (bindOk_len hx)
 obtain ⟨a', b', c', d', rfl⟩ := list4 (bindOk_len hy)
 have h0 := bindOk_at hx (k := 0) (by simp)
 have h1 := bindOk_at hx (k := 1) (by simp)
 have h2 := bindOk_at hx (k := 2) (by simp)
 have h3 := bindOk_at hx (k := 3) (by simp)
 have g0 := bindOk_at hy (k := 0) (by simp)
 have g1 := bindOk_at hy (k := 1) (by simp)
 have g2 := bindOk_at hy (k := 2) (by simp)
 have g3 := bindOk_at hy (k := 3) (by simp)
 simp only [List.getElem_cons_zero, List.getElem_cons_succ] at h0 h1 h2 h3 g0 g1 g2 g3
 simp only [encB, List.getD_cons_zero, List.getD_cons_succ] at h
 simp only [cmpL]
 by_cases e0 : a = a'
 ·rw [if_pos e0]
  by_cases e1 : b = b'
  ·rw [if_pos e1]
   by_cases e2 : c = c'
   ·rw [if_pos e2]
    by_cases e3 : d = d'
    ·omega
    ·rw [if_neg e3, cmpI_neg]; omega
   ·rw [if_neg e2, cmpI_neg]; omega
  ·rw [if_neg e1, cmpI_neg]; omega
 ·rw [if_neg e0, cmpI_neg]; omega
theorem IsSols.ok {qs : List LQ} {S : List (List Int)} (h : IsSols qs S) : ∀ b ∈ S, bindOk b = true := fun b hb => ((h.2 b).1 hb).1
theorem IsSols.up {qs : List LQ} {S S' : List (List Int)} (h : IsSols qs S) (hp : S'.Perm S) (hu : UpW S') : UpB S' /\ IsSols qs S' := by
 have hn : S'.Nodup := hp.nodup_iff.2 h.1
 have hok : ∀ b ∈ S', bindOk b = true := fun b hb => h.ok b (hp.mem_iff.1 hb)
 refine ⟨?_, hn, fun b => by rw [hp.mem_iff, h.2 b]⟩
 refine List.Pairwise.imp_of_mem (fun {x y} hx hy hh => ?_) (hu.and hn)
 refine cmp_enc (hok x hx) (hok y hy) ?_
 rcases Nat.lt_or_ge (encB x) (encB y) with h1 | h1
 ·exact h1
 ·exact absurd (encB_inj (hok x hx) (hok y hy) (Nat.le_antisymm hh.1 h1)) hh.2
theorem asc_nodup {fs : List LFact} (h : Asc fs) : fs.Nodup := h.imp fun h e => by
 subst e
 rw [order_refl] at h
 omega
open Go.RowKit
structure WithRel (w1 wr : World) (fs : List LFact) (f : LFact) (k : Nat) (st : List LFact × Bool) (A : Option Addr) (c : Nat) (av : List Value) : Prop where
 col : ColRel w1 wr st.1 A c av
 st : st = withTo fs f k
theorem With.next {fs : List LFact} {f : LFact} {k : Nat} {st st' : List LFact × Bool} (h : st = withTo fs f k) (hk : k < fs.length) (e : st' = withStep f st fs[k]) : st' = withTo fs f (k + 1) := by rw [withTo_step hk, <- h, e]
set_option maxHeartbeats 2000000 in
set_option maxRecDepth 100000 in
theorem specFactsWith_any (v v2 : Value) (fs : List LFact) (f : LFact) (w : World) (h : RdFacts w w.heap.size v fs) (h2 : RdFact w w.heap.size v2 f) (hn : fs.length <= 1048576) (ht : tot fs <= 1048576) (hf : f.2.length <= 1048576) :
 Calls Tryz.prog 162 #[v, v2] w fun e w' => ∃ A' c', e = .returned (.slice A' (factsWith fs f).length c') /\ OwnFacts w' w.heap.size w'.heap.size (.slice A' (factsWith fs f).length c') (factsWith fs f) /\ Below w.heap.size w w' := by
 have H := Lib.hid h
 have H2 := Lib.hid h2
 obtain ⟨A, c, rfl, hc, _⟩ := h
 obtain ⟨a, rfl, A2, c2, rfl, hc2, _⟩ := h2
 go_enter Tryz.func162, Tryz.ntmps162
 go_wp2_with (fail)
 obtain ⟨w1, hw1⟩ : ∃ w1, w1 = (w.alloc (Obj.cells #[Value.int IntKind.i64 f.1, Value.slice A2 f.2.length c2] 66)) := ⟨_, rfl⟩
 have B1 : Below w.heap.size w w1 := by rw [hw1]; exact below1 _ _
 have k0 : Blk w1 w.heap.size 66 #[.int .i64 f.1, .slice A2 f.2.length c2] := by rw [hw1]; exact Blk.new w _ _
 have hz1 : w.heap.size + 1 = w1.heap.size := by rw [hw1]; simp
 rw [<- hw1]
 clear hw1
 simp only [hz1]
 have HZ := Lib.hid hz1
 clear hz1
 go_loopw [5, 6, 7, 8] (fun o p i _ wr => ∃ (k : Nat) (st : List LFact × Bool) (A' : Option Addr) (c' : Nat) (av : List Value), k <= fs.length /\ i = .int .i64 k /\ p = .bool st.2 /\ o = .slice A' st.1.length c' /\ WithRel w1 wr fs f k st A' c' av) (fun _ _ i _ _ => fs.length - (intOf i).toNat)
 case atStart => exact ⟨0, ([], false), _, 0, [], Nat.zero_le _, rfl, rfl, rfl, ColRel.empty w1, rfl⟩
 case round =>
  obtain ⟨k, ⟨gs, pb⟩, A', c', av, hk, rfl, rfl, rfl, hcol, hst⟩ := hrel
  have hbd := withTo_bound fs f k hk
  rw [<- hst] at hbd
  have hgl : gs.length <= 2097152 := by have := hbd.1; simp only at this; split at this <;> omega
  clear hbd
  have HST := Lib.hid hst
  clear hst
  by_cases hlt : k < fs.length
  ·obtain ⟨b, o, A3, c3, rfl, hbB, k1, k2, k3⟩ := H.out.get hlt
   have hln := len_le_tot fs k hlt
   have K3 := Lib.hid (show RdFact w w.heap.size (.agg #[.int .i64 fs[k].1, .slice A3 fs[k].2.length c3]) fs[k] from ⟨_, rfl, k3⟩)
   have M1 : ∀ W, Below w.heap.size w W -> W.cell? ⟨b, o + k * 2, none⟩ = some (.int .i64 fs[k].1) := fun W hW => (hW.cell (p := ⟨b, o + k * 2, none⟩) hbB).trans k1
   have M2 : ∀ W, Below w.heap.size w W -> W.cell? ⟨b, o + k * 2 + 1, none⟩ = some (.slice A3 fs[k].2.length c3) := fun W hW => (hW.cell (p := ⟨b, o + k * 2 + 1, none⟩) hbB).trans k2
   have N1 : ∀ W, Below w1.heap.size w1 W -> W.cell? ⟨w.heap.size, 0, none⟩ = some (.int .i64 f.1) := fun W hW => (k0.below hW k0.lt).cell 0
   have N2 : ∀ W, Below w1.heap.size w1 W -> W.cell? ⟨w.heap.size, 1, none⟩ = some (.slice A2 f.2.length c2) := fun W hW => (k0.below hW k0.lt).cell 1
   have hB := bthen B1 hcol.below
   have L1 := later_cell (M1 _ hB)
   have L2 := later_cell (M2 _ hB)
   have L3 := later_cell (N1 _ hcol.below)
   have L4 := later_cell (N2 _ hcol.below)
   obtain ⟨q, hq⟩ : ∃ q, q = factOrder f fs[k] := ⟨_, rfl⟩
   have CO := Lib.hid (fun x : Later wr => (specFactOrder_any _ _ f fs[k] x.val ((H2.out.on hB).on x.2) ((K3.out.on hB).on x.2) hf (by omega)).mono fun e w' (hh : e = .returned (.int .i64 (factOrder f fs[k])) /\ Below x.val.heap.size x.val w') => (⟨by rw [hh.1, hq], hh.2⟩ : e = .returned (.int .i64 q) /\ Below x.val.heap.size x.val w'))
   have HQ := Lib.hid hq
   have HC := Lib.hid hcol
   have HM := Lib.hid (And.intro M1 (And.intro M2 (And.intro N1 N2)))
   clear hq hcol k1 k2 k3 M1 M2 N1 N2
   go_wp2_with (fail)
   refine wp_region_later (by kernel_rfl) (by kernel_rfl) ?_
   repeat (go_big_quiet_step ((go_at_call 120; exact later_of (CO.out _))))
   refine wpQuiet_nil ?_
   rintro _ ⟨xq, rfl⟩
   obtain ⟨w2, hw2⟩ : ∃ w2, w2 = xq.val := ⟨_, rfl⟩
   have hb2 : Below wr.heap.size wr w2 := by rw [hw2]; exact xq.2
   rw [<- hw2]
   have HC2 := Lib.hid (HC.out.on hb2)
   clear hw2 L1 L2 L3 L4 CO
   obtain ⟨M1, M2, N1, N2⟩ := HM.out
   have P2 := HC2.out.below
   have hB2 := bthen B1 P2
   have m1 := M1 _ hB2
   have m2 := M2 _ hB2
   have n1 := N1 _ P2
   have n2 := N2 _ P2
   clear M1 M2 N1 N2
   cases pb with
   | true =>
    by_cases hq0 : q = 0
    ·have t1 : (q != 0) = false := by simp [hq0]
     have HS := Lib.hid (show ((gs, true) : List LFact × Bool) = withStep f (gs, true) fs[k] by simp [withStep, <- HQ.out, hq0])
     clear hq0
     go_wp2_with (fail)
     go_roundw
     case rel => exact ⟨k + 1, (gs, true), _, _, _, by omega, by go_num, rfl, rfl, ⟨HC2.out, With.next HST.out hlt HS.out⟩⟩
     case measure => simp [intOf]; omega
    ·have t1 : (q != 0) = true := by simp [hq0]
     have HS := Lib.hid (show ((gs ++ [fs[k]], true) : List LFact × Bool) = withStep f (gs, true) fs[k] by simp [withStep, <- HQ.out, hq0])
     clear hq0
     go_wp2_with (fail)
     refine (l1Copy_any _ fs[k] _ (K3.out.on hB2) (by omega)).mono ?_
     rintro e w3 ⟨A4, c4, rfl, ho4, hb4⟩
     go_wp2_with (at_builtin; refine wpList_push rfl (.tmp 35) (.tmp 41) rfl HC2.out hb4 ho4 rfl rfl rfl (by omega) ?_; intro g4 cap4 w4 av4 hcol4 hgr4)
     have HC4 := Lib.hid hcol4
     clear hcol4 hgr4
     go_roundw
     case rel => exact ⟨k + 1, (gs ++ [fs[k]], true), _, _, _, by omega, by go_num, rfl, by simp, ⟨HC4.out, With.next HST.out hlt HS.out⟩⟩
     case measure => simp [intOf]; omega
   | false =>
    rcases Int.lt_trichotomy q 0 with hq0 | hq0 | hq0
    ·have t1 : (q != 0) = true := by simp; omega
     have t2 : decide (q <= 0) = true := by simp; omega
     have HS := Lib.hid (show (((gs ++ [f]) ++ [fs[k]], true) : List LFact × Bool) = withStep f (gs, false) fs[k] by
      have e1 : q ≠ 0 := by omega
      have e2 : q <= 0 := by omega
      simp [withStep, <- HQ.out, e1, e2])
     clear hq0
     go_wp2_with (fail)
     refine (l1Copy_any _ f _ (H2.out.on hB2) (by omega)).mono ?_
     rintro e w3 ⟨A4, c4, rfl, ho4, hb4⟩
     go_wp2_with (at_builtin; refine wpList_push rfl (.tmp 28) (.tmp 31) rfl HC2.out hb4 ho4 rfl rfl rfl (by omega) ?_; intro g4 cap4 w4 av4 hcol4 hgr4; have m3 := HM.out.1 _ (bthen B1 hcol4.below); have m4 := HM.out.2.1 _ (bthen B1 hcol4.below); have HC4 := Lib.hid hcol4; clear hcol4 hgr4)
     refine (l1Copy_any _ fs[k] _ (K3.out.on (bthen B1 HC4.out.below)) (by omega)).mono ?_
     rintro e w5 ⟨A6, c6, rfl, ho6, hb6⟩
     go_wp2_with (at_builtin; refine wpList_push rfl (.tmp 35) (.tmp 41) rfl HC4.out hb6 ho6 (by simp) rfl rfl (by simp; omega) ?_; intro g6 cap6 w6 av6 hcol6 hgr6; have HC6 := Lib.hid hcol6; clear hcol6 hgr6)
     go_roundw
     case rel => exact ⟨k + 1, ((gs ++ [f]) ++ [fs[k]], true), _, _, _, by omega, by go_num, rfl, by simp, ⟨HC6.out, With.next HST.out hlt HS.out⟩⟩
     case measure => simp [intOf]; omega
    ·have t1 : (q != 0) = false := by simp [hq0]
     have t2 : decide (q <= 0) = true := by simp; omega
     have HS := Lib.hid (show ((gs ++ [f], true) : List LFact × Bool) = withStep f (gs, false) fs[k] by simp [withStep, <- HQ.out, hq0])
     clear hq0
     go_wp2_with (fail)
     refine (l1Copy_any _ f _ (H2.out.on hB2) (by omega)).mono ?_
     rintro e w3 ⟨A4, c4, rfl, ho4, hb4⟩
     go_wp2_with (at_builtin; refine wpList_push rfl (.tmp 28) (.tmp 31) rfl HC2.out hb4 ho4 rfl rfl rfl (by omega) ?_; intro g4 cap4 w4 av4 hcol4 hgr4; have HC4 := Lib.hid hcol4; clear hcol4 hgr4)
     go_roundw
     case rel => exact ⟨k + 1, (gs ++ [f], true), _, _, _, by omega, by go_num, rfl, by simp, ⟨HC4.out, With.next HST.out hlt HS.out⟩⟩
     case measure => simp [intOf]; omega
    ·have t1 : (q != 0) = true := by simp; omega
     have t2 : decide (q <= 0) = false := by simp; omega
     have HS := Lib.hid (show ((gs ++ [fs[k]], false) : List LFact × Bool) = withStep f (gs, false) fs[k] by
      have e1 : q ≠ 0 := by omega
      have e2 : ¬ q <= 0 := by omega
      simp [withStep, <- HQ.out, e1, e2])
     clear hq0
     go_wp2_with (fail)
     refine (l1Copy_any _ fs[k] _ (K3.out.on hB2) (by omega)).mono ?_
     rintro e w3 ⟨A4, c4, rfl, ho4, hb4⟩
     go_wp2_with (at_builtin; refine wpList_push rfl (.tmp 35) (.tmp 41) rfl HC2.out hb4 ho4 rfl rfl rfl (by omega) ?_; intro g4 cap4 w4 av4 hcol4 hgr4; have HC4 := Lib.hid hcol4; clear hcol4 hgr4)
     go_roundw
     case rel => exact ⟨k + 1, (gs ++ [fs[k]], false), _, _, _, by omega, by go_num, rfl, by simp, ⟨HC4.out, With.next HST.out hlt HS.out⟩⟩
     case measure => simp [intOf]; omega
  ·have hkn : fs.length = k := by omega
   have HB := Lib.hid (bthen B1 hcol.below)
   have hz1 : w.heap.size <= w1.heap.size := B1.size
   have n1 : wr.cell? ⟨w.heap.size, 0, none⟩ = some (.int .i64 f.1) := (k0.below hcol.below k0.lt).cell 0
   have n2 : wr.cell? ⟨w.heap.size, 1, none⟩ = some (.slice A2 f.2.length c2) := (k0.below hcol.below k0.lt).cell 1
   have HC := Lib.hid hcol
   cases pb with
   | true =>
    have HE := Lib.hid (show factsWith fs f = gs by unfold factsWith; rw [hkn, <- HST.out]; rfl)
    clear hcol hkn
    go_wp2_with (fail)
    go_ret
    rw [HE.out]
    exact ⟨_, _, rfl, HC.out.own.own.mono hz1 (Nat.le_refl _), HB.out⟩
   | false =>
    have HE := Lib.hid (show factsWith fs f = gs ++ [f] by unfold factsWith; rw [hkn, <- HST.out]; rfl)
    clear hcol hkn
    go_wp2_with (fail)
    refine (l1Copy_any _ f _ (H2.out.on HB.out) (by omega)).mono ?_
    rintro e w3 ⟨A4, c4, rfl, ho4, hb4⟩
    go_wp2_with (at_builtin; refine wpList_push rfl (.tmp 45) (.tmp 48) rfl HC.out hb4 ho4 rfl rfl rfl (by omega) ?_; intro g4 cap4 w4 av4 hcol4 hgr4; have HC4 := Lib.hid hcol4; clear hcol4 hgr4)
    go_ret
    rw [HE.out]
    exact ⟨some ⟨g4, 0, none⟩, cap4, by simp, HC4.out.own.own.mono hz1 (Nat.le_refl _), bthen B1 HC4.out.below⟩
open Go.RowKit
theorem foldWith_bound : ∀ (l out : List LFact), (l.foldl factsWith out).length <= out.length + l.length /\ tot (l.foldl factsWith out) <= tot out + tot l
 | [], out => by simp [tot]
 | f :: l, out => by
  have h1 := factsWith_bound out f
  have h2 := foldWith_bound l (factsWith out f)
  rw [tot_cons]
  simp only [List.foldl_cons, List.length_cons]
  omega
theorem setOf_bound (l : List LFact) : (setOf l).length <= l.length /\ tot (setOf l) <= tot l := by
 have := foldWith_bound l []
 unfold setOf
 simpa [tot] using this
theorem setOf_snoc (l : List LFact) (f : LFact) : setOf (l ++ [f]) = factsWith (setOf l) f := by simp [setOf, List.foldl_append]
set_option maxHeartbeats 1000000 in
set_option maxRecDepth 100000 in
theorem specFactsEither_any (v v2 : Value) (xs ys : List LFact) (w : World) (h : RdFacts w w.heap.size v xs) (h2 : RdFacts w w.heap.size v2 ys) (hn : xs.length + ys.length <= 1048576) (ht : tot xs + tot ys <= 1048576) :
 Calls Tryz.prog 108 #[v, v2] w fun e w' => ∃ A' c', e = .returned (.slice A' (setOf (xs ++ ys)).length c') /\ OwnFacts w' w.heap.size w'.heap.size (.slice A' (setOf (xs ++ ys)).length c') (setOf (xs ++ ys)) /\ Below w.heap.size w w' := by
 have H := Lib.hid h
 have H2 := Lib.hid h2
 obtain ⟨A, c, rfl, hc, _⟩ := h
 obtain ⟨A2, c2, rfl, hc2, _⟩ := h2
 go_enter Tryz.func108, Tryz.ntmps108
 go_wp2_with (fail)
 go_loopw [5, 6] (fun o i wr => ∃ (k : Nat) (gs : List LFact) (A' : Option Addr) (c' : Nat), k <= xs.length /\ i = .int .i64 k /\ gs = setOf (xs.take k) /\ o = .slice A' gs.length c' /\ OwnFacts wr w.heap.size wr.heap.size (.slice A' gs.length c') gs /\ Below w.heap.size w wr) (fun _ i _ => xs.length - (intOf i).toNat)
 case atStart => exact ⟨0, [], _, 0, Nat.zero_le _, rfl, rfl, rfl, (ColRel.empty w).own.own.mono (Nat.le_refl _) (Nat.le_refl _), below1 _ _⟩
 case round =>
  obtain ⟨k, gs, A', c', hk, rfl, hgs, rfl, ho, hbe⟩ := hrel
  have hbd := setOf_bound (xs.take k)
  rw [<- hgs, List.length_take] at hbd
  have htk := tot_take_le xs k
  have HO := Lib.hid ho
  have HG := Lib.hid hgs
  clear ho hgs
  by_cases hlt : k < xs.length
  ·obtain ⟨b, o, A3, c3, rfl, hbB, k1, k2, k3⟩ := (H.out.on hbe).get hlt
   have hln := len_le_tot xs k hlt
   have K3 := Lib.hid (show RdFact wr wr.heap.size (.agg #[.int .i64 xs[k].1, .slice A3 xs[k].2.length c3]) xs[k] from ⟨_, rfl, k3⟩)
   clear k3
   go_wp2_with (fail)
   refine (specFactsWith_any _ _ gs xs[k] _ HO.out.rd K3.out (by omega) (by omega) (by omega)).mono ?_
   rintro e w2 ⟨A4, c4, rfl, ho4, hb4⟩
   have HR := Lib.hid (show OwnFacts w2 w.heap.size w2.heap.size _ _ from ho4.mono hbe.size (Nat.le_refl _))
   have HB := Lib.hid (bthen hbe hb4)
   have HE := Lib.hid (show factsWith gs xs[k] = setOf (xs.take (k + 1)) by rw [take_snoc xs k hlt, setOf_snoc, <- HG.out])
   clear ho4 hb4
   go_wp2_with (fail)
   go_roundw
   case rel => exact ⟨k + 1, factsWith gs xs[k], _, _, by omega, by go_num, HE.out, rfl, HR.out, HB.out⟩
   case measure => simp [intOf]; omega
  ·have hkn : k = xs.length := by omega
   subst hkn
   have HX := Lib.hid (show gs = setOf xs by rw [HG.out, List.take_length])
   clear HG
   go_wp2_with (fail)
   go_loopw [5, 7] (fun o i wq => ∃ (k : Nat) (gs : List LFact) (A' : Option Addr) (c' : Nat), k <= ys.length /\ i = .int .i64 k /\ gs = setOf (xs ++ ys.take k) /\ o = .slice A' gs.length c' /\ OwnFacts wq w.heap.size wq.heap.size (.slice A' gs.length c') gs /\ Below w.heap.size w wq) (fun _ i _ => ys.length - (intOf i).toNat)
   case atStart => exact ⟨0, gs, _, _, Nat.zero_le _, rfl, by simpa using HX.out, rfl, HO.out, hbe⟩
   case round =>
    obtain ⟨k, gs, A', c', hk, rfl, hgs, rfl, ho, hbe⟩ := hrel
    have hbd := setOf_bound (xs ++ ys.take k)
    rw [<- hgs, tot_append, List.length_append, List.length_take] at hbd
    have htk := tot_take_le ys k
    have HO := Lib.hid ho
    have HG := Lib.hid hgs
    clear ho hgs
    by_cases hlt : k < ys.length
    ·obtain ⟨b, o, A3, c3, rfl, hbB, k1, k2, k3⟩ := (H2.out.on hbe).get hlt
     have hln := len_le_tot ys k hlt
     have K3 := Lib.hid (show RdFact _ _ (.agg #[.int .i64 ys[k].1, .slice A3 ys[k].2.length c3]) ys[k] from ⟨_, rfl, k3⟩)
     clear k3
     go_wp2_with (fail)
     refine (specFactsWith_any _ _ gs ys[k] _ HO.out.rd K3.out (by omega) (by omega) (by omega)).mono ?_
     rintro e w2 ⟨A4, c4, rfl, ho4, hb4⟩
     have HR := Lib.hid (show OwnFacts w2 w.heap.size w2.heap.size _ _ from ho4.mono hbe.size (Nat.le_refl _))
     have HB := Lib.hid (bthen hbe hb4)
     have HE := Lib.hid (show factsWith gs ys[k] = setOf (xs ++ ys.take (k + 1)) by rw [take_snoc ys k hlt, <- List.append_assoc, setOf_snoc, <- HG.out])
     clear ho4 hb4
     go_wp2_with (fail)
     go_roundw
     case rel => exact ⟨k + 1, factsWith gs ys[k], _, _, by omega, by go_num, HE.out, rfl, HR.out, HB.out⟩
     case measure => simp [intOf]; omega
    ·have hkn : k = ys.length := by omega
     subst hkn
     have HY := Lib.hid (show gs = setOf (xs ++ ys) by rw [HG.out, List.take_length])
     have HB := Lib.hid hbe
     clear HG
     go_wp2_with (fail)
     go_ret
     rw [<- HY.out]
     exact ⟨A', c', rfl, HO.out, HB.out⟩
end Go.Proofs.YtmnolnmpglanfaaGreatDoor
