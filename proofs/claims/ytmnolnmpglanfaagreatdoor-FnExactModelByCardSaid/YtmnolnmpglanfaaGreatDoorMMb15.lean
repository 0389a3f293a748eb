/-
  The law FnExactModelBy: for every input the call returns true, and each argument reads behind it as it read before. Conditions: none but the row's own.
-/
import Derived.Deep.RegionHeld3
import Derived.Deep.DeepCutAuto
import Derived.Deep.RegionWith
import Derived.Test.YtmnolnmpglanfaaGreatDoorRows
import Derived.Test.YtmnolnmpglanfaaGreatDoorCards
import Derived.Test.YtmnolnmpglanfaaGreatDoorTie
import Derived.Lay
import Derived.SevenTiedAt
import Derived.Test.YtmnolnmpglanfaaGreatDoorModelByJoin
import Derived.Test.YtmnolnmpglanfaaGreatDoorJFm
import Derived.Test.YtmnolnmpglanfaaGreatDoorJFg
import Derived.Test.YtmnolnmpglanfaaGreatDoorModelByGoes
import Derived.Test.YtmnolnmpglanfaaGreatDoorMMb1
import Derived.Test.YtmnolnmpglanfaaGreatDoorMMb2
import Derived.Test.YtmnolnmpglanfaaGreatDoorMMb9
import Derived.Test.YtmnolnmpglanfaaGreatDoorMMb11
import Derived.Test.YtmnolnmpglanfaaGreatDoorMMb14
namespace Go.Proofs.YtmnolnmpglanfaaGreatDoor
open Go.RowKit
theorem bitsN_len (x : Nat) : (bitsN x).length <= 64 := by
 unfold bitsN
 exact Nat.le_trans (List.length_filter_le _ _) (by simp)
set_option maxHeartbeats 4000000 in
set_option maxRecDepth 100000 in
theorem implLinksOf_any (v : Value) (p : LProg) (w : World) (h : RdProg w w.heap.size v p) (hs : szP p <= 1048576) (hT : Tab w) :
 Calls Tryz.prog 123 #[v] w fun e w' => ∃ A' c', e = .returned (.slice A' (linksOf p).length c') /\ OwnLinks w' w.heap.size w'.heap.size (.slice A' (linksOf p).length c') (linksOf p) /\ Below w.heap.size w w' := by
 obtain ⟨i0, hi0, hz0, hz1, hz2⟩ := info_parts Tryz.infoLink
 have HP := Lib.hid h
 have HT := Lib.hid hT
 have hs' := hs
 unfold szP at hs'
 obtain ⟨a, b, rfl, hA, hR⟩ := h
 have HR := Lib.hid hR
 obtain ⟨A, c, rfl, hcA, _⟩ := hA
 obtain ⟨A2, c2, rfl, hcR, _⟩ := hR
 clear hT
 obtain ⟨po, hpo⟩ : ∃ po, po = progOk p := ⟨_, rfl⟩
 go_enter Tryz.func123, Tryz.ntmps123
 go_upto_region 1 with fail
 obtain ⟨w1, hw1⟩ : ∃ w1, w1 = w.alloc (Obj.cells #[Value.slice A p.1.length c, Value.slice A2 p.2.length c2] 34) := ⟨_, rfl⟩
 have X1 : Blk w1 w.heap.size 34 #[.slice A p.1.length c, .slice A2 p.2.length c2] := by rw [hw1]; exact Blk.new _ _ _
 have B1 : Below w.heap.size w w1 := by rw [hw1]; exact below1 _ _
 rw [<- hw1]
 clear hw1
 have x0 : w1.cell? ⟨w.heap.size, 0, none⟩ = some (.slice A p.1.length c) := X1.cell 0
 have x1 : w1.cell? ⟨w.heap.size, 1, none⟩ = some (.slice A2 p.2.length c2) := X1.cell 1
 have CP := Lib.hid ((implProgramOk_any _ p w1 (HP.out.on B1) hs).mono fun e w' (hh : e = .returned (.bool (progOk p)) /\ Below w1.heap.size w1 w') => (⟨by rw [hh.1, hpo], hh.2⟩ : e = .returned (.bool po) /\ Below w1.heap.size w1 w'))
 have HPO := Lib.hid hpo
 have HX1 := Lib.hid X1
 clear hpo X1
 cases po
 ·go_wp2_with (go_at_call 122; refine CP.out.mono ?_; rintro e w2 ⟨rfl, b2⟩; have B2 := Lib.hid (bthen B1 b2); clear b2)
  go_ret
  have e : linksOf p = [] := by unfold linksOf; rw [<- HPO.out]; rfl
  rw [e]
  exact ⟨none, 0, rfl, ⟨by simpa [flatK] using World.ownsRow_nil _ _ 173 3, fun g hg => by cases hg⟩, B2.out⟩
 obtain ⟨hn24, hfit⟩ := asksOf_fits HPO.out.symm
 have HFIT := Lib.hid hfit
 have HRL := Lib.hid (show ∀ r ∈ p.2, r.2.length <= 1048576 from fun r hr => by
  obtain ⟨k, hk, rfl⟩ := List.getElem_of_mem hr
  have := sz_le_totR p.2 k hk
  unfold szR at this
  omega)
 obtain ⟨ps, hps⟩ : ∃ ps, ps = asksOf p.2 := ⟨_, rfl⟩
 have HLK := Lib.hid (show linksOf p = linksL p.1.length p.1.length ps by unfold linksOf; rw [if_pos HPO.out.symm, hps])
 have CA := Lib.hid (fun W (hW : Below w.heap.size w W) => (askingOf_any (.slice A2 p.2.length c2) p.2 p.1.length W (HR.out.on hW) hn24 hfit (by omega) HRL.out).mono fun e w' (hh : e = .returned (.agg (askCells (askWords 0 (asksOf p.2)) (askWords 1 (asksOf p.2)))) /\ Below W.heap.size W w') => (⟨by rw [hh.1, hps], hh.2⟩ : e = .returned (.agg (askCells (askWords 0 ps) (askWords 1 ps))) /\ Below W.heap.size W w'))
 have HF := Lib.hid (show ∀ x ∈ ps, AskFits p.1.length x by rw [hps]; exact hfit)
 clear hfit hps
 go_upto_region 4 with (first
  | (go_at_call 122; refine CP.out.mono ?_; rintro e w2 ⟨rfl, b2⟩; have B2 := Lib.hid (bthen B1 b2)
     have HX2 := Lib.hid (HX1.out.below b2 HX1.out.lt)
     have x21 : w2.cell? ⟨w.heap.size, 1, none⟩ = some (.slice A2 p.2.length c2) := HX2.out.cell 1
     clear b2)
  | (go_at_call 163; refine (CA.out _ B2.out).mono ?_; rintro e w3 ⟨rfl, b3⟩; have B3 := Lib.hid (bthen B2.out b3)
     have HX3 := Lib.hid (HX2.out.below b3 HX2.out.lt)
     obtain ⟨cs, hcs⟩ : ∃ cs, cs = askCells (askWords 0 ps) (askWords 1 ps) := ⟨_, rfl⟩
     rw [<- hcs]
     have HCZ := Lib.hid (show cs.size = 48 by rw [hcs]; simp [askCells, askWords_len])
     have HONE := Lib.hid (show cs.all (·.oneCell') = true by
      rw [hcs]
      unfold askCells
      rw [List.all_toArray, List.all_map, List.all_eq_true]
      intro x _
      rfl)
     have HSI := Lib.hid (show (Tryz.prog.info? 156).map (·.size) = some cs.size by rw [HCZ.out]; kernel_rfl)
     have HCS := Lib.hid hcs
     clear b3 hcs)
  | (refine wpList_store_row rfl 156 _ _ rfl w3.heap.size cs rfl rfl 156 _ (heap_alloc_new w3 _) HSI.out (by rw [HCZ.out]; rfl) HONE.out ?_))
 obtain ⟨zs, hzs⟩ : ∃ zs, zs = askCells zeroA zeroA := ⟨_, rfl⟩
 rw [show (#[Value.int IntKind.u64 0, Value.int IntKind.u64 0, Value.int IntKind.u64 0, Value.int IntKind.u64 0, Value.int IntKind.u64 0, Value.int IntKind.u64 0, Value.int IntKind.u64 0, Value.int IntKind.u64 0, Value.int IntKind.u64 0, Value.int IntKind.u64 0, Value.int IntKind.u64 0, Value.int IntKind.u64 0, Value.int IntKind.u64 0, Value.int IntKind.u64 0, Value.int IntKind.u64 0, Value.int IntKind.u64 0, Value.int IntKind.u64 0, Value.int IntKind.u64 0, Value.int IntKind.u64 0, Value.int IntKind.u64 0, Value.int IntKind.u64 0, Value.int IntKind.u64 0, Value.int IntKind.u64 0, Value.int IntKind.u64 0, Value.int IntKind.u64 0, Value.int IntKind.u64 0, Value.int IntKind.u64 0, Value.int IntKind.u64 0, Value.int IntKind.u64 0, Value.int IntKind.u64 0, Value.int IntKind.u64 0, Value.int IntKind.u64 0, Value.int IntKind.u64 0, Value.int IntKind.u64 0, Value.int IntKind.u64 0, Value.int IntKind.u64 0, Value.int IntKind.u64 0, Value.int IntKind.u64 0, Value.int IntKind.u64 0, Value.int IntKind.u64 0, Value.int IntKind.u64 0, Value.int IntKind.u64 0, Value.int IntKind.u64 0, Value.int IntKind.u64 0, Value.int IntKind.u64 0, Value.int IntKind.u64 0, Value.int IntKind.u64 0, Value.int IntKind.u64 0] : Array Value) = zs from by rw [hzs]; rfl]
 clear hzs
 obtain ⟨w5, hw5⟩ : ∃ w5, w5 = (w3.alloc (Obj.cells zs 156)).setRow w3.heap.size cs := ⟨_, rfl⟩
 obtain ⟨g, hg⟩ : ∃ g, g = w3.heap.size := ⟨_, rfl⟩
 have G5 : AskAt w5 g (askWords 0 ps) (askWords 1 ps) := by rw [hw5, hg]; refine ⟨?_, askWords_len _ _, askWords_len _ _⟩; rw [<- HCS.out]; exact setRow_heap _ _ _ cs _ _ (heap_alloc_new w3 _)
 have b5 : Below w3.heap.size w3 w5 := by rw [hw5]; exact below_setRow (below1 _ _) (Nat.le_refl _) _
 have hs5 : w5.heap.size = w3.heap.size + 1 := by rw [hw5]; simp
 rw [<- hw5, show w3.heap.size = g from hg.symm]
 have HX5 := Lib.hid (HX3.out.below b5 HX3.out.lt)
 have B5 := Lib.hid (bthen B3.out b5)
 have HA := Lib.hid G5
 have HGL := Lib.hid (show g < w5.heap.size by omega)
 have x50 : w5.cell? ⟨w.heap.size, 0, none⟩ = some (.slice A p.1.length c) := HX5.out.cell 0
 have hw5s := B5.out.size
 clear hw5 G5 b5 hs5 hg HX1 CP CA x0 x1
 obtain ⟨lo, hlo⟩ : ∃ lo, lo = w5.heap.size := ⟨_, rfl⟩
 rw [<- hlo] at HGL hw5s
 have HTB := Lib.hid (fun W (hW : Below lo w5 W) => HT.out.below (B5.out.trans (hW.mono hw5s)))
 have HLO := Lib.hid hlo
 have hlw : lo <= w5.heap.size := by omega
 clear hlo
 go_wp2_with fail
 go_loopw [4, 17] (fun o i wr => ∃ (k : Nat) (A' : Option Addr) (c' : Nat), k <= p.1.length /\ i = .int .i64 k /\ o = .slice A' (linksL p.1.length k ps).length c' /\ ColK lo wr (linksL p.1.length k ps) A' c' /\ Below lo w5 wr /\ lo <= wr.heap.size) (fun _ i _ => p.1.length - (intOf i).toNat)
 case atStart => exact ⟨0, none, 0, Nat.zero_le _, rfl, rfl, ColK.nil _ _, Below.refl _ _, by rw [HLO.out]; exact Nat.le_refl _⟩
 case round =>
  obtain ⟨k, A', c', hk, rfl, rfl, hcol, hbe, hsz⟩ := hrel
  have hll := linksL_len p.1.length k ps
  by_cases hlt : k < p.1.length
  ·have hk24 : k < 24 := by omega
   obtain ⟨Y, hY⟩ : ∃ Y, Y = (askWords 0 ps).getD k 0 := ⟨_, rfl⟩
   obtain ⟨N, hN⟩ : ∃ N, N = (askWords 1 ps).getD k 0 := ⟨_, rfl⟩
   have hYm : Y = askMask 0 ps k := by rw [hY, askWords_at hk24]
   have hNm : N = askMask 1 ps k := by rw [hN, askWords_at hk24]
   have HYL := Lib.hid (show Y < 18446744073709551616 by rw [hYm]; have := askMask_lt (i := k) hn24 (.inl rfl) HF.out; omega)
   have HNL := Lib.hid (show N < 18446744073709551616 by rw [hNm]; have := askMask_lt (i := k) hn24 (.inr rfl) HF.out; omega)
   have HYN := Lib.hid (show Y ||| N < 18446744073709551616 by exact Nat.or_lt_two_pow (n := 64) HYL.out HNL.out)
   have CAL := Lib.hid (fun W (hW : AskAt W g (askWords 0 ps) (askWords 1 ps)) => askAll_any g k _ _ W hW hk24 (by rw [<- hY]; exact HYL.out) (by rw [<- hN]; exact HNL.out))
   rw [<- hY, <- hN] at CAL
   obtain ⟨X, hX⟩ : ∃ X, X = Y ||| N := ⟨_, rfl⟩
   rw [<- hX] at CAL HYN
   have CBN := Lib.hid (fun W (hW : Tab W) => bitNumbers_any X HYN.out W hW)
   obtain ⟨B, hB⟩ : ∃ B, B = bitsN X := ⟨_, rfl⟩
   have hBb : bitsOf X = B.map fun j : Nat => (j : Int) := by rw [hB]; rfl
   rw [hBb] at CBN
   have HBL := Lib.hid (show B.length <= 64 by rw [hB]; exact bitsN_len _)
   have HBM := Lib.hid (show ∀ x ∈ B, x < 64 by rw [hB]; exact fun x hx => (bitsN_mem.1 hx).1)
   have HFM := Lib.hid (show B.flatMap (linkAt ps k) = linksFrom p.1.length ps k by rw [hB, hX, hYm, hNm]; exact linksFrom_bits hn24 HF.out k)
   have HYB := Lib.hid (show ∀ x, Y.testBit x = asked 0 ps k x from fun x => by rw [Bool.eq_iff_iff, hYm]; exact has_mask (.inl rfl) k x ps HF.out)
   have HNB := Lib.hid (show ∀ x, N.testBit x = asked 1 ps k x from fun x => by rw [Bool.eq_iff_iff, hNm]; exact has_mask (.inr rfl) k x ps HF.out)
   have HY := Lib.hid hY
   have HN := Lib.hid hN
   have ha0 : AskAt wr g (askWords 0 ps) (askWords 1 ps) := HA.out.below hbe HGL.out
   have HA0 := Lib.hid ha0
   have HCOL := Lib.hid hcol
   have HBE := Lib.hid hbe
   have hml : (B.map fun j : Nat => (j : Int)).length = B.length := by simp
   have HML := Lib.hid hml
   clear hY hN hYm hNm hX hB hBb ha0 hcol hbe hml
   go_wp2_with (first
    | (go_at_call 173; refine (CAL.out _ HA0.out).mono ?_; rintro e w6 ⟨rfl, b6⟩; have H6 := Lib.hid b6; clear b6)
    | (go_at_call 112; refine (CBN.out _ (HTB.out _ (HBE.out.trans (H6.out.mono hsz)))).mono ?_; rintro e w7 ⟨Ab, cb, rfl, o7, b7⟩; rw [HML.out]; have H7 := Lib.hid (And.intro o7 b7); clear o7 b7))
   obtain ⟨o7, b7⟩ := H7.out
   rw [HML.out] at o7
   have b67 := bthen H6.out b7
   have hs7 := b67.size
   have HC := Lib.hid (And.intro (HCOL.out.on b67) (And.intro (HBE.out.trans (b67.mono hsz)) (And.intro o7 (Nat.le_trans hsz hs7))))
   clear o7 b7 b67 H6 H7
   obtain ⟨lb, hlb⟩ : ∃ lb, lb = w6.heap.size := ⟨_, rfl⟩
   rw [<- hlb] at HC
   obtain ⟨hb, hhb⟩ : ∃ hb, hb = w7.heap.size := ⟨_, rfl⟩
   have HC := Lib.hid (show ColK lo w7 (linksL p.1.length k ps) A' c' /\ Below lo w5 w7 /\ OwnInts w7 lb hb (.slice Ab B.length cb) (B.map fun j : Nat => (j : Int)) /\ lo <= w7.heap.size from hhb ▸ HC.out)
   clear hlb hhb
   rename World => w7'
   go_loopw [4, 24] (fun o i wr => ∃ (m : Nat) (X0 : List LLink) (A' : Option Addr) (c' : Nat), m <= B.length /\ i = .int .i64 m /\ o = .slice A' X0.length c' /\ X0 = linksL p.1.length k ps ++ (B.take m).flatMap (linkAt ps k) /\ ColK lo wr X0 A' c' /\ Below lo w5 wr /\ OwnInts wr lb hb (.slice Ab B.length cb) (B.map fun j : Nat => (j : Int)) /\ lo <= wr.heap.size) (fun _ i _ => B.length - (intOf i).toNat)
   case atStart => exact ⟨0, linksL p.1.length k ps, A', c', Nat.zero_le _, rfl, rfl, by simp, HC.out⟩
   case round =>
    obtain ⟨m, X0, A', c', hm, rfl, rfl, hX0, hC⟩ := hrel
    have HC := Lib.hid hC
    have HX0 := Lib.hid hX0
    have hlX : X0.length <= k * (p.1.length * 2) + m * 2 := by
     have h1 := flatMap_len (linkAt_len ps k) (B.take m)
     rw [hX0, List.length_append]
     rw [List.length_take] at h1
     have h2 : min m B.length = m := by omega
     rw [h2] at h1
     omega
    have hlX2 : X0.length <= 1280 := by
     have h1 : k * (p.1.length * 2) <= 24 * 48 := Nat.mul_le_mul (by omega) (by omega)
     have := HBL.out
     omega
    clear hlX
    have hB64 := HBL.out
    by_cases hltm : m < B.length
    ·obtain ⟨A7, c7, e7, _, hx⟩ := hC.2.2.1.rd
     injection e7 with e7 e9 e8
     clear e9
     subst e7 e8
     obtain ⟨b7, o7, rfl, _, hx⟩ := hx (by rw [HML.out]; omega)
     obtain ⟨b, hbe⟩ : ∃ b, b = B[m] := ⟨_, rfl⟩
     have hck : wr.cell? ⟨b7, o7 + m, none⟩ = some (.int .i64 b) := by
      have := hx m (by rw [HML.out]; exact hltm)
      rw [this, hbe]
      simp
     have hb64 : b < 64 := by rw [hbe]; exact HBM.out _ (List.getElem_mem hltm)
     have HT := Lib.hid (show linksL p.1.length k ps ++ (B.take (m + 1)).flatMap (linkAt ps k) = X0 ++ linkAt ps k b from by
      rw [take_snoc B m hltm, List.flatMap_append, <- List.append_assoc, <- hX0, hbe]; simp)
     have hq0 : wr.cell? ⟨g, k, none⟩ = some (.int .u64 ((Y : Nat) : Int)) := by rw [HY.out]; exact (HA.out.below hC.2.1 HGL.out).yes hk24
     have hs0 : wr.cell? ⟨g, 24 + k, none⟩ = some (.int .u64 ((N : Nat) : Int)) := by rw [HN.out]; exact (HA.out.below hC.2.1 HGL.out).no hk24
     have hki : (k : Int) < 24 := by omega
     clear hx hbe hX0 hC
     obtain ⟨a0, ha0⟩ : ∃ a, a = asked 0 ps k b := ⟨_, rfl⟩
     obtain ⟨a1, ha1⟩ : ∃ a, a = asked 1 ps k b := ⟨_, rfl⟩
     have HB0 := Lib.hid (show Y.testBit b = a0 by rw [HYB.out, ha0])
     have HB1 := Lib.hid (show N.testBit b = a1 by rw [HNB.out, ha1])
     have HA0 := Lib.hid ha0.symm
     have HA1 := Lib.hid ha1.symm
     clear ha0 ha1
     cases a0 <;> cases a1
     ·go_wp2_with (first
       | (go_at_call 164; refine (hasBit_any _ _ HYL.out hb64 _).mono ?_; rw [HB0.out]; rintro e w' ⟨rfl, rfl⟩)
       | (go_at_call 164; refine (hasBit_any _ _ HNL.out hb64 _).mono ?_; rw [HB1.out]; rintro e w' ⟨rfl, rfl⟩))
      go_roundw
      case rel => exact ⟨m + 1, X0, A', c', by omega, by go_num, rfl, by rw [HT.out, linkAt, HA0.out, HA1.out]; simp, HC.out⟩
      case measure => simp [intOf]; omega
     ·go_wp2_with (first
       | (go_at_call 164; refine (hasBit_any _ _ HYL.out hb64 _).mono ?_; rw [HB0.out]; rintro e w' ⟨rfl, rfl⟩)
       | (go_at_call 164; refine (hasBit_any _ _ HNL.out hb64 _).mono ?_; rw [HB1.out]; rintro e w' ⟨rfl, rfl⟩)
       | (at_builtin; refine wpList_append_lies _ rfl (.tmp 46) (.tmp 50) 170 rfl lo 173 i0 (.agg #[.int .i64 0, .int .i64 0, .bool false]) 3 24 Tryz.underlying170 hi0 hz0 hz1 hz2 rfl (by decide) (.slice A' X0.length c') X0.length (flatK X0) rfl ?c1 ⟨_, 0, none⟩ 1 1 [.int .i64 k, .int .i64 b, .bool true] rfl rfl (news3 _ _ _ _ _ _ (by simp)) ?c2 (by omega) (by unfold maxLen; omega) (by omega) ?c3 _ rfl ?_))
      case c1 => exact HC.out.1.own.1.alloc _
      case c2 => intro u hu; simp at hu; rcases hu with rfl | rfl | rfl <;> rfl
      case c3 => have := HC.out.2.2.2; simp; omega
      intro g1 cap1 v1 hown1 hg1 _ _
      obtain ⟨r1, r2, r3, r4⟩ := ColK.more (l := ((k : Int), (b : Int), true)) HC.out.1 HC.out.2.1 HC.out.2.2.2 HC.out.2.2.1 hg1 hown1
      have HC1 := Lib.hid (And.intro r1 (And.intro r2 (And.intro r3 (Nat.le_trans HC.out.2.2.2 r4))))
      have hq1 : v1.cell? ⟨g, k, none⟩ = some (.int .u64 ((Y : Nat) : Int)) := by rw [HY.out]; exact (HA.out.below r2 HGL.out).yes hk24
      have hs1 : v1.cell? ⟨g, 24 + k, none⟩ = some (.int .u64 ((N : Nat) : Int)) := by rw [HN.out]; exact (HA.out.below r2 HGL.out).no hk24
      obtain ⟨X1, hX1⟩ : ∃ X, X = X0 ++ [((k : Int), (b : Int), true)] := ⟨_, rfl⟩
      have hl1 : X0.length + 1 = X1.length := by rw [hX1]; simp
      rw [<- hX1] at HC1
      rw [hl1]
      have hz1' : X1.length <= X0.length + 1 := by omega
      have HX1 := Lib.hid hX1
      clear hl1 hX1 r1 r2 r3 r4 hown1 hg1
      go_wp2_with (first
       | (go_at_call 164; refine (hasBit_any _ _ HYL.out hb64 _).mono ?_; rw [HB0.out]; rintro e w' ⟨rfl, rfl⟩)
       | (go_at_call 164; refine (hasBit_any _ _ HNL.out hb64 _).mono ?_; rw [HB1.out]; rintro e w' ⟨rfl, rfl⟩))
      go_roundw
      case rel => exact ⟨m + 1, X1, (some ⟨g1, 0, none⟩), cap1, by omega, by go_num, rfl, by rw [HT.out, HX1.out, linkAt, HA0.out, HA1.out]; simp, HC1.out⟩
      case measure => simp [intOf]; omega
     ·go_wp2_with (first
       | (go_at_call 164; refine (hasBit_any _ _ HYL.out hb64 _).mono ?_; rw [HB0.out]; rintro e w' ⟨rfl, rfl⟩)
       | (go_at_call 164; refine (hasBit_any _ _ HNL.out hb64 _).mono ?_; rw [HB1.out]; rintro e w' ⟨rfl, rfl⟩)
       | (at_builtin; refine wpList_append_lies _ rfl (.tmp 34) (.tmp 38) 170 rfl lo 173 i0 (.agg #[.int .i64 0, .int .i64 0, .bool false]) 3 24 Tryz.underlying170 hi0 hz0 hz1 hz2 rfl (by decide) (.slice A' X0.length c') X0.length (flatK X0) rfl ?c1 ⟨_, 0, none⟩ 1 1 [.int .i64 k, .int .i64 b, .bool false] rfl rfl (news3 _ _ _ _ _ _ (by simp)) ?c2 (by omega) (by unfold maxLen; omega) (by omega) ?c3 _ rfl ?_))
      case c1 => exact HC.out.1.own.1.alloc _
      case c2 => intro u hu; simp at hu; rcases hu with rfl | rfl | rfl <;> rfl
      case c3 => have := HC.out.2.2.2; simp; omega
      intro g1 cap1 v1 hown1 hg1 _ _
      obtain ⟨r1, r2, r3, r4⟩ := ColK.more (l := ((k : Int), (b : Int), false)) HC.out.1 HC.out.2.1 HC.out.2.2.2 HC.out.2.2.1 hg1 hown1
      have HC1 := Lib.hid (And.intro r1 (And.intro r2 (And.intro r3 (Nat.le_trans HC.out.2.2.2 r4))))
      have hq1 : v1.cell? ⟨g, k, none⟩ = some (.int .u64 ((Y : Nat) : Int)) := by rw [HY.out]; exact (HA.out.below r2 HGL.out).yes hk24
      have hs1 : v1.cell? ⟨g, 24 + k, none⟩ = some (.int .u64 ((N : Nat) : Int)) := by rw [HN.out]; exact (HA.out.below r2 HGL.out).no hk24
      obtain ⟨X1, hX1⟩ : ∃ X, X = X0 ++ [((k : Int), (b : Int), false)] := ⟨_, rfl⟩
      have hl1 : X0.length + 1 = X1.length := by rw [hX1]; simp
      rw [<- hX1] at HC1
      rw [hl1]
      have hz1' : X1.length <= X0.length + 1 := by omega
      have HX1 := Lib.hid hX1
      clear hl1 hX1 r1 r2 r3 r4 hown1 hg1
      go_wp2_with (first
       | (go_at_call 164; refine (hasBit_any _ _ HYL.out hb64 _).mono ?_; rw [HB0.out]; rintro e w' ⟨rfl, rfl⟩)
       | (go_at_call 164; refine (hasBit_any _ _ HNL.out hb64 _).mono ?_; rw [HB1.out]; rintro e w' ⟨rfl, rfl⟩))
      go_roundw
      case rel => exact ⟨m + 1, X1, (some ⟨g1, 0, none⟩), cap1, by omega, by go_num, rfl, by rw [HT.out, HX1.out, linkAt, HA0.out, HA1.out]; simp, HC1.out⟩
      case measure => simp [intOf]; omega
     ·go_wp2_with (first
       | (go_at_call 164; refine (hasBit_any _ _ HYL.out hb64 _).mono ?_; rw [HB0.out]; rintro e w' ⟨rfl, rfl⟩)
       | (go_at_call 164; refine (hasBit_any _ _ HNL.out hb64 _).mono ?_; rw [HB1.out]; rintro e w' ⟨rfl, rfl⟩)
       | (at_builtin; refine wpList_append_lies _ rfl (.tmp 34) (.tmp 38) 170 rfl lo 173 i0 (.agg #[.int .i64 0, .int .i64 0, .bool false]) 3 24 Tryz.underlying170 hi0 hz0 hz1 hz2 rfl (by decide) (.slice A' X0.length c') X0.length (flatK X0) rfl ?c1 ⟨_, 0, none⟩ 1 1 [.int .i64 k, .int .i64 b, .bool false] rfl rfl (news3 _ _ _ _ _ _ (by simp)) ?c2 (by omega) (by unfold maxLen; omega) (by omega) ?c3 _ rfl ?_))
      case c1 => exact HC.out.1.own.1.alloc _
      case c2 => intro u hu; simp at hu; rcases hu with rfl | rfl | rfl <;> rfl
      case c3 => have := HC.out.2.2.2; simp; omega
      intro g1 cap1 v1 hown1 hg1 _ _
      obtain ⟨r1, r2, r3, r4⟩ := ColK.more (l := ((k : Int), (b : Int), false)) HC.out.1 HC.out.2.1 HC.out.2.2.2 HC.out.2.2.1 hg1 hown1
      have HC1 := Lib.hid (And.intro r1 (And.intro r2 (And.intro r3 (Nat.le_trans HC.out.2.2.2 r4))))
      have hq1 : v1.cell? ⟨g, k, none⟩ = some (.int .u64 ((Y : Nat) : Int)) := by rw [HY.out]; exact (HA.out.below r2 HGL.out).yes hk24
      have hs1 : v1.cell? ⟨g, 24 + k, none⟩ = some (.int .u64 ((N : Nat) : Int)) := by rw [HN.out]; exact (HA.out.below r2 HGL.out).no hk24
      obtain ⟨X1, hX1⟩ : ∃ X, X = X0 ++ [((k : Int), (b : Int), false)] := ⟨_, rfl⟩
      have hl1 : X0.length + 1 = X1.length := by rw [hX1]; simp
      rw [<- hX1] at HC1
      rw [hl1]
      have hz1' : X1.length <= X0.length + 1 := by omega
      have HX1 := Lib.hid hX1
      clear hl1 hX1 r1 r2 r3 r4 hown1 hg1
      go_wp2_with (first
       | (go_at_call 164; refine (hasBit_any _ _ HYL.out hb64 _).mono ?_; rw [HB0.out]; rintro e w' ⟨rfl, rfl⟩)
       | (go_at_call 164; refine (hasBit_any _ _ HNL.out hb64 _).mono ?_; rw [HB1.out]; rintro e w' ⟨rfl, rfl⟩)
       | (at_builtin; refine wpList_append_lies _ rfl (.tmp 46) (.tmp 50) 170 rfl lo 173 i0 (.agg #[.int .i64 0, .int .i64 0, .bool false]) 3 24 Tryz.underlying170 hi0 hz0 hz1 hz2 rfl (by decide) (.slice (some ⟨g1, 0, none⟩) X1.length cap1) X1.length (flatK X1) rfl ?c1 ⟨_, 0, none⟩ 1 1 [.int .i64 k, .int .i64 b, .bool true] rfl rfl (news3 _ _ _ _ _ _ (by simp)) ?c2 (by omega) (by unfold maxLen; omega) (by omega) ?c3 _ rfl ?_))
      case c1 => exact HC1.out.1.own.1.alloc _
      case c2 => intro u hu; simp at hu; rcases hu with rfl | rfl | rfl <;> rfl
      case c3 => have := HC1.out.2.2.2; simp; omega
      intro g2 cap2 v2 hown2 hg2 _ _
      obtain ⟨r1, r2, r3, r4⟩ := ColK.more (l := ((k : Int), (b : Int), true)) HC1.out.1 HC1.out.2.1 HC1.out.2.2.2 HC1.out.2.2.1 hg2 hown2
      have HC2 := Lib.hid (And.intro r1 (And.intro r2 (And.intro r3 (Nat.le_trans HC1.out.2.2.2 r4))))
      have hq2 : v2.cell? ⟨g, k, none⟩ = some (.int .u64 ((Y : Nat) : Int)) := by rw [HY.out]; exact (HA.out.below r2 HGL.out).yes hk24
      have hs2 : v2.cell? ⟨g, 24 + k, none⟩ = some (.int .u64 ((N : Nat) : Int)) := by rw [HN.out]; exact (HA.out.below r2 HGL.out).no hk24
      obtain ⟨X2, hX2⟩ : ∃ X, X = X1 ++ [((k : Int), (b : Int), true)] := ⟨_, rfl⟩
      have hl2 : X1.length + 1 = X2.length := by rw [hX2]; simp
      rw [<- hX2] at HC2
      rw [hl2]
      have hz2' : X2.length <= X1.length + 1 := by omega
      have HX2 := Lib.hid hX2
      clear hl2 hX2 r1 r2 r3 r4 hown2 hg2
      go_wp2_with (first
       | (go_at_call 164; refine (hasBit_any _ _ HYL.out hb64 _).mono ?_; rw [HB0.out]; rintro e w' ⟨rfl, rfl⟩)
       | (go_at_call 164; refine (hasBit_any _ _ HNL.out hb64 _).mono ?_; rw [HB1.out]; rintro e w' ⟨rfl, rfl⟩))
      go_roundw
      case rel => exact ⟨m + 1, X2, (some ⟨g2, 0, none⟩), cap2, by omega, by go_num, rfl, by rw [HT.out, HX2.out, HX1.out, linkAt, HA0.out, HA1.out]; simp, HC2.out⟩
      case measure => simp [intOf]; omega
    ·have HE := Lib.hid (show X0 = linksL p.1.length (k + 1) ps from by rw [hX0, show m = B.length by omega, List.take_length, HFM.out, linksL_snoc])
     clear hX0 hC
     go_wp2_with fail
     go_roundw
     case rel => exact ⟨k + 1, A', c', by omega, by go_num, by rw [HE.out], by rw [<- HE.out]; exact HC.out.1, HC.out.2.1, HC.out.2.2.2⟩
     case measure => simp [intOf]; omega
  ·have hkn : k = p.1.length := by omega
   rw [hkn] at hcol
   have HO := Lib.hid (hcol.own.mono (Nat.le_trans hw5s (Nat.le_refl _)) (Nat.le_refl _))
   have HBE := Lib.hid (B5.out.trans (hbe.mono hw5s))
   rw [<- HLK.out] at HO
   have HKE := Lib.hid (show linksL p.1.length k ps = linksOf p by rw [HLK.out, hkn])
   rw [HKE.out]
   clear hcol hbe hll hkn
   go_wp2_with fail
   go_ret
   exact ⟨A', c', rfl, HO.out, HBE.out⟩
open Go.RowKit
theorem linksOf_in {p : LProg} {l : LLink} (h : l ∈ linksOf p) : 0 <= l.1 /\ l.1 < p.1.length /\ 0 <= l.2.1 /\ l.2.1 < p.1.length := by
 unfold linksOf at h
 split at h
 ·unfold linksL at h
  obtain ⟨i, hi, h⟩ := List.mem_flatMap.1 h
  unfold linksFrom at h
  obtain ⟨k, hk, h⟩ := List.mem_flatMap.1 h
  have hi := List.mem_range.1 hi
  have hk := List.mem_range.1 hk
  unfold linkAt at h
  rcases List.mem_append.1 h with h | h
  ·split at h
   ·rw [List.mem_singleton] at h
    subst h
    exact ⟨by show (0 : Int) <= (i : Int); omega, by show (i : Int) < _; omega, by show (0 : Int) <= (k : Int); omega, by show (k : Int) < _; omega⟩
   ·cases h
  ·split at h
   ·rw [List.mem_singleton] at h
    subst h
    exact ⟨by show (0 : Int) <= (i : Int); omega, by show (i : Int) < _; omega, by show (0 : Int) <= (k : Int); omega, by show (k : Int) < _; omega⟩
   ·cases h
 ·cases h
theorem linksOf_len {p : LProg} (hn : p.1.length <= 24) : (linksOf p).length <= 1152 := by
 unfold linksOf
 split
 ·have := linksL_len p.1.length p.1.length (asksOf p.2)
  have h2 : p.1.length * (p.1.length * 2) <= 24 * 48 := Nat.mul_le_mul hn (by omega)
  omega
 ·simp
set_option maxHeartbeats 4000000 in
set_option maxRecDepth 100000 in
theorem implLayersFit_any (v v2 : Value) (p : LProg) (ls : List Int) (w : World) (h : RdProg w w.heap.size v p) (h2 : RdInts w w.heap.size v2 ls) (hs : szP p <= 1048576) (hl : ls.length <= 1048576) (hT : Tab w) :
 Calls Tryz.prog 75 #[v, v2] w fun e w' => e = .returned (.bool (layersFit p ls)) /\ Below w.heap.size w w' := by
 have HP := Lib.hid h
 have H2 := Lib.hid h2
 have HT := Lib.hid hT
 clear hT
 obtain ⟨a, b, rfl, hA, hR⟩ := h
 obtain ⟨A, c, rfl, hcA, _⟩ := hA
 obtain ⟨A2, c2, rfl, hcR, _⟩ := hR
 obtain ⟨A3, c3, rfl, hc3, _⟩ := h2
 obtain ⟨po, hpo⟩ : ∃ po, po = progOk p := ⟨_, rfl⟩
 obtain ⟨R, hRR⟩ : ∃ R, R = layersFit p ls := ⟨_, rfl⟩
 have HRR := Lib.hid (show R = ((po && decide (ls.length = p.1.length)) && (ls.all (fun x => decide (0 <= x)) && !(linksOf p).any (linkBad ls))) by rw [hRR, hpo]; rfl)
 rw [<- hRR]
 clear hRR
 go_enter Tryz.func75, Tryz.ntmps75
 go_upto_region 1 with fail
 obtain ⟨w1, hw1⟩ : ∃ w1, w1 = w.alloc (Obj.cells #[Value.slice A p.1.length c, Value.slice A2 p.2.length c2] 34) := ⟨_, rfl⟩
 have X1 : Blk w1 w.heap.size 34 #[.slice A p.1.length c, .slice A2 p.2.length c2] := by rw [hw1]; exact Blk.new _ _ _
 have B1 : Below w.heap.size w w1 := by rw [hw1]; exact below1 _ _
 rw [<- hw1]
 clear hw1
 have x0 : w1.cell? ⟨w.heap.size, 0, none⟩ = some (.slice A p.1.length c) := X1.cell 0
 have x1 : w1.cell? ⟨w.heap.size, 1, none⟩ = some (.slice A2 p.2.length c2) := X1.cell 1
 have CP := Lib.hid ((implProgramOk_any _ p w1 (HP.out.on B1) hs).mono fun e w' (hh : e = .returned (.bool (progOk p)) /\ Below w1.heap.size w1 w') => (⟨by rw [hh.1, hpo], hh.2⟩ : e = .returned (.bool po) /\ Below w1.heap.size w1 w'))
 have HPO := Lib.hid hpo
 have HX1 := Lib.hid X1
 clear hpo X1
 cases po
 ·go_wp2_with (go_at_call 122; refine CP.out.mono ?_; rintro e w2 ⟨rfl, b2⟩; have B2 := Lib.hid (bthen B1 b2); clear b2)
  go_ret
  exact ⟨ret_bool (by rw [HRR.out]; rfl), B2.out⟩
 by_cases hll : ls.length = p.1.length
 ·have hne : ((ls.length : Int) != (p.1.length : Int)) = false := by simp [hll]
  have HLL := Lib.hid hll
  obtain ⟨hn24, _⟩ := asksOf_fits HPO.out.symm
  have HR2 := Lib.hid (show R = (ls.all (fun x => decide (0 <= x)) && !(linksOf p).any (linkBad ls)) by rw [HRR.out, hll]; simp)
  have HLN := Lib.hid (linksOf_len hn24)
  have HIN := Lib.hid (fun l (h : l ∈ linksOf p) => linksOf_in h)
  obtain ⟨L, hL⟩ : ∃ L, L = linksOf p := ⟨_, rfl⟩
  have CL := Lib.hid (fun W (hW : Below w.heap.size w W) => implLinksOf_any _ p W (HP.out.on hW) hs (HT.out.below hW))
  rw [<- hL] at CL HR2 HLN HIN
  clear hll hL
  go_upto_region 4 with (go_at_call 122; refine CP.out.mono ?_; rintro e w2 ⟨rfl, b2⟩; have B2 := Lib.hid (bthen B1 b2)
                         have HX2 := Lib.hid (HX1.out.below b2 HX1.out.lt)
                         have x20 : w2.cell? ⟨w.heap.size, 0, none⟩ = some (.slice A p.1.length c) := HX2.out.cell 0
                         have x21 : w2.cell? ⟨w.heap.size, 1, none⟩ = some (.slice A2 p.2.length c2) := HX2.out.cell 1
                         clear b2)
  clear x0 x1
  go_loopw [24] (fun i wr => ∃ k : Nat, k <= ls.length /\ i = .int .i64 k /\ (∀ j (h : j < ls.length), j < k -> 0 <= ls[j]) /\ wr = w2) (fun i _ => ls.length - (intOf i).toNat)
  case atStart => exact ⟨0, Nat.zero_le _, rfl, fun j _ h => absurd h (Nat.not_lt_zero _), by first | rfl | trivial⟩
  case round =>
   obtain ⟨k, hk, rfl, hpos, rfl⟩ := hrel
   by_cases hkl : k < ls.length
   ·obtain ⟨A7, c7, e7, _, hx⟩ := H2.out.on B2.out
    injection e7 with e7 e9 e8
    clear e9
    subst e7 e8
    obtain ⟨b7, o7, rfl, hb7, hx⟩ := hx (by omega)
    have hck : wr.cell? ⟨b7, o7 + k, none⟩ = some (.int .i64 ls[k]) := hx k hkl
    clear hx
    have HPOS := Lib.hid hpos
    clear hpos
    by_cases hneg : ls[k] < 0
    ·have HE := Lib.hid (show R = false by
      rw [HR2.out, Bool.and_eq_false_iff]
      left
      rw [List.all_eq_false]
      exact ⟨ls[k], List.getElem_mem hkl, by simp; omega⟩)
     go_wp2_with fail
     go_ret
     exact ⟨ret_bool HE.out.symm, B2.out⟩
    ·have hng : decide (ls[k] < 0) = false := by simpa using hneg
     go_wp2_with fail
     go_roundw
     case rel => exact ⟨k + 1, by omega, by go_num, fun j h1 h2 => by
      by_cases e : j = k
      ·subst e; omega
      ·exact HPOS.out j h1 (by omega), by first | rfl | trivial⟩
     case measure => simp [intOf]; omega
   ·have HALL := Lib.hid (show ls.all (fun x => decide (0 <= x)) = true by
     rw [List.all_eq_true]
     intro x hx
     obtain ⟨j, hj, rfl⟩ := List.getElem_of_mem hx
     exact decide_eq_true (hpos j hj (by omega)))
    have HR3 := Lib.hid (show R = !L.any (linkBad ls) by rw [HR2.out, HALL.out, Bool.true_and])
    clear hpos
    go_upto_region 10 with (go_at_call 123; refine (CL.out _ B2.out).mono ?_; rintro e w3 ⟨A5, c5, rfl, o5, b5⟩; have H3 := Lib.hid (And.intro o5 (bthen B2.out b5)); clear o5 b5)
    obtain ⟨o5, B3⟩ := H3.out
    have HO5 := Lib.hid o5
    have HB3 := Lib.hid B3
    clear o5 B3 H3 x20 x21
    go_loopw [34] (fun i wr => ∃ k : Nat, k <= L.length /\ i = .int .i64 k /\ (∀ j (h : j < L.length), j < k -> linkBad ls L[j] = false) /\ Below w3.heap.size w3 wr) (fun i _ => L.length - (intOf i).toNat)
    case atStart => exact ⟨0, Nat.zero_le _, rfl, fun j _ h => absurd h (Nat.not_lt_zero _), Below.refl _ _⟩
    case round =>
     obtain ⟨m, hm, rfl, hgood, hbe⟩ := hrel
     have hLn := HLN.out
     have HBE := Lib.hid hbe
     by_cases hltm : m < L.length
     ·obtain ⟨b6, o6, u0, u1, u2, rfl, hb6, k0, k1, k2, rfl, rfl, rfl⟩ := (RdRow.get (Q := QLink) (HO5.out.rd.below hbe (Nat.le_refl _)) hltm)
      obtain ⟨l, hle⟩ : ∃ l, l = L[m] := ⟨_, rfl⟩
      have HI := Lib.hid (show 0 <= l.1 /\ l.1 < p.1.length /\ 0 <= l.2.1 /\ l.2.1 < p.1.length by rw [hle]; exact HIN.out _ (List.getElem_mem hltm))
      have HLE := Lib.hid hle
      rw [<- hle] at k0 k1 k2
      obtain ⟨f, hf⟩ : ∃ f : Nat, l.1 = (f : Int) := ⟨l.1.toNat, by have := HI.out; omega⟩
      obtain ⟨q, hq⟩ : ∃ q : Nat, l.2.1 = (q : Int) := ⟨l.2.1.toNat, by have := HI.out; omega⟩
      obtain ⟨no, hno⟩ : ∃ no, no = l.2.2 := ⟨_, rfl⟩
      have hfl : f < ls.length := by have := HI.out; have := HLL.out; omega
      have hql : q < ls.length := by have := HI.out; have := HLL.out; omega
      rw [hf] at k0
      rw [hq] at k1
      rw [<- hno] at k2
      obtain ⟨A7, c7, e7, _, hx⟩ := H2.out.on (bthen HB3.out hbe)
      injection e7 with e7 e9 e8
      clear e9
      subst e7 e8
      obtain ⟨b7, o7, rfl, hb7, hx⟩ := hx (by omega)
      have hx0 := hx f hfl
      have hx1 := hx q hql
      have HLB := Lib.hid (show linkBad ls l = (decide (ls[f] < ls[q]) || (decide (ls[q] = ls[f]) && no)) by
       unfold linkBad
       rw [hf, hq, Int.toNat_natCast, Int.toNat_natCast, getD_at hfl, getD_at hql, hno])
      obtain ⟨x, hxe⟩ : ∃ x, x = ls[f] := ⟨_, rfl⟩
      obtain ⟨y, hye⟩ : ∃ y, y = ls[q] := ⟨_, rfl⟩
      rw [<- hxe] at hx0
      rw [<- hye] at hx1
      rw [<- hxe, <- hye] at HLB
      have HGOOD := Lib.hid hgood
      clear hx hf hq hno hxe hye hgood
      go_upto_region 12 with fail
      obtain ⟨wl, hwl⟩ : ∃ wl, wl = wr.alloc (Obj.cells #[Value.int .i64 f, Value.int .i64 q, Value.bool no] 173) := ⟨_, rfl⟩
      have bl : Below wr.heap.size wr wl := by rw [hwl]; exact below1 _ _
      have Y : Blk wl wr.heap.size 173 #[.int .i64 f, .int .i64 q, .bool no] := by rw [hwl]; exact Blk.new _ _ _
      rw [<- hwl]
      clear hwl k0 k1 k2
      have z0 : wl.cell? ⟨wr.heap.size, 0, none⟩ = some (.int .i64 f) := Y.cell 0
      have z1 : wl.cell? ⟨wr.heap.size, 1, none⟩ = some (.int .i64 q) := Y.cell 1
      have z2 : wl.cell? ⟨wr.heap.size, 2, none⟩ = some (.bool no) := Y.cell 2
      have z3 : wl.cell? ⟨b7, o7 + f, none⟩ = some (.int .i64 x) := (bl.cell (World.block_lt_of_cell? _ _ hx0)).trans hx0
      have z4 : wl.cell? ⟨b7, o7 + q, none⟩ = some (.int .i64 y) := (bl.cell (World.block_lt_of_cell? _ _ hx1)).trans hx1
      have d0 : wl.drew.cell? ⟨wr.heap.size, 0, none⟩ = some (.int .i64 f) := z0
      have d1 : wl.drew.cell? ⟨wr.heap.size, 1, none⟩ = some (.int .i64 q) := z1
      have d2 : wl.drew.cell? ⟨wr.heap.size, 2, none⟩ = some (.bool no) := z2
      have d3 : wl.drew.cell? ⟨b7, o7 + f, none⟩ = some (.int .i64 x) := z3
      have d4 : wl.drew.cell? ⟨b7, o7 + q, none⟩ = some (.int .i64 y) := z4
      have HBW := Lib.hid (show Below w3.heap.size w3 wl.drew from (bthen hbe bl).drew)
      clear hx0 hx1 bl Y hbe hle
      go_big_region
      by_cases xy : x < y
      ·have c2 : decide (x < y) = true := by simp [xy]
       have HE := Lib.hid (show R = false by
        rw [HR3.out]
        have : L.any (linkBad ls) = true := List.any_eq_true.2 ⟨L[m], List.getElem_mem hltm, by rw [<- HLE.out, HLB.out]; simp [xy]⟩
        rw [this]
        rfl)
       go_wp2_with fail
       go_ret
       exact ⟨ret_bool HE.out.symm, bthen HB3.out HBW.out⟩
      ·have c2 : decide (x < y) = false := by simp [xy]
       by_cases ye : y = x
       ·have c4 : (y == x) = true := by simp [ye]
        cases no
        ·have HE := Lib.hid (show linkBad ls L[m] = false by rw [<- HLE.out, HLB.out]; simp [xy])
         go_wp2_with fail
         go_roundw
         case rel => exact ⟨m + 1, by omega, by go_num, fun j h1 h2 => by
          by_cases e : j = m
          ·subst e; exact HE.out
          ·exact HGOOD.out j h1 (by omega), HBW.out⟩
         case measure => simp [intOf]; omega
        ·have HE := Lib.hid (show R = false by
          rw [HR3.out]
          have : L.any (linkBad ls) = true := List.any_eq_true.2 ⟨L[m], List.getElem_mem hltm, by rw [<- HLE.out, HLB.out]; simp [ye]⟩
          rw [this]
          rfl)
         go_wp2_with fail
         go_ret
         exact ⟨ret_bool HE.out.symm, bthen HB3.out HBW.out⟩
       ·have c4 : (y == x) = false := by simp [ye]
        have HE := Lib.hid (show linkBad ls L[m] = false by rw [<- HLE.out, HLB.out]; simp [xy, ye])
        go_wp2_with fail
        go_roundw
        case rel => exact ⟨m + 1, by omega, by go_num, fun j h1 h2 => by
         by_cases e : j = m
         ·subst e; exact HE.out
         ·exact HGOOD.out j h1 (by omega), HBW.out⟩
        case measure => simp [intOf]; omega
     ·have HE := Lib.hid (show R = true by
       rw [HR3.out]
       have : L.any (linkBad ls) = false := by
        rw [List.any_eq_false]
        intro l hl
        obtain ⟨j, hj, rfl⟩ := List.getElem_of_mem hl
        rw [hgood j hj (by omega)]
        decide
       rw [this]
       rfl)
      clear hgood hbe
      go_wp2_with fail
      go_ret
      exact ⟨ret_bool HE.out.symm, bthen HB3.out HBE.out⟩
 ·have hne : ((ls.length : Int) != (p.1.length : Int)) = true := by simp; omega
  have HE := Lib.hid (show R = false by rw [HRR.out, decide_eq_false hll]; rfl)
  clear hll
  go_wp2_with (go_at_call 122; refine CP.out.mono ?_; rintro e w2 ⟨rfl, b2⟩; have B2 := Lib.hid (bthen B1 b2)
               have HX2 := Lib.hid (HX1.out.below b2 HX1.out.lt)
               have x20 : w2.cell? ⟨w.heap.size, 0, none⟩ = some (.slice A p.1.length c) := HX2.out.cell 0
               clear b2)
  go_ret
  exact ⟨ret_bool HE.out.symm, B2.out⟩
open Go.RowKit
theorem byR_chain {p : LProg} {db : List LFact} {ls : List Int} (h : layersFit p ls = true) (h2 : factsOk p.1 db = true) : Asc (byR p db ls) /\ ∀ L0 L E, FitL p.1 L0 -> (∀ f, f ∈ L0 <-> f ∈ db) -> Chain p.1 ((layD ls).map (rulesAt p.2 ls)) L0 [L0.length] L E -> ∀ f, f ∈ L <-> f ∈ byR p db ls := by
 obtain ⟨hp, _, _⟩ := fit_parts h
 obtain ⟨har, _, hr⟩ := prog_parts hp
 rw [byR_fold h h2]
 refine ⟨foldM_asc _ _ (setOf_asc _) _, fun L0 L E h0 hm hc => (chain_fold har hr hc h0 (layD ls) (setOf db) rfl fun f => (hm f).trans (setOf_mem db f).symm).2⟩
theorem foldM_fit {ar : List Int} {rs : List LRule} {ls : List Int} (h : ∀ r ∈ rs, ruleFits ar r = true) : ∀ (D : List Int) {F : List LFact}, FitL ar F -> FitL ar (foldM rs ls D F)
 | [], _, hF => hF
 | d :: D, F, hF => foldM_fit h D (F := leastFrom (rulesAt rs ls d) (setOf F)) (iterL_fit (rulesAt_fit h) (FitL.set hF.fits) _)
theorem byR_few (p : LProg) (db : List LFact) (ls : List Int) : (byR p db ls).length <= 1536 /\ tot (byR p db ls) <= 3072 := by
 cases hf : layersFit p ls
 ·rw [(byR_fit hf).1]; simp [tot]
 ·cases hk : factsOk p.1 db
  ·rw [(byR_facts hk).1]; simp [tot]
  ·obtain ⟨har, _, hr⟩ := prog_parts (fit_parts hf).1
   rw [byR_fold hf hk]
   have h1 := foldM_fit (ls := ls) hr (layD ls) (FitL.set (factsOk_parts hk).2.1)
   exact iter_few (rs := []) har (fun r hr => absurd hr (by simp)) h1 0
set_option maxHeartbeats 4000000 in
set_option maxRecDepth 100000 in
theorem implModelBy_any (v v1 v2 : Value) (p : LProg) (db : List LFact) (ls : List Int) (R : List LFact) (hR : R = byR p db ls) (okR : Bool) (hok : okR = byK p db ls) (w : World) (h : RdProg w w.heap.size v p) (h1 : RdFacts w w.heap.size v1 db) (h2 : RdInts w w.heap.size v2 ls)
 (hs : szP p <= 1048576) (hn : db.length <= 1048576) (ht : tot db <= 1048576) (hll : ls.length <= 1048576) (hT : Tab w) :
 Calls Tryz.prog 27 #[v, v1, v2] w fun e w' => ∃ A c, e = .returned (.tuple #[.slice A R.length c, .bool okR]) /\ OwnFacts w' w.heap.size w'.heap.size (.slice A R.length c) R /\ Below w.heap.size w w' := by
 have HT := Lib.hid hT
 have HP := Lib.hid h
 have H1 := Lib.hid h1
 have H2 := Lib.hid h2
 have HR := Lib.hid (And.intro hR hok)
 have hs' := hs
 unfold szP at hs'
 obtain ⟨a, b, rfl, hA, hB⟩ := h
 have HBR := Lib.hid hB
 obtain ⟨A, c, rfl, hcA, _⟩ := hA
 obtain ⟨Ab, cb, rfl, hcB, _⟩ := hB
 obtain ⟨A1, c1, rfl, _, _⟩ := h1
 obtain ⟨A2, c2, rfl, _, _⟩ := h2
 clear hR hok hT
 obtain ⟨fb, hfb⟩ : ∃ fb, fb = layersFit p ls := ⟨_, rfl⟩
 go_enter Tryz.func27, Tryz.ntmps27
 go_upto_region 1 with fail
 obtain ⟨w1, hw1⟩ : ∃ w1, w1 = w.alloc (Obj.cells #[Value.slice A p.1.length c, Value.slice Ab p.2.length cb] 34) := ⟨_, rfl⟩
 have X1 : Blk w1 w.heap.size 34 #[.slice A p.1.length c, .slice Ab p.2.length cb] := by rw [hw1]; exact Blk.new _ _ _
 have B1 : Below w.heap.size w w1 := by rw [hw1]; exact below1 _ _
 rw [<- hw1]
 clear hw1
 have x0 : w1.cell? ⟨w.heap.size, 0, none⟩ = some (.slice A p.1.length c) := X1.cell 0
 have x1 : w1.cell? ⟨w.heap.size, 1, none⟩ = some (.slice Ab p.2.length cb) := X1.cell 1
 have LF := implLayersFit_any (.agg #[.slice A p.1.length c, .slice Ab p.2.length cb]) (.slice A2 ls.length c2) p ls w1 (HP.out.on B1) (H2.out.on B1) hs hll (HT.out.below B1)
 rw [<- hfb] at LF
 have HFB := Lib.hid hfb
 clear hfb
 go_wp2_with fail
 refine LF.mono ?_
 rintro e w3 ⟨rfl, b2⟩
 have B3 := bthen B1 b2
 have X3 := X1.below b2 X1.lt
 clear x0 x1 LF
 have x0 : w3.cell? ⟨w.heap.size, 0, none⟩ = some (.slice A p.1.length c) := X3.cell 0
 have x1 : w3.cell? ⟨w.heap.size, 1, none⟩ = some (.slice Ab p.2.length cb) := X3.cell 1
 cases fb
 ·have HE := Lib.hid (byR_fit (p := p) (db := db) (ls := ls) HFB.out.symm)
  go_wp2_with fail
  refine bodyPost_ret (v := .tuple #[.slice none 0 0, .bool false]) (by simp [results, Tryz.results27, go_sem]) rfl ?_
  rw [HR.out.1, HR.out.2, HE.out.1, HE.out.2]
  exact ⟨none, 0, rfl, ownFacts_nil _ _ _, B3⟩
 have hfp := fit_parts HFB.out.symm
 have hpp := prog_parts hfp.1
 have HBL := Lib.hid (fun W (hW : Below w3.heap.size w3 W) => rulesByLayer_any (.slice Ab p.2.length cb) (.slice A2 ls.length c2) p.2 ls W (HBR.out.on (bthen B3 hW)) (H2.out.on (bthen B3 hW)) (fun r hr => by have := rule_pred (hpp.2.2 r hr); rw [hfp.2.1]; exact this) (by omega) hll)
 have HOK := Lib.hid (show okR = factsOk p.1 db by
  rw [HR.out.2]
  unfold byK
  rw [<- HFB.out, Bool.true_and])
 have HFI := Lib.hid (show ∀ G ∈ (layD ls).map (rulesAt p.2 ls), (∀ r ∈ G, ruleFits p.1 r = true) /\ totR G <= 1048576 /\ G.length <= 1048576 from fun G hG => by
  obtain ⟨d, _, rfl⟩ := List.mem_map.1 hG
  exact ⟨rulesAt_fit hpp.2.2, Nat.le_trans (rulesAt_tot _ _ _) (by omega), Nat.le_trans (rulesAt_all _ _ _) (by omega)⟩)
 have HRR := Lib.hid (show (okR = true -> Asc R /\ ∀ L0 L E, FitL p.1 L0 -> (∀ f, f ∈ L0 <-> f ∈ db) -> Chain p.1 ((layD ls).map (rulesAt p.2 ls)) L0 [L0.length] L E -> ∀ f, f ∈ L <-> f ∈ R) /\ (okR = false -> R = []) from
  ⟨fun h => by rw [HR.out.1]; exact byR_chain HFB.out.symm (by rw [<- HOK.out]; exact h), fun h => by rw [HR.out.1]; exact (byR_facts (by rw [<- HOK.out]; exact h)).1⟩)
 have hgl : ((layD ls).map (rulesAt p.2 ls)).length <= 1048576 := by rw [List.length_map]; exact Nat.le_trans (layD_len ls) hll
 have hglD : ((layD ls).map (rulesAt p.2 ls)).length = (layD ls).length := List.length_map ..
 obtain ⟨Gs, hGs⟩ : ∃ Gs, Gs = (layD ls).map (rulesAt p.2 ls) := ⟨_, rfl⟩
 have HGS := Lib.hid hGs
 rw [<- hGs] at HFI HRR hgl hglD
 have HGL := Lib.hid hglD
 clear hfp hpp hGs hglD
 go_upto_region 3 with fail
 obtain ⟨SS, hSS⟩ : ∃ SS : World -> Prop, SS = (fun W => W.cell? ⟨w.heap.size, 0, none⟩ = some (.slice A p.1.length c) /\ W.cell? ⟨w.heap.size, 1, none⟩ = some (.slice Ab p.2.length cb)) := ⟨_, rfl⟩
 have HSS := Lib.hid (show ∀ W, Below w3.heap.size w3 W -> SS W from by
  rw [hSS]
  exact fun W hW => ⟨(X3.below hW X3.lt).cell 0, (X3.below hW X3.lt).cell 1⟩)
 have HB := Lib.hid (show ∀ W, SS W -> (W.cell? ⟨w.heap.size, 0, none⟩ = some (.slice A p.1.length c) /\ W.cell? ⟨w.heap.size, 1, none⟩ = some (.slice Ab p.2.length cb)) from by rw [hSS]; exact fun W hW => hW)
 clear hSS x0 x1
 refine wp_region_rel SS 6 11 (by kernel_rfl) rfl ?_
 obtain ⟨wy, hwy⟩ : ∃ wy, wy = w3.drew := ⟨_, rfl⟩
 have HBY := Lib.hid (show Below w3.heap.size w3 wy by rw [hwy]; exact (Below.refl _ _).drew)
 rw [<- hwy]
 clear hwy
 have S0 := Lib.hid (HSS.out _ HBY.out)
 refine wpAnyR_take (i := 0) (oi := _) ?va0 rfl rfl (by kernel_rfl) (fun _ _ _ h => h) rfl ?hya0 S0.out ?resta0
 case hya0 => (intro W hW; obtain ⟨E0, E1⟩ := HB.out W hW; go_simp; (try with_reducible rfl))
 try simp only [List.setIfInBounds_toArray, List.set_cons_zero, List.set_cons_succ]
 refine wpAnyR_pure (i := 1) (oi := _) ?va1 rfl rfl (by kernel_rfl) (by decide) (fun _ _ _ h => h) rfl ?hya1 (fun _ => S0.out) ?resta1
 case hya1 => (intro W; go_simp; (try with_reducible rfl))
 try simp only [List.setIfInBounds_toArray, List.set_cons_zero, List.set_cons_succ]
 refine wpAnyR_pure (i := 2) (oi := _) ?va2 rfl rfl (by kernel_rfl) (by decide) (fun _ _ _ h => h) rfl ?hya2 (fun _ => S0.out) ?resta2
 case hya2 => (intro W; go_simp; (try with_reducible rfl))
 try simp only [List.setIfInBounds_toArray, List.set_cons_zero, List.set_cons_succ]
 refine wpAnyR_take (i := 3) (oi := _) ?va3 rfl rfl (by kernel_rfl) (fun _ _ _ h => h) rfl ?hya3 S0.out ?resta3
 case hya3 => (intro W hW; obtain ⟨E0, E1⟩ := HB.out W hW; go_simp; (try with_reducible rfl))
 try simp only [List.setIfInBounds_toArray, List.set_cons_zero, List.set_cons_succ]
 refine wpAnyR_pure (i := 4) (oi := _) ?va4 rfl rfl (by kernel_rfl) (by decide) (fun _ _ _ h => h) rfl ?hya4 (fun _ => S0.out) ?resta4
 case hya4 => (intro W; go_simp; (try with_reducible rfl))
 try simp only [List.setIfInBounds_toArray, List.set_cons_zero, List.set_cons_succ]
 refine wpAnyR_one (i := 5) (by kernel_rfl) rfl (fun K hK => ?_)
 try rw [if_pos (show Region.wanted _ _ = true from rfl)]
 go_simp
 refine (HBL.out wy HBY.out).mono ?_
 rintro e w4 ⟨g0, uv, rfl, hrow, hrd, hg0, b4⟩
 have HB4 := Lib.hid (bthen HBY.out b4)
 have S1 := Lib.hid (HSS.out _ HB4.out)
 have HROW := Lib.hid (show w4.rowIs g0 32 Gs.length uv by rw [HGL.out]; exact hrow)
 have HRD := Lib.hid (show ∀ j (hj : j < Gs.length), RdRules w4 w4.heap.size (uv j) Gs[j] from fun j hj => by
  have e9 := HGS.out
  subst e9
  rw [List.getElem_map]
  exact hrd j (by rw [List.length_map] at hj; exact hj))
 rw [<- HGL.out]
 clear hrow hrd b4
 refine hK.out _ _ (fun _ => S1.out) ?_
 clear hK K
 try simp only [List.setIfInBounds_toArray, List.set_cons_zero, List.set_cons_succ, Act.put]
 refine wpAnyR_one (i := 6) (by kernel_rfl) rfl (fun K hK => ?_)
 try rw [if_pos (show Region.wanted _ _ = true from rfl)]
 go_simp
 refine (factsBy_any (.agg #[.slice A p.1.length c, .slice Ab p.2.length cb]) (.slice A1 db.length c1) p db Gs g0 Gs.length uv w4 (HP.out.on (bthen B3 HB4.out)) (H1.out.on (bthen B3 HB4.out)) HROW.out HRD.out HFI.out (by omega) hn ht hgl (HT.out.below (bthen B3 HB4.out)) R okR HOK.out HRR.out.1 HRR.out.2).mono ?_
 rintro e w5 ⟨A5, c5, rfl, o5, b5⟩
 have HO5 := Lib.hid o5
 have HB5 := Lib.hid (bthen B3 (bthen HB4.out b5))
 have hsz := (bthen B3 HB4.out).size
 clear o5 b5
 refine hK.out _ _ (fun hf => absurd hf (by decide)) ?_
 clear hK K
 try simp only [List.setIfInBounds_toArray, List.set_cons_zero, List.set_cons_succ, Act.put]
 refine wpAnyR_pure (i := 7) (oi := _) ?vz7 rfl rfl (by kernel_rfl) (by decide) (fun _ _ _ h => h) rfl ?hyz7 (fun hf => absurd hf (by decide)) ?restz7
 case hyz7 => (intro W; go_simp; (try with_reducible rfl))
 try simp only [List.setIfInBounds_toArray, List.set_cons_zero, List.set_cons_succ]
 refine wpAnyR_pure (i := 8) (oi := _) ?vz8 rfl rfl (by kernel_rfl) (by decide) (fun _ _ _ h => h) rfl ?hyz8 (fun hf => absurd hf (by decide)) ?restz8
 case hyz8 => (intro W; go_simp; (try with_reducible rfl))
 try simp only [List.setIfInBounds_toArray, List.set_cons_zero, List.set_cons_succ]
 refine wpAnyR_one (i := 9) (by kernel_rfl) rfl (fun K hK => ?_)
 go_simp
 refine hK.out _ _ (fun hf => absurd hf (by decide)) ?_
 clear hK K
 try simp only [List.setIfInBounds_toArray, List.set_cons_zero, List.set_cons_succ, Act.put]
 refine wpAnyR_one (i := 10) (by kernel_rfl) rfl (fun K hK => ?_)
 go_simp
 refine hK.out _ _ (fun hf => absurd hf (by decide)) ?_
 clear hK K
 refine wpAnyR_done (by kernel_rfl) ?_
 go_wp2_with fail
 refine bodyPost_ret (v := .tuple #[.slice A5 R.length c5, .bool okR]) (by simp [results, Tryz.results27, go_sem]) rfl ?_
 exact ⟨A5, c5, rfl, HO5.out.mono hsz (Nat.le_refl _), HB5.out⟩
open Go.RowKit
def HdInts (w : World) (lo hi : Nat) (v : Value) (xs : List Int) (k z : Int) : Prop := OwnInts w lo hi v (seqI k xs.length) /\ z = k + xs.length /\ 0 <= k /\ k <= 4294967296 /\ xs.length <= 1073741824
theorem HdInts.below {w w' : World} {lo hi B : Nat} {v : Value} {xs : List Int} {k z : Int} (h : HdInts w lo hi v xs k z) (hb : Below B w w') (hB : hi <= B) : HdInts w' lo hi v xs k z := ⟨h.1.below hb hB, h.2⟩
theorem HdInts.only {w w' : World} {lo hi lo' hi' : Nat} {v : Value} {xs : List Int} {k z : Int} (h : HdInts w lo hi v xs k z) (ho : Only lo' hi' w w') (hd : hi <= lo' \/ hi' <= lo) : HdInts w' lo hi v xs k z := ⟨h.1.only ho hd, h.2⟩
theorem um_ints {v : Value} {xs : List Int} {lo hi : Nat} {w : World} (k : Int) (h : OwnInts w lo hi v xs) (hk0 : 0 <= k) (hk : k <= 4294967296) (hs : xs.length <= 1073741824) :
 Calls Tryz.prog 29 #[v, .int .i64 k] w fun e w' => ∃ z, e = .returned (.int .i64 z) /\ k <= z /\ z <= k + xs.length /\ HdInts w' lo hi v xs k z /\ Only lo hi w w' :=
 (markIntS_any v xs k lo hi w h hk0 (by omega)).mono fun _ _ ⟨he, ho, hg⟩ =>
   ⟨_, he, by omega, Int.le_refl _, ⟨ho, rfl, hk0, hk, hs⟩, Only.of_grown hg (fun g hg' => by have := h.lt hg'; omega)⟩
open Go.RowKit
set_option maxHeartbeats 8000000 in
set_option maxRecDepth 100000 in
theorem lawModelBy_any (v0 : Value) (v1 : Value) (v2 : Value) (p : LProg) (fs : List LFact) (ls : List Int) (w : World) (h0 : RdProg w w.heap.size v0 p) (h1 : RdFacts w w.heap.size v1 fs) (h2 : RdInts w w.heap.size v2 ls) (n0 : progLens p) (n1 : fs.length <= maxLen) (m1 : ∀ k (h : k < fs.length), fs[k].2.length <= maxLen) (hT : Tab w) :
 Calls Tryz.prog 5 #[v0, v1, v2] w fun e w' => e = .returned (.bool true) /\ Below w.heap.size w w' := by
 have HT := Lib.hid hT
 clear hT
 have H0 := Lib.hid h0
 obtain ⟨_, _, rfl, ⟨A0, c0, rfl, hc0, _⟩, ⟨A0b, c0b, rfl, hc0b, _⟩⟩ := h0
 have H1 := Lib.hid h1
 obtain ⟨A1, c1, rfl, hc1, _⟩ := h1
 have H2 := Lib.hid h2
 obtain ⟨A2, c2, rfl, hc2, _⟩ := h2
 by_cases g2 : 1048576 < ls.length
 ·go_enter Tryz.func5, Tryz.ntmps5
  go_wp2_with (fail)
  go_ret
  exact ⟨rfl, below1 _ _⟩
 have r2 : ls.length <= 1048576 := by omega
 go_enter Tryz.func5, Tryz.ntmps5
 go_wp2_with (fail)
 obtain ⟨w1, hw_w1⟩ : ∃ W', W' = w.alloc (Obj.cells #[Value.slice A0 p.1.length c0, Value.slice A0b p.2.length c0b] 25) := ⟨_, rfl⟩
 rw [<- hw_w1]
 have B_w1 : Below w.heap.size w w1 := by rw [hw_w1]; exact below1 _ _
 have bx0 : Blk w1 (w.heap.size + 0) 25 #[.slice A0 p.1.length c0, .slice A0b p.2.length c0b] := by
  rw [hw_w1]
  have := (Blk.new w 25 #[.slice A0 p.1.length c0, .slice A0b p.2.length c0b])
  simpa using this
 have bx0_l := bx0.lt
 rw [Nat.add_zero] at bx0 bx0_l
 have s_w1 := B_w1.size
 clear hw_w1
 refine (us_prog (H0.out.on B_w1) (by omega) (by omega) n0).mono ?_
 rintro e w2 ⟨z0, rfl, hz0, hbz0⟩
 have s_w2 := hbz0.size
 have bx0_1 := bx0.below hbz0 (by first | exact bx0.lt | omega)
 clear bx0
 have bx0_1_l := bx0_1.lt
 have B_w2 := bthen B_w1 hbz0
 rcases hz0 with rfl | ⟨zp0, zs0⟩
 ·go_wp2_with (fail)
  go_ret
  exact ⟨rfl, B_w2⟩
 have zn0 : ¬ z0 < 0 := by omega
 have r0 : szP p <= 1048576 := by omega
 have zl0 : z0 <= 1048576 := by omega
 have ZS0 := Lib.hid zs0
 clear zs0
 have q1 : w2.cell? ⟨w.heap.size, 0, none⟩ = some (.slice A0 p.1.length c0) := bx0_1.cell 0
 have q2 : w2.cell? ⟨w.heap.size, 1, none⟩ = some (.slice A0b p.2.length c0b) := bx0_1.cell 1
 go_wp2_with (fail)
 clear q1 q2
 refine (us_facts (H1.out.on B_w2) (by omega) (by omega) n1 m1).mono ?_
 rintro e w3 ⟨z1, rfl, hz1, hbz1⟩
 have s_w3 := hbz1.size
 have bx0_2 := bx0_1.below hbz1 (by first | exact bx0_1.lt | omega)
 clear bx0_1
 have bx0_2_l := bx0_2.lt
 have B_w3 := bthen B_w2 hbz1
 rcases hz1 with rfl | ⟨zp1, zs1⟩
 ·go_wp2_with (fail)
  go_ret
  exact ⟨rfl, B_w3⟩
 have zn1 : ¬ z1 < 0 := by omega
 have r1 : szF fs <= 1048576 := by omega
 have zl1 : z1 <= 1048576 := by omega
 have ZS1 := Lib.hid zs1
 clear zs1 zn1
 have zn1 : ¬ z1 < 0 := by omega
 obtain ⟨R0, hR0⟩ : ∃ R, R = byR p fs ls := ⟨_, rfl⟩
 have HR0 := Lib.hid hR0
 obtain ⟨R1, hR1⟩ : ∃ R, R = byK p fs ls := ⟨_, rfl⟩
 have HR1 := Lib.hid hR1
 have HRs0 := Lib.hid (show szF R0 <= 1048576 by rw [hR0]; have := byR_few p fs ls; unfold szF; omega)
 clear hR0 hR1
 have gb1 : (R1 != R1) = false := by simp
 have q3 : w3.cell? ⟨w.heap.size, 0, none⟩ = some (.slice A0 p.1.length c0) := bx0_2.cell 0
 have q4 : w3.cell? ⟨w.heap.size, 1, none⟩ = some (.slice A0b p.2.length c0b) := bx0_2.cell 1
 go_wp2_with (fail)
 clear q3 q4
 refine (toProgram_own _ p _ (H0.out.on B_w3) (by omega)).mono ?_
 rintro e w4 ⟨P1, d1, P1b, d1b, rfl, o1, hb1⟩
 have s_w4 := hb1.size
 have bx0_3 := bx0_2.below hb1 (by first | exact bx0_2.lt | omega)
 clear bx0_2
 have bx0_3_l := bx0_3.lt
 have B_w4 := bthen B_w3 hb1
 have q5 : w4.cell? ⟨w.heap.size, 0, none⟩ = some (.slice A0 p.1.length c0) := bx0_3.cell 0
 have q6 : w4.cell? ⟨w.heap.size, 1, none⟩ = some (.slice A0b p.2.length c0b) := bx0_3.cell 1
 go_wp2_with (fail)
 clear q5 q6
 refine (toFactS_any _ fs _ (H1.out.on B_w4) (by unfold szF at *; omega) (by unfold szF at *; omega)).mono ?_
 rintro e w5 ⟨P2, d2, rfl, o2, hb2⟩
 have s_w5 := hb2.size
 have bx0_4 := bx0_3.below hb2 (by first | exact bx0_3.lt | omega)
 clear bx0_3
 have bx0_4_l := bx0_4.lt
 have tw0_4 := o1.below hb2 (by omega)
 clear o1
 have B_w5 := bthen B_w4 hb2
 have q7 : w5.cell? ⟨w.heap.size, 0, none⟩ = some (.slice A0 p.1.length c0) := bx0_4.cell 0
 have q8 : w5.cell? ⟨w.heap.size, 1, none⟩ = some (.slice A0b p.2.length c0b) := bx0_4.cell 1
 go_wp2_with (fail)
 clear q7 q8
 refine (toIntS_any _ ls _ (H2.out.on B_w5) (by omega)).mono ?_
 rintro e w6 ⟨P3, d3, rfl, o3, hb3⟩
 have s_w6 := hb3.size
 have bx0_5 := bx0_4.below hb3 (by first | exact bx0_4.lt | omega)
 clear bx0_4
 have bx0_5_l := bx0_5.lt
 have tw0_5 := tw0_4.below hb3 (by omega)
 clear tw0_4
 have tw1_5 := o2.below hb3 (by omega)
 clear o2
 have B_w6 := bthen B_w5 hb3
 have q9 : w6.cell? ⟨w.heap.size, 0, none⟩ = some (.slice A0 p.1.length c0) := bx0_5.cell 0
 have q10 : w6.cell? ⟨w.heap.size, 1, none⟩ = some (.slice A0b p.2.length c0b) := bx0_5.cell 1
 go_wp2_with (fail)
 clear q9 q10
 refine (specModelBy_any _ _ _ p fs ls _ rfl _ rfl _ (tw0_5.rd.more (by omega)) (tw1_5.rd.more (by omega)) (o3.rd.more (by omega)) (by omega) (by unfold szF at r1; omega) (by unfold szF at r1; omega) (by omega)).mono ?_
 rw [<- HR0.out]
 try rw [<- HR1.out]
 rintro e w7 ⟨Q4_0, f4_0, rfl, o4_0, hb4⟩
 have s_w7 := hb4.size
 have bx0_6 := bx0_5.below hb4 (by first | exact bx0_5.lt | omega)
 clear bx0_5
 have bx0_6_l := bx0_6.lt
 have tw0_6 := tw0_5.below hb4 (by omega)
 clear tw0_5
 have tw1_6 := tw1_5.below hb4 (by omega)
 clear tw1_5
 have tw2_6 := o3.below hb4 (by omega)
 clear o3
 have B_w7 := bthen B_w6 hb4
 have q11 : w7.cell? ⟨w.heap.size, 0, none⟩ = some (.slice A0 p.1.length c0) := bx0_6.cell 0
 have q12 : w7.cell? ⟨w.heap.size, 1, none⟩ = some (.slice A0b p.2.length c0b) := bx0_6.cell 1
 go_wp2_with (fail)
 clear q11 q12
 refine (toProgram_own _ p _ (H0.out.on B_w7) (by omega)).mono ?_
 rintro e w8 ⟨P5, d5, P5b, d5b, rfl, o5, hb5⟩
 have s_w8 := hb5.size
 have bx0_7 := bx0_6.below hb5 (by first | exact bx0_6.lt | omega)
 clear bx0_6
 have bx0_7_l := bx0_7.lt
 have w0_7 := o4_0.below hb5 (by omega)
 clear o4_0
 have B_w8 := bthen B_w7 hb5
 have q13 : w8.cell? ⟨w.heap.size, 0, none⟩ = some (.slice A0 p.1.length c0) := bx0_7.cell 0
 have q14 : w8.cell? ⟨w.heap.size, 1, none⟩ = some (.slice A0b p.2.length c0b) := bx0_7.cell 1
 go_wp2_with (fail)
 clear q13 q14
 obtain ⟨w9, hw_w9⟩ : ∃ W', W' = w8.alloc (Obj.cells #[Value.slice P5 p.1.length d5, Value.slice P5b p.2.length d5b] 34) := ⟨_, rfl⟩
 rw [<- hw_w9]
 have hb_w9 : Below w8.heap.size w8 w9 := by rw [hw_w9]; exact below1 _ _
 have bxx0_n : Blk w9 w8.heap.size 34 #[.slice P5 p.1.length d5, .slice P5b p.2.length d5b] := by rw [hw_w9]; exact Blk.new _ _ _
 have bxx0_nl := bxx0_n.lt
 clear hw_w9
 have s_w9 := hb_w9.size
 have bx0_8 := bx0_7.below hb_w9 (by first | exact bx0_7.lt | omega)
 clear bx0_7
 have bx0_8_l := bx0_8.lt
 have w0_8 := w0_7.below hb_w9 (by omega)
 clear w0_7
 have x0_8 := o5.below hb_w9 (by omega)
 clear o5
 have B_w9 := bthen B_w8 hb_w9
 refine (toFactS_any _ fs _ (H1.out.on B_w9) (by unfold szF at *; omega) (by unfold szF at *; omega)).mono ?_
 rintro e w10 ⟨P6, d6, rfl, o6, hb6⟩
 have s_w10 := hb6.size
 have bx0_9 := bx0_8.below hb6 (by first | exact bx0_8.lt | omega)
 clear bx0_8
 have bx0_9_l := bx0_9.lt
 have w0_9 := w0_8.below hb6 (by omega)
 clear w0_8
 have x0_9 := x0_8.below hb6 (by omega)
 clear x0_8
 have bxx0_9 := bxx0_n.below hb6 (by first | exact bxx0_n.lt | omega)
 clear bxx0_n
 have bxx0_9_l := bxx0_9.lt
 have B_w10 := bthen B_w9 hb6
 have q15 : w10.cell? ⟨w.heap.size, 0, none⟩ = some (.slice A0 p.1.length c0) := bx0_9.cell 0
 have q16 : w10.cell? ⟨w.heap.size, 1, none⟩ = some (.slice A0b p.2.length c0b) := bx0_9.cell 1
 have q17 : w10.cell? ⟨w8.heap.size, 0, none⟩ = some (.slice P5 p.1.length d5) := bxx0_9.cell 0
 have q18 : w10.cell? ⟨w8.heap.size, 1, none⟩ = some (.slice P5b p.2.length d5b) := bxx0_9.cell 1
 go_wp2_with (fail)
 clear q15 q16 q17 q18
 refine (toIntS_any _ ls _ (H2.out.on B_w10) (by omega)).mono ?_
 rintro e w11 ⟨P7, d7, rfl, o7, hb7⟩
 have s_w11 := hb7.size
 have bx0_10 := bx0_9.below hb7 (by first | exact bx0_9.lt | omega)
 clear bx0_9
 have bx0_10_l := bx0_10.lt
 have w0_10 := w0_9.below hb7 (by omega)
 clear w0_9
 have x0_10 := x0_9.below hb7 (by omega)
 clear x0_9
 have bxx0_10 := bxx0_9.below hb7 (by first | exact bxx0_9.lt | omega)
 clear bxx0_9
 have bxx0_10_l := bxx0_10.lt
 have x1_10 := o6.below hb7 (by omega)
 clear o6
 have B_w11 := bthen B_w10 hb7
 have q19 : w11.cell? ⟨w.heap.size, 0, none⟩ = some (.slice A0 p.1.length c0) := bx0_10.cell 0
 have q20 : w11.cell? ⟨w.heap.size, 1, none⟩ = some (.slice A0b p.2.length c0b) := bx0_10.cell 1
 have q21 : w11.cell? ⟨w8.heap.size, 0, none⟩ = some (.slice P5 p.1.length d5) := bxx0_10.cell 0
 have q22 : w11.cell? ⟨w8.heap.size, 1, none⟩ = some (.slice P5b p.2.length d5b) := bxx0_10.cell 1
 go_wp2_with (fail)
 clear q19 q20 q21 q22
 refine (implModelBy_any _ _ _ p fs ls _ rfl _ rfl _ (x0_10.rd.more (by omega)) (x1_10.rd.more (by omega)) (o7.rd.more (by omega)) (by omega) (by unfold szF at r1; omega) (by unfold szF at r1; omega) (by omega) (HT.out.below B_w11)).mono ?_
 rw [<- HR0.out]
 try rw [<- HR1.out]
 rintro e w12 ⟨Q8_0, f8_0, rfl, o8_0, hb8⟩
 have s_w12 := hb8.size
 have bx0_11 := bx0_10.below hb8 (by first | exact bx0_10.lt | omega)
 clear bx0_10
 have bx0_11_l := bx0_11.lt
 have w0_11 := w0_10.below hb8 (by omega)
 clear w0_10
 have x0_11 := x0_10.below hb8 (by omega)
 clear x0_10
 have bxx0_11 := bxx0_10.below hb8 (by first | exact bxx0_10.lt | omega)
 clear bxx0_10
 have bxx0_11_l := bxx0_11.lt
 have x1_11 := x1_10.below hb8 (by omega)
 clear x1_10
 have x2_11 := o7.below hb8 (by omega)
 clear o7
 have B_w12 := bthen B_w11 hb8
 have q23 : w12.cell? ⟨w.heap.size, 0, none⟩ = some (.slice A0 p.1.length c0) := bx0_11.cell 0
 have q24 : w12.cell? ⟨w.heap.size, 1, none⟩ = some (.slice A0b p.2.length c0b) := bx0_11.cell 1
 have q25 : w12.cell? ⟨w8.heap.size, 0, none⟩ = some (.slice P5 p.1.length d5) := bxx0_11.cell 0
 have q26 : w12.cell? ⟨w8.heap.size, 1, none⟩ = some (.slice P5b p.2.length d5b) := bxx0_11.cell 1
 go_wp2_with (fail)
 clear q23 q24 q25 q26
 refine (eqFactS_any _ _ R0 R0 _ (o8_0.rd.more (by omega)) (w0_11.rd.more (by omega)) (by have := HRs0.out; unfold szF at this; omega) (by have := HRs0.out; unfold szF at this; omega) (by have := HRs0.out; unfold szF at this; omega) (by have := HRs0.out; unfold szF at this; omega)).mono ?_
 rintro e w13 ⟨rfl, hb9⟩
 rw [show decide (R0 = R0) = true by simp]
 have s_w13 := hb9.size
 have bx0_12 := bx0_11.below hb9 (by first | exact bx0_11.lt | omega)
 clear bx0_11
 have bx0_12_l := bx0_12.lt
 have w0_12 := w0_11.below hb9 (by omega)
 clear w0_11
 have x0_12 := x0_11.below hb9 (by omega)
 clear x0_11
 have bxx0_12 := bxx0_11.below hb9 (by first | exact bxx0_11.lt | omega)
 clear bxx0_11
 have bxx0_12_l := bxx0_12.lt
 have x1_12 := x1_11.below hb9 (by omega)
 clear x1_11
 have x2_12 := x2_11.below hb9 (by omega)
 clear x2_11
 have g0_12 := o8_0.below hb9 (by omega)
 clear o8_0
 have B_w13 := bthen B_w12 hb9
 have q27 : w13.cell? ⟨w.heap.size, 0, none⟩ = some (.slice A0 p.1.length c0) := bx0_12.cell 0
 have q28 : w13.cell? ⟨w.heap.size, 1, none⟩ = some (.slice A0b p.2.length c0b) := bx0_12.cell 1
 have q29 : w13.cell? ⟨w8.heap.size, 0, none⟩ = some (.slice P5 p.1.length d5) := bxx0_12.cell 0
 have q30 : w13.cell? ⟨w8.heap.size, 1, none⟩ = some (.slice P5b p.2.length d5b) := bxx0_12.cell 1
 go_upto_region 17 with fail
 clear q27 q28 q29 q30
 have HS_w13 := Lib.hid (show ∀ W, Below w13.heap.size w13 W -> (Below w13.heap.size w13 W /\ W.cell? ⟨w.heap.size, 0, none⟩ = some (.slice A0 p.1.length c0) /\ W.cell? ⟨w.heap.size, 1, none⟩ = some (.slice A0b p.2.length c0b) /\ W.cell? ⟨w8.heap.size, 0, none⟩ = some (.slice P5 p.1.length d5) /\ W.cell? ⟨w8.heap.size, 1, none⟩ = some (.slice P5b p.2.length d5b)) from fun W hW => ⟨hW, (bx0_12.below hW bx0_12_l).cell 0, (bx0_12.below hW bx0_12_l).cell 1, (bxx0_12.below hW bxx0_12_l).cell 0, (bxx0_12.below hW bxx0_12_l).cell 1⟩)
 have RX_w13 := Lib.hid (show RdProg w13 w13.heap.size (.agg #[.slice P5 p.1.length d5, .slice P5b p.2.length d5b]) p from x0_12.rd.more (by omega))
 go_cut [69] (fun s wx => s = .bool false /\ Below w13.heap.size w13 wx)
 case first =>
  go_region_held3 (fun W => Below w13.heap.size w13 W /\ W.cell? ⟨w.heap.size, 0, none⟩ = some (.slice A0 p.1.length c0) /\ W.cell? ⟨w.heap.size, 1, none⟩ = some (.slice A0b p.2.length c0b) /\ W.cell? ⟨w8.heap.size, 0, none⟩ = some (.slice P5 p.1.length d5) /\ W.cell? ⟨w8.heap.size, 1, none⟩ = some (.slice P5b p.2.length d5b))
   (first | exact HS_w13.out _ (Below.refl _ _) | exact HS_w13.out _ (Below.refl _ _).drew | exact HS_w13.out _ (bthen (And.left (by assumption)) (by assumption)))
   (first
     | (go_at_call 15; refine (toProgram_own _ p _ ?_ (by omega)).mono ?_; exact H0.out.on (bthen B_w13 (And.left (by assumption))); rintro e wf ⟨Af, cf, Ag, cg, rfl, hof, hbf⟩)
     | (go_at_call 19; refine (eqProgram_any _ _ p p _ ?_ ?_ (by omega) (by omega)).mono ?_; exact (RX_w13.out.on (And.left (by assumption))); exact hof.rd; rw [show decide (p = p) = true by simp]; rintro e wg ⟨rfl, hbg⟩))
  all_goals (go_wp2_with fail; go_meet; exact ⟨rfl, And.left (by assumption)⟩)
 case rest =>
  obtain ⟨rfl, hb10⟩ := hcut
  clear HS_w13 RX_w13
  generalize wc = w14 at *
  have s_w14 := hb10.size
  have bx0_13 := bx0_12.below hb10 (by first | exact bx0_12.lt | omega)
  clear bx0_12
  have bx0_13_l := bx0_13.lt
  have w0_13 := w0_12.below hb10 (by omega)
  clear w0_12
  have x0_13 := x0_12.below hb10 (by omega)
  clear x0_12
  have bxx0_13 := bxx0_12.below hb10 (by first | exact bxx0_12.lt | omega)
  clear bxx0_12
  have bxx0_13_l := bxx0_13.lt
  have x1_13 := x1_12.below hb10 (by omega)
  clear x1_12
  have x2_13 := x2_12.below hb10 (by omega)
  clear x2_12
  have g0_13 := g0_12.below hb10 (by omega)
  clear g0_12
  have B_w14 := bthen B_w13 hb10
  have q31 : w14.cell? ⟨w.heap.size, 0, none⟩ = some (.slice A0 p.1.length c0) := bx0_13.cell 0
  have q32 : w14.cell? ⟨w.heap.size, 1, none⟩ = some (.slice A0b p.2.length c0b) := bx0_13.cell 1
  have q33 : w14.cell? ⟨w8.heap.size, 0, none⟩ = some (.slice P5 p.1.length d5) := bxx0_13.cell 0
  have q34 : w14.cell? ⟨w8.heap.size, 1, none⟩ = some (.slice P5b p.2.length d5b) := bxx0_13.cell 1
  go_wp2_with (fail)
  clear q31 q32 q33 q34
  refine (toFactS_any _ fs _ (H1.out.on B_w14) (by unfold szF at *; omega) (by unfold szF at *; omega)).mono ?_
  rintro e w15 ⟨P11, d11, rfl, o11, hb11⟩
  have s_w15 := hb11.size
  have bx0_14 := bx0_13.below hb11 (by first | exact bx0_13.lt | omega)
  clear bx0_13
  have bx0_14_l := bx0_14.lt
  have w0_14 := w0_13.below hb11 (by omega)
  clear w0_13
  have x0_14 := x0_13.below hb11 (by omega)
  clear x0_13
  have bxx0_14 := bxx0_13.below hb11 (by first | exact bxx0_13.lt | omega)
  clear bxx0_13
  have bxx0_14_l := bxx0_14.lt
  have x1_14 := x1_13.below hb11 (by omega)
  clear x1_13
  have x2_14 := x2_13.below hb11 (by omega)
  clear x2_13
  have g0_14 := g0_13.below hb11 (by omega)
  clear g0_13
  have B_w15 := bthen B_w14 hb11
  have q35 : w15.cell? ⟨w.heap.size, 0, none⟩ = some (.slice A0 p.1.length c0) := bx0_14.cell 0
  have q36 : w15.cell? ⟨w.heap.size, 1, none⟩ = some (.slice A0b p.2.length c0b) := bx0_14.cell 1
  have q37 : w15.cell? ⟨w8.heap.size, 0, none⟩ = some (.slice P5 p.1.length d5) := bxx0_14.cell 0
  have q38 : w15.cell? ⟨w8.heap.size, 1, none⟩ = some (.slice P5b p.2.length d5b) := bxx0_14.cell 1
  go_wp2_with (fail)
  clear q35 q36 q37 q38
  refine (eqFactS_any _ _ fs fs _ (x1_14.rd.more (by omega)) (o11.rd.more (by omega)) (by unfold szF at *; omega) (by unfold szF at *; omega) (by unfold szF at *; omega) (by unfold szF at *; omega)).mono ?_
  rintro e w16 ⟨rfl, hb12⟩
  rw [show decide (fs = fs) = true by simp]
  have s_w16 := hb12.size
  have bx0_15 := bx0_14.below hb12 (by first | exact bx0_14.lt | omega)
  clear bx0_14
  have bx0_15_l := bx0_15.lt
  have w0_15 := w0_14.below hb12 (by omega)
  clear w0_14
  have x0_15 := x0_14.below hb12 (by omega)
  clear x0_14
  have bxx0_15 := bxx0_14.below hb12 (by first | exact bxx0_14.lt | omega)
  clear bxx0_14
  have bxx0_15_l := bxx0_15.lt
  have x1_15 := x1_14.below hb12 (by omega)
  clear x1_14
  have x2_15 := x2_14.below hb12 (by omega)
  clear x2_14
  have g0_15 := g0_14.below hb12 (by omega)
  clear g0_14
  have B_w16 := bthen B_w15 hb12
  have q39 : w16.cell? ⟨w.heap.size, 0, none⟩ = some (.slice A0 p.1.length c0) := bx0_15.cell 0
  have q40 : w16.cell? ⟨w.heap.size, 1, none⟩ = some (.slice A0b p.2.length c0b) := bx0_15.cell 1
  have q41 : w16.cell? ⟨w8.heap.size, 0, none⟩ = some (.slice P5 p.1.length d5) := bxx0_15.cell 0
  have q42 : w16.cell? ⟨w8.heap.size, 1, none⟩ = some (.slice P5b p.2.length d5b) := bxx0_15.cell 1
  go_wp2_with (fail)
  clear q39 q40 q41 q42
  refine (toIntS_any _ ls _ (H2.out.on B_w16) (by omega)).mono ?_
  rintro e w17 ⟨P13, d13, rfl, o13, hb13⟩
  have s_w17 := hb13.size
  have bx0_16 := bx0_15.below hb13 (by first | exact bx0_15.lt | omega)
  clear bx0_15
  have bx0_16_l := bx0_16.lt
  have w0_16 := w0_15.below hb13 (by omega)
  clear w0_15
  have x0_16 := x0_15.below hb13 (by omega)
  clear x0_15
  have bxx0_16 := bxx0_15.below hb13 (by first | exact bxx0_15.lt | omega)
  clear bxx0_15
  have bxx0_16_l := bxx0_16.lt
  have x1_16 := x1_15.below hb13 (by omega)
  clear x1_15
  have x2_16 := x2_15.below hb13 (by omega)
  clear x2_15
  have g0_16 := g0_15.below hb13 (by omega)
  clear g0_15
  have B_w17 := bthen B_w16 hb13
  have q43 : w17.cell? ⟨w.heap.size, 0, none⟩ = some (.slice A0 p.1.length c0) := bx0_16.cell 0
  have q44 : w17.cell? ⟨w.heap.size, 1, none⟩ = some (.slice A0b p.2.length c0b) := bx0_16.cell 1
  have q45 : w17.cell? ⟨w8.heap.size, 0, none⟩ = some (.slice P5 p.1.length d5) := bxx0_16.cell 0
  have q46 : w17.cell? ⟨w8.heap.size, 1, none⟩ = some (.slice P5b p.2.length d5b) := bxx0_16.cell 1
  go_wp2_with (fail)
  clear q43 q44 q45 q46
  refine (eqIntS_any _ _ ls ls _ (x2_16.rd.more (by omega)) (o13.rd.more (by omega)) (by omega) (by omega)).mono ?_
  rintro e w18 ⟨rfl, hb14⟩
  rw [show decide (ls = ls) = true by simp]
  have s_w18 := hb14.size
  have bx0_17 := bx0_16.below hb14 (by first | exact bx0_16.lt | omega)
  clear bx0_16
  have bx0_17_l := bx0_17.lt
  have w0_17 := w0_16.below hb14 (by omega)
  clear w0_16
  have x0_17 := x0_16.below hb14 (by omega)
  clear x0_16
  have bxx0_17 := bxx0_16.below hb14 (by first | exact bxx0_16.lt | omega)
  clear bxx0_16
  have bxx0_17_l := bxx0_17.lt
  have x1_17 := x1_16.below hb14 (by omega)
  clear x1_16
  have x2_17 := x2_16.below hb14 (by omega)
  clear x2_16
  have g0_17 := g0_16.below hb14 (by omega)
  clear g0_16
  have B_w18 := bthen B_w17 hb14
  have q47 : w18.cell? ⟨w.heap.size, 0, none⟩ = some (.slice A0 p.1.length c0) := bx0_17.cell 0
  have q48 : w18.cell? ⟨w.heap.size, 1, none⟩ = some (.slice A0b p.2.length c0b) := bx0_17.cell 1
  have q49 : w18.cell? ⟨w8.heap.size, 0, none⟩ = some (.slice P5 p.1.length d5) := bxx0_17.cell 0
  have q50 : w18.cell? ⟨w8.heap.size, 1, none⟩ = some (.slice P5b p.2.length d5b) := bxx0_17.cell 1
  go_wp2_with (fail)
  clear q47 q48 q49 q50
  refine (um_prog 1 x0_17 (by omega) (by omega) (by omega)).mono ?_
  rintro e w19 ⟨k15, rfl, ka15, kb15, _, on15⟩
  have s_w19 := on15.size
  have bx0_18 := bx0_17.only on15 (by first | exact .inl (by omega) | exact .inr (by omega) | omega)
  clear bx0_17
  have bx0_18_l := bx0_18.lt
  have w0_18 := w0_17.only on15 (by first | exact .inl (by omega) | exact .inr (by omega) | omega)
  clear w0_17
  have bxx0_18 := bxx0_17.only on15 (by first | exact .inl (by omega) | exact .inr (by omega) | omega)
  clear bxx0_17
  have bxx0_18_l := bxx0_18.lt
  have x1_18 := x1_17.only on15 (by first | exact .inl (by omega) | exact .inr (by omega) | omega)
  clear x1_17
  have x2_18 := x2_17.only on15 (by first | exact .inl (by omega) | exact .inr (by omega) | omega)
  clear x2_17
  have g0_18 := g0_17.only on15 (by first | exact .inl (by omega) | exact .inr (by omega) | omega)
  clear g0_17
  have B_w19 := Only.then_ B_w18 on15 (by omega)
  have q51 : w19.cell? ⟨w.heap.size, 0, none⟩ = some (.slice A0 p.1.length c0) := bx0_18.cell 0
  have q52 : w19.cell? ⟨w.heap.size, 1, none⟩ = some (.slice A0b p.2.length c0b) := bx0_18.cell 1
  have q53 : w19.cell? ⟨w8.heap.size, 0, none⟩ = some (.slice P5 p.1.length d5) := bxx0_18.cell 0
  have q54 : w19.cell? ⟨w8.heap.size, 1, none⟩ = some (.slice P5b p.2.length d5b) := bxx0_18.cell 1
  go_wp2_with (fail)
  clear q51 q52 q53 q54
  refine (um_facts k15 x1_18 (by omega) (by omega) (by omega)).mono ?_
  rintro e w20 ⟨k16, rfl, ka16, kb16, _, on16⟩
  have s_w20 := on16.size
  have bx0_19 := bx0_18.only on16 (by first | exact .inl (by omega) | exact .inr (by omega) | omega)
  clear bx0_18
  have bx0_19_l := bx0_19.lt
  have w0_19 := w0_18.only on16 (by first | exact .inl (by omega) | exact .inr (by omega) | omega)
  clear w0_18
  have bxx0_19 := bxx0_18.only on16 (by first | exact .inl (by omega) | exact .inr (by omega) | omega)
  clear bxx0_18
  have bxx0_19_l := bxx0_19.lt
  have x2_19 := x2_18.only on16 (by first | exact .inl (by omega) | exact .inr (by omega) | omega)
  clear x2_18
  have g0_19 := g0_18.only on16 (by first | exact .inl (by omega) | exact .inr (by omega) | omega)
  clear g0_18
  have B_w20 := Only.then_ B_w19 on16 (by omega)
  have q55 : w20.cell? ⟨w.heap.size, 0, none⟩ = some (.slice A0 p.1.length c0) := bx0_19.cell 0
  have q56 : w20.cell? ⟨w.heap.size, 1, none⟩ = some (.slice A0b p.2.length c0b) := bx0_19.cell 1
  have q57 : w20.cell? ⟨w8.heap.size, 0, none⟩ = some (.slice P5 p.1.length d5) := bxx0_19.cell 0
  have q58 : w20.cell? ⟨w8.heap.size, 1, none⟩ = some (.slice P5b p.2.length d5b) := bxx0_19.cell 1
  go_wp2_with (fail)
  clear q55 q56 q57 q58
  refine (um_ints k16 x2_19 (by omega) (by omega) (by omega)).mono ?_
  rintro e w21 ⟨k17, rfl, ka17, kb17, _, on17⟩
  have s_w21 := on17.size
  have bx0_20 := bx0_19.only on17 (by first | exact .inl (by omega) | exact .inr (by omega) | omega)
  clear bx0_19
  have bx0_20_l := bx0_20.lt
  have w0_20 := w0_19.only on17 (by first | exact .inl (by omega) | exact .inr (by omega) | omega)
  clear w0_19
  have bxx0_20 := bxx0_19.only on17 (by first | exact .inl (by omega) | exact .inr (by omega) | omega)
  clear bxx0_19
  have bxx0_20_l := bxx0_20.lt
  have g0_20 := g0_19.only on17 (by first | exact .inl (by omega) | exact .inr (by omega) | omega)
  clear g0_19
  have B_w21 := Only.then_ B_w20 on17 (by omega)
  have kn : ¬ k17 < 0 := by omega
  have kd : decide (k17 < 0) = false := by simp; omega
  have q59 : w21.cell? ⟨w.heap.size, 0, none⟩ = some (.slice A0 p.1.length c0) := bx0_20.cell 0
  have q60 : w21.cell? ⟨w.heap.size, 1, none⟩ = some (.slice A0b p.2.length c0b) := bx0_20.cell 1
  have q61 : w21.cell? ⟨w8.heap.size, 0, none⟩ = some (.slice P5 p.1.length d5) := bxx0_20.cell 0
  have q62 : w21.cell? ⟨w8.heap.size, 1, none⟩ = some (.slice P5b p.2.length d5b) := bxx0_20.cell 1
  go_wp2_with (fail)
  clear q59 q60 q61 q62
  refine (eqFactS_any _ _ R0 R0 _ (g0_20.rd.more (by omega)) (w0_20.rd.more (by omega)) (by have := HRs0.out; unfold szF at this; omega) (by have := HRs0.out; unfold szF at this; omega) (by have := HRs0.out; unfold szF at this; omega) (by have := HRs0.out; unfold szF at this; omega)).mono ?_
  rintro e w22 ⟨rfl, hb18⟩
  rw [show decide (R0 = R0) = true by simp]
  have s_w22 := hb18.size
  have bx0_21 := bx0_20.below hb18 (by first | exact bx0_20.lt | omega)
  clear bx0_20
  have bx0_21_l := bx0_21.lt
  have w0_21 := w0_20.below hb18 (by omega)
  clear w0_20
  have bxx0_21 := bxx0_20.below hb18 (by first | exact bxx0_20.lt | omega)
  clear bxx0_20
  have bxx0_21_l := bxx0_21.lt
  have g0_21 := g0_20.below hb18 (by omega)
  clear g0_20
  have B_w22 := bthen B_w21 hb18
  have q63 : w22.cell? ⟨w.heap.size, 0, none⟩ = some (.slice A0 p.1.length c0) := bx0_21.cell 0
  have q64 : w22.cell? ⟨w.heap.size, 1, none⟩ = some (.slice A0b p.2.length c0b) := bx0_21.cell 1
  have q65 : w22.cell? ⟨w8.heap.size, 0, none⟩ = some (.slice P5 p.1.length d5) := bxx0_21.cell 0
  have q66 : w22.cell? ⟨w8.heap.size, 1, none⟩ = some (.slice P5b p.2.length d5b) := bxx0_21.cell 1
  go_wp2_with (fail)
  clear q63 q64 q65 q66
  refine (um_facts 1 g0_21 (by omega) (by omega) (by have := HRs0.out; omega)).mono ?_
  rintro e w23 ⟨m19, rfl, ma19, mb19, hd19, on19⟩
  have mb19' := HRs0.out
  have s_w23 := on19.size
  have bx0_22 := bx0_21.only on19 (by first | exact .inl (by omega) | exact .inr (by omega) | omega)
  clear bx0_21
  have bx0_22_l := bx0_22.lt
  have w0_22 := w0_21.only on19 (by first | exact .inl (by omega) | exact .inr (by omega) | omega)
  clear w0_21
  have bxx0_22 := bxx0_21.only on19 (by first | exact .inl (by omega) | exact .inr (by omega) | omega)
  clear bxx0_21
  have bxx0_22_l := bxx0_22.lt
  have B_w23 := Only.then_ B_w22 on19 (by omega)
  have mn : ¬ m19 < 0 := by omega
  have me : (m19 != m19) = false := by simp
  have q67 : w23.cell? ⟨w.heap.size, 0, none⟩ = some (.slice A0 p.1.length c0) := bx0_22.cell 0
  have q68 : w23.cell? ⟨w.heap.size, 1, none⟩ = some (.slice A0b p.2.length c0b) := bx0_22.cell 1
  have q69 : w23.cell? ⟨w8.heap.size, 0, none⟩ = some (.slice P5 p.1.length d5) := bxx0_22.cell 0
  have q70 : w23.cell? ⟨w8.heap.size, 1, none⟩ = some (.slice P5b p.2.length d5b) := bxx0_22.cell 1
  go_wp2_with (fail)
  clear q67 q68 q69 q70
  refine (uh_facts hd19 (by omega)).mono ?_
  rintro e w24 ⟨rfl, hb20⟩
  have s_w24 := hb20.size
  have bx0_23 := bx0_22.below hb20 (by first | exact bx0_22.lt | omega)
  clear bx0_22
  have bx0_23_l := bx0_23.lt
  have w0_23 := w0_22.below hb20 (by omega)
  clear w0_22
  have bxx0_23 := bxx0_22.below hb20 (by first | exact bxx0_22.lt | omega)
  clear bxx0_22
  have bxx0_23_l := bxx0_23.lt
  have d0_23 := hd19.below hb20 (by omega)
  clear hd19
  have B_w24 := bthen B_w23 hb20
  have q71 : w24.cell? ⟨w.heap.size, 0, none⟩ = some (.slice A0 p.1.length c0) := bx0_23.cell 0
  have q72 : w24.cell? ⟨w.heap.size, 1, none⟩ = some (.slice A0b p.2.length c0b) := bx0_23.cell 1
  have q73 : w24.cell? ⟨w8.heap.size, 0, none⟩ = some (.slice P5 p.1.length d5) := bxx0_23.cell 0
  have q74 : w24.cell? ⟨w8.heap.size, 1, none⟩ = some (.slice P5b p.2.length d5b) := bxx0_23.cell 1
  go_wp2_with (fail)
  clear q71 q72 q73 q74
  refine (toProgram_own _ p _ (H0.out.on B_w24) (by omega)).mono ?_
  rintro e w25 ⟨P21, d21, P21b, d21b, rfl, o21, hb21⟩
  have s_w25 := hb21.size
  have bx0_24 := bx0_23.below hb21 (by first | exact bx0_23.lt | omega)
  clear bx0_23
  have bx0_24_l := bx0_24.lt
  have w0_24 := w0_23.below hb21 (by omega)
  clear w0_23
  have bxx0_24 := bxx0_23.below hb21 (by first | exact bxx0_23.lt | omega)
  clear bxx0_23
  have bxx0_24_l := bxx0_24.lt
  have d0_24 := d0_23.below hb21 (by omega)
  clear d0_23
  have B_w25 := bthen B_w24 hb21
  have q75 : w25.cell? ⟨w.heap.size, 0, none⟩ = some (.slice A0 p.1.length c0) := bx0_24.cell 0
  have q76 : w25.cell? ⟨w.heap.size, 1, none⟩ = some (.slice A0b p.2.length c0b) := bx0_24.cell 1
  have q77 : w25.cell? ⟨w8.heap.size, 0, none⟩ = some (.slice P5 p.1.length d5) := bxx0_24.cell 0
  have q78 : w25.cell? ⟨w8.heap.size, 1, none⟩ = some (.slice P5b p.2.length d5b) := bxx0_24.cell 1
  go_wp2_with (fail)
  clear q75 q76 q77 q78
  refine (toFactS_any _ fs _ (H1.out.on B_w25) (by unfold szF at *; omega) (by unfold szF at *; omega)).mono ?_
  rintro e w26 ⟨P22, d22, rfl, o22, hb22⟩
  have s_w26 := hb22.size
  have bx0_25 := bx0_24.below hb22 (by first | exact bx0_24.lt | omega)
  clear bx0_24
  have bx0_25_l := bx0_25.lt
  have w0_25 := w0_24.below hb22 (by omega)
  clear w0_24
  have bxx0_25 := bxx0_24.below hb22 (by first | exact bxx0_24.lt | omega)
  clear bxx0_24
  have bxx0_25_l := bxx0_25.lt
  have d0_25 := d0_24.below hb22 (by omega)
  clear d0_24
  have th0_25 := o21.below hb22 (by omega)
  clear o21
  have B_w26 := bthen B_w25 hb22
  have q79 : w26.cell? ⟨w.heap.size, 0, none⟩ = some (.slice A0 p.1.length c0) := bx0_25.cell 0
  have q80 : w26.cell? ⟨w.heap.size, 1, none⟩ = some (.slice A0b p.2.length c0b) := bx0_25.cell 1
  have q81 : w26.cell? ⟨w8.heap.size, 0, none⟩ = some (.slice P5 p.1.length d5) := bxx0_25.cell 0
  have q82 : w26.cell? ⟨w8.heap.size, 1, none⟩ = some (.slice P5b p.2.length d5b) := bxx0_25.cell 1
  go_wp2_with (fail)
  clear q79 q80 q81 q82
  refine (toIntS_any _ ls _ (H2.out.on B_w26) (by omega)).mono ?_
  rintro e w27 ⟨P23, d23, rfl, o23, hb23⟩
  have s_w27 := hb23.size
  have bx0_26 := bx0_25.below hb23 (by first | exact bx0_25.lt | omega)
  clear bx0_25
  have bx0_26_l := bx0_26.lt
  have w0_26 := w0_25.below hb23 (by omega)
  clear w0_25
  have bxx0_26 := bxx0_25.below hb23 (by first | exact bxx0_25.lt | omega)
  clear bxx0_25
  have bxx0_26_l := bxx0_26.lt
  have d0_26 := d0_25.below hb23 (by omega)
  clear d0_25
  have th0_26 := th0_25.below hb23 (by omega)
  clear th0_25
  have th1_26 := o22.below hb23 (by omega)
  clear o22
  have B_w27 := bthen B_w26 hb23
  have q83 : w27.cell? ⟨w.heap.size, 0, none⟩ = some (.slice A0 p.1.length c0) := bx0_26.cell 0
  have q84 : w27.cell? ⟨w.heap.size, 1, none⟩ = some (.slice A0b p.2.length c0b) := bx0_26.cell 1
  have q85 : w27.cell? ⟨w8.heap.size, 0, none⟩ = some (.slice P5 p.1.length d5) := bxx0_26.cell 0
  have q86 : w27.cell? ⟨w8.heap.size, 1, none⟩ = some (.slice P5b p.2.length d5b) := bxx0_26.cell 1
  go_wp2_with (fail)
  clear q83 q84 q85 q86
  refine (implModelBy_any _ _ _ p fs ls _ rfl _ rfl _ (th0_26.rd.more (by omega)) (th1_26.rd.more (by omega)) (o23.rd.more (by omega)) (by omega) (by unfold szF at r1; omega) (by unfold szF at r1; omega) (by omega) (HT.out.below B_w27)).mono ?_
  rw [<- HR0.out]
  try rw [<- HR1.out]
  rintro e w28 ⟨Q24_0, f24_0, rfl, o24_0, hb24⟩
  have s_w28 := hb24.size
  have bx0_27 := bx0_26.below hb24 (by first | exact bx0_26.lt | omega)
  clear bx0_26
  have bx0_27_l := bx0_27.lt
  have w0_27 := w0_26.below hb24 (by omega)
  clear w0_26
  have bxx0_27 := bxx0_26.below hb24 (by first | exact bxx0_26.lt | omega)
  clear bxx0_26
  have bxx0_27_l := bxx0_27.lt
  have d0_27 := d0_26.below hb24 (by omega)
  clear d0_26
  have th0_27 := th0_26.below hb24 (by omega)
  clear th0_26
  have th1_27 := th1_26.below hb24 (by omega)
  clear th1_26
  have th2_27 := o23.below hb24 (by omega)
  clear o23
  have B_w28 := bthen B_w27 hb24
  have q87 : w28.cell? ⟨w.heap.size, 0, none⟩ = some (.slice A0 p.1.length c0) := bx0_27.cell 0
  have q88 : w28.cell? ⟨w.heap.size, 1, none⟩ = some (.slice A0b p.2.length c0b) := bx0_27.cell 1
  have q89 : w28.cell? ⟨w8.heap.size, 0, none⟩ = some (.slice P5 p.1.length d5) := bxx0_27.cell 0
  have q90 : w28.cell? ⟨w8.heap.size, 1, none⟩ = some (.slice P5b p.2.length d5b) := bxx0_27.cell 1
  go_wp2_with (fail)
  clear q87 q88 q89 q90
  refine (eqFactS_any _ _ R0 R0 _ (o24_0.rd.more (by omega)) (w0_27.rd.more (by omega)) (by have := HRs0.out; unfold szF at this; omega) (by have := HRs0.out; unfold szF at this; omega) (by have := HRs0.out; unfold szF at this; omega) (by have := HRs0.out; unfold szF at this; omega)).mono ?_
  rintro e w29 ⟨rfl, hb25⟩
  rw [show decide (R0 = R0) = true by simp]
  have s_w29 := hb25.size
  have bx0_28 := bx0_27.below hb25 (by first | exact bx0_27.lt | omega)
  clear bx0_27
  have bx0_28_l := bx0_28.lt
  have w0_28 := w0_27.below hb25 (by omega)
  clear w0_27
  have bxx0_28 := bxx0_27.below hb25 (by first | exact bxx0_27.lt | omega)
  clear bxx0_27
  have bxx0_28_l := bxx0_28.lt
  have d0_28 := d0_27.below hb25 (by omega)
  clear d0_27
  have h0_28 := o24_0.below hb25 (by omega)
  clear o24_0
  have B_w29 := bthen B_w28 hb25
  have q91 : w29.cell? ⟨w.heap.size, 0, none⟩ = some (.slice A0 p.1.length c0) := bx0_28.cell 0
  have q92 : w29.cell? ⟨w.heap.size, 1, none⟩ = some (.slice A0b p.2.length c0b) := bx0_28.cell 1
  have q93 : w29.cell? ⟨w8.heap.size, 0, none⟩ = some (.slice P5 p.1.length d5) := bxx0_28.cell 0
  have q94 : w29.cell? ⟨w8.heap.size, 1, none⟩ = some (.slice P5b p.2.length d5b) := bxx0_28.cell 1
  go_wp2_with (fail)
  clear q91 q92 q93 q94
  refine (uh_facts d0_28 (by omega)).mono ?_
  rintro e w30 ⟨rfl, hb26⟩
  have s_w30 := hb26.size
  have bx0_29 := bx0_28.below hb26 (by first | exact bx0_28.lt | omega)
  clear bx0_28
  have bx0_29_l := bx0_29.lt
  have w0_29 := w0_28.below hb26 (by omega)
  clear w0_28
  have bxx0_29 := bxx0_28.below hb26 (by first | exact bxx0_28.lt | omega)
  clear bxx0_28
  have bxx0_29_l := bxx0_29.lt
  have d0_29 := d0_28.below hb26 (by omega)
  clear d0_28
  have h0_29 := h0_28.below hb26 (by omega)
  clear h0_28
  have B_w30 := bthen B_w29 hb26
  have q95 : w30.cell? ⟨w.heap.size, 0, none⟩ = some (.slice A0 p.1.length c0) := bx0_29.cell 0
  have q96 : w30.cell? ⟨w.heap.size, 1, none⟩ = some (.slice A0b p.2.length c0b) := bx0_29.cell 1
  have q97 : w30.cell? ⟨w8.heap.size, 0, none⟩ = some (.slice P5 p.1.length d5) := bxx0_29.cell 0
  have q98 : w30.cell? ⟨w8.heap.size, 1, none⟩ = some (.slice P5b p.2.length d5b) := bxx0_29.cell 1
  go_wp2_with (fail)
  clear q95 q96 q97 q98
  go_ret
  exact ⟨rfl, B_w30⟩
theorem lawModelBy_in (v0 : Value) (v1 : Value) (v2 : Value) (p : LProg) (fs : List LFact) (ls : List Int) (w : World) (h0 : InProg w v0 p) (h1 : InFacts w v1 fs) (h2 : InInts w v2 ls) (hT : Tab w) : Calls Tryz.prog 5 #[v0, v1, v2] w fun e w' => e = .returned (.bool true) /\ Below w.heap.size w w' :=
 lawModelBy_any v0 v1 v2 p fs ls w h0.1 h1.1 h2.1 (progLens_in h0.2) h1.2.1 h1.2.2 hT
open Go.ChangeShapes Go.WideShapes Go.ChangeAt Go.RowKit
set_option maxRecDepth 100000 in
theorem fnExactModelBy_lifted (os : Os) (started : os.Started) (H : Type) (enc : TypeId × Value -> H) :
 ReturnsInHanded {} Tryz.checked os 5 .any (fun w args => (Rows.fnExactModelBySpec.pre enc Tryz.prog Tryz.f5 [] false w args /\ laidMetH Tryz.prog laidTabs w) /\ sizedMet enc Tryz.prog Tryz.f5 (OpenSpec.ofChange Rows.fnExactModelBySpec) false w args) (Rows.fnExactModelBySpec.post enc Tryz.prog Tryz.f5 false true false false) := by
 refine returnsInHanded_of_change_and (C := Tryz.checked) (X := fun w _ => laidMetH Tryz.prog laidTabs w) (fun _ _ _ hh h => h.of_heap hh) Tryz.own started (by kernel_rfl) Tryz.func5
  (ChangeSpec.witness_shaped (enc := enc) (C := Tryz.checked) (os := os) (X := fun w _ => laidMetH Tryz.prog laidTabs w) false (World.laidAll Tryz.prog os laidTabs) #[.agg #[.slice none 0 0, .slice none 0 0], .slice none 0 0, .slice none 0 0] 8 (World.laidAll_os _ _ _)
    (World.shaped_of_ZipB (by kernel_rfl) (by kernel_rfl)) (by kernel_rfl) (by kernel_rfl) (by kernel_rfl)
    (by rw [MakeChecks.laidMetH_plain _ _ _ (by kernel_rfl)]; exact laidMet_laidAll _ (by kernel_rfl) (by kernel_rfl))) ?_
 intro W base args ds gs before hval0 hW _ _ hL _
 have hval : ∀ (j : Nat) t v, Tryz.f5.params[j]? = some t -> args[j]? = some v -> Value.okWide Tryz.prog W .any base t v := hval0
 have hW' := hW
 obtain ⟨p, q, hA0, hV, rfl, hfz, hnd⟩ := hW
 have hA : DataW.TrodAll enc Tryz.prog W 0 (fun _ => true) true Tryz.f5.params.toList args.toList ds p := hA0
 rw [Tryz.params5] at hA hval
 obtain ⟨v0, vs0, d0, ds0, p0, q0, hargs, rfl, rfl, h0, r0⟩ := trodAll_cons hA
 obtain ⟨v1, vs1, d1, ds1, p1, q1, rfl, rfl, rfl, h1, r1⟩ := trodAll_cons r0
 obtain ⟨v2, vs2, d2, ds2, p2, q2, rfl, rfl, rfl, h2, r2⟩ := trodAll_cons r1
 obtain ⟨rfl, rfl, rfl⟩ := trodAll_nil r2
 obtain rfl : args = #[v0, v1, v2] := by cases args; simp_all
 obtain ⟨rfl, rfl⟩ := trodVars_none hV
 have lt0 : ∀ x ∈ p0, x.block < W.heap.size := by obtain ⟨m, hm⟩ := h0; exact DataW.trod_lt m _ _ _ hm
 obtain ⟨x0, w0⟩ := open_inProg (hval 0 25 v0 rfl rfl) h0
 have lt1 : ∀ x ∈ p1, x.block < W.heap.size := by obtain ⟨m, hm⟩ := h1; exact DataW.trod_lt m _ _ _ hm
 obtain ⟨x1, w1⟩ := open_inFacts (hval 1 26 v1 rfl rfl) h1
 have lt2 : ∀ x ∈ p2, x.block < W.heap.size := by obtain ⟨m, hm⟩ := h2; exact DataW.trod_lt m _ _ _ hm
 obtain ⟨x2, w2⟩ := open_inInts (hval 2 22 v2 rfl rfl) h2
 clear hA0 hval0
 refine (lawModelBy_in v0 v1 v2 x0 x1 x2 W w0 w1 w2 (tab_of_laid hL)).mono fun e W' ⟨he, bel⟩ => ?_
 subst he
 exact ⟨_, rfl, _, _, _, [], _, [], hW', trodAll_mk1 (shut_bool Tryz.underlying4 _), (trodAll_cons_mk (Below.trod Tryz.laidOut (by kernel_rfl) (of_decide_eq_true (by kernel_rfl)) h0 bel lt0) (trodAll_cons_mk (Below.trod Tryz.laidOut (by kernel_rfl) (of_decide_eq_true (by kernel_rfl)) h1 bel lt1) (trodAll_cons_mk (Below.trod Tryz.laidOut (by kernel_rfl) (of_decide_eq_true (by kernel_rfl)) h2 bel lt2) trodAll_mk0))), rfl, bel.frame _, fun h => by cases h⟩
open Go.ChangeShapes Go.WideShapes Go.ChangeAt Go.RowKit
theorem fnExactModelBy_holds : Rows.FnExactModelBySaid :=
 OpenClaim.holds_of_wide 5 Tryz.f5 rfl rfl rfl rfl rfl rfl rfl ⟨rfl, rfl, rfl, rfl, rfl⟩ rfl rfl rfl rfl rfl (by kernel_rfl) Tryz.func5 fnExactModelBy_joined
  (of_decide_eq_true (by kernel_rfl)) (by unfold Func.isWrapper; rw [if_neg (of_decide_eq_false (by kernel_rfl))]; exact ⟨rfl, rfl⟩)
  (fun os started H enc _ => fnExactModelBy_lifted os started H enc)
open Go.ChangeShapes Go.WideShapes Go.ChangeAt Go.RowKit
theorem fnExactModelByCard_holds : Rows.FnExactModelByCardSaid :=
 Claim7.holds_tied_plain_at .later [] [.data, .data] true (true, "606ee496eb09e4ae50895afea34e83d844a48e9d13f6b1062c01565ce91676c1") false fnExactModelBy_holds (fun _ h => by cases h) (by kernel_rfl) (fun _ h => by cases h) fnExactModelBy_row_tie rfl ⟨rfl, rfl⟩ jf_main rfl
  (fun f fn hf hfn => by
    obtain rfl : f = 5 := Option.some.inj ((show Tryz.prog.funcNamed "loop.example/wholerules/laws.FnExactModelBy" = some 5 by kernel_rfl).symm.trans hf) |>.symm
    obtain rfl : fn = Tryz.f5 := (Option.some.inj (Tryz.func5.symm.trans hfn)).symm
    exact ⟨jf_looks, fun j t ht => by
     rw [Tryz.params5] at ht
     have hm : t ∈ [25, 26, 22] := by simpa using Array.mem_of_getElem? ht
     have hall : ([25, 26, 22].all fun u => !Tryz.prog.wantsStandIn u) = true := by kernel_rfl
     exact (show Tryz.prog.wantsStandIn t = false by simpa using List.all_eq_true.1 hall t hm)⟩)
  fnExactModelBy_goes
end Go.Proofs.YtmnolnmpglanfaaGreatDoor
