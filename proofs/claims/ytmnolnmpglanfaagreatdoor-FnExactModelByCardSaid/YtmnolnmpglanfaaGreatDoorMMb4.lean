/-
  Texts that the claim's last one imports, laid together: part 4 of 15. No condition of its own.
-/
import Derived.Deep.LoopGhost
import Derived.Sort.LotA
import Derived.Sort.LotB
import Derived.Sort.LotC
import Derived.Sort.LotD3
import Derived.Test.YtmnolnmpglanfaaGreatDoorChecked
import Derived.CellFam
import Derived.WalkKit
import Derived.RegionTactic
import Derived.Deep.Draws
import Derived.Deep.QuietTactic
import Derived.BigCall
import Derived.BigGuard
import Derived.BigQuiet
import Derived.Test.YtmnolnmpglanfaaGreatDoorMMb1
import Derived.Test.YtmnolnmpglanfaaGreatDoorMMb2
import Derived.Test.YtmnolnmpglanfaaGreatDoorMMb3
namespace Go.Proofs.YtmnolnmpglanfaaGreatDoor
open Go.RowKit
theorem zeroI (w : World) (lo hi : Nat) : OwnInts w lo hi (.slice none 0 0) [] := ⟨World.ownsRow_nil _ _ _ _, fun g hg => by cases hg⟩
set_option maxHeartbeats 2000000 in
set_option maxRecDepth 100000 in
theorem specHeadOf_any (v v2 : Value) (a : LFact) (bs : List Int) (w : World) (h : RdFact w w.heap.size v a) (h2 : RdInts w w.heap.size v2 bs) (hr : a.2.length <= 1048576) (hr2 : bs.length <= 1048576) :
 Calls Tryz.prog 143 #[v, v2] w fun e w' => ∃ A' c', e = .returned (.tuple #[.agg #[.int .i64 (headOf a bs).1, .slice A' (headOf a bs).2.length c'], .bool (headOk a bs)]) /\ OwnInts w' w.heap.size w'.heap.size (.slice A' (headOf a bs).2.length c') (headOf a bs).2 /\ Below w.heap.size w w' := by
 obtain ⟨i0, hi0, hz0, hz1, hz2⟩ := info_parts Tryz.infoInt
 obtain ⟨u, rfl, h⟩ := h
 have H := Lib.hid h
 have H2 := Lib.hid h2
 obtain ⟨A, c, rfl, hc, _⟩ := h
 obtain ⟨A2, c2, rfl, hc2, _⟩ := h2
 obtain ⟨F, hF⟩ : ∃ F, F = headOf a bs := ⟨_, rfl⟩
 obtain ⟨ok, hok⟩ : ∃ ok, ok = headOk a bs := ⟨_, rfl⟩
 rw [<- hF, <- hok]
 have HF := Lib.hid hF
 have HK := Lib.hid hok
 clear hF hok
 -- the worlds ahead
 have X0 : ∀ T1 c1 T2 c2, Blk ((w.alloc (Obj.cells c1 T1)).alloc (Obj.cells c2 T2)) w.heap.size T1 c1 := fun T1 c1 T2 c2 => (Blk.new w T1 c1).alloc _
 have X1 : ∀ o T2 c2, Blk ((w.alloc o).alloc (Obj.cells c2 T2)) (w.heap.size + 1) T2 c2 := fun o T2 c2 => by simpa using Blk.new (w.alloc o) T2 c2
 by_cases hb : bindOk bs = true
 ·have L1 := Lib.hid (fun W (hW : Below w.heap.size w W) => l3Bind_is hb (.slice A2 bs.length c2) w.heap.size W (H2.out.below hW (Nat.le_refl _)) hr2)
  by_cases ht : a.2.all termOk = true
  ·have L2 := Lib.hid (fun W (hW : Below w.heap.size w W) => l2Terms_is ht (.slice A a.2.length c) w.heap.size W (H.out.below hW (Nat.le_refl _)) hr)
   have HB4 := Lib.hid (bindOk_len hb)
   have HB := Lib.hid hb
   have HT := Lib.hid ht
   have HTK := Lib.hid (show ∀ k (hk : k < a.2.length), termOk a.2[k] = true /\ -1 <= termVal bs a.2[k] /\ termVal bs a.2[k] <= 5 from fun k hk => by
    have := List.all_eq_true.1 ht _ (List.getElem_mem hk)
    exact ⟨this, termVal_bounds hb this⟩)
   obtain ⟨ys, hys⟩ : ∃ ys, ys = a.2.map (termVal bs) := ⟨_, rfl⟩
   have HY := Lib.hid hys
   have HYL := Lib.hid (show ys.length = a.2.length by rw [hys]; simp)
   have HYK := Lib.hid (show ∀ k (hk : k < a.2.length), ys.take (k + 1) = ys.take k ++ [termVal bs a.2[k]] from fun k hk => by
    rw [take_snoc ys k (by rw [hys]; simpa using hk)]
    simp [hys])
   clear hb ht hys
   go_enter Tryz.func143, Tryz.ntmps143
   go_wp2_with (fail)
   have x0 := X0 53 #[.int .i64 a.1, .slice A a.2.length c] 66 #[.int .i64 0, .slice none 0 0]
   have x1 := X1 (Obj.cells #[.int .i64 a.1, .slice A a.2.length c] 53) 66 #[.int .i64 0, .slice none 0 0]
   obtain ⟨w2, hw2⟩ : ∃ w2, w2 = ((w.alloc (Obj.cells #[Value.int IntKind.i64 a.1, Value.slice A a.2.length c] 53)).alloc (Obj.cells #[Value.int IntKind.i64 0, Value.slice none 0 0] 66)) := ⟨_, rfl⟩
   have B2 : Below w.heap.size w w2 := by rw [hw2]; exact below2 _ _ _
   have hs2 : w.heap.size + 1 < w2.heap.size := by rw [hw2]; simp
   rw [<- hw2] at x0 x1 ⊢
   clear hw2 X0 X1
   have q00 : w2.cell? ⟨w.heap.size, 0, none⟩ = some (.int .i64 a.1) := x0.cell 0
   have q01 : w2.cell? ⟨w.heap.size, 1, none⟩ = some (.slice A a.2.length c) := x0.cell 1
   refine (L1.out _ B2).mono ?_
   rintro e w' ⟨rfl, rfl⟩
   go_wp2_with (fail)
   refine (L2.out _ B2).mono ?_
   rintro e w' ⟨rfl, rfl⟩
   go_wp2_with (fail)
   have x2 : Blk (w2.alloc (Obj.cells #[Value.int IntKind.i64 a.1, Value.slice none 0 0] 66)) w2.heap.size 66 #[.int .i64 a.1, .slice none 0 0] := Blk.new _ _ _
   have R0 : Below w.heap.size w (w2.alloc (Obj.cells #[Value.int IntKind.i64 a.1, Value.slice none 0 0] 66)) /\ Blk (w2.alloc (Obj.cells #[Value.int IntKind.i64 a.1, Value.slice none 0 0] 66)) w.heap.size 53 #[.int .i64 a.1, .slice A a.2.length c] /\ Blk (w2.alloc (Obj.cells #[Value.int IntKind.i64 a.1, Value.slice none 0 0] 66)) (w.heap.size + 1) 66 #[.int .i64 0, .slice none 0 0] := ⟨bthen B2 (below1 _ _), x0.alloc _, x1.alloc _⟩
   clear x0 x1 q00 q01
   go_loopw [7, 8] (fun i _ wr => ∃ (k : Nat) (A' : Option Addr) (c' : Nat), k <= a.2.length /\ i = .int .i64 k /\ (ys.take k).all constOk = true /\ OwnInts wr (w2.heap.size + 1) wr.heap.size (.slice A' (ys.take k).length c') (ys.take k) /\
    Blk wr w2.heap.size 66 #[.int .i64 a.1, .slice A' (ys.take k).length c'] /\ (Below w.heap.size w wr /\ Blk wr w.heap.size 53 #[.int .i64 a.1, .slice A a.2.length c] /\ Blk wr (w.heap.size + 1) 66 #[.int .i64 0, .slice none 0 0])) (fun i _ _ => a.2.length - (intOf i).toNat)
   case atStart => exact ⟨0, none, 0, Nat.zero_le _, rfl, rfl, zeroI _ _ _, x2, R0⟩
   case round =>
    obtain ⟨k, A', c', hk, rfl, hs, ho, y2, hbe, y0, y1⟩ := hrel
    have hln : (ys.take k).length <= k := by simp; omega
    have q00 : wr.cell? ⟨w.heap.size, 0, none⟩ = some (.int .i64 a.1) := y0.cell 0
    have q01 : wr.cell? ⟨w.heap.size, 1, none⟩ = some (.slice A a.2.length c) := y0.cell 1
    by_cases hlt : k < a.2.length
    ·have hre := H.out.below hbe (Nat.le_refl _)
     obtain ⟨A3, c3, e3, _, hx⟩ := hre
     injection e3 with e3 _ e4
     subst e3 e4
     obtain ⟨b, o, rfl, hbB, hx⟩ := hx (by omega)
     have hck : wr.cell? ⟨b, o + k, none⟩ = some (.int .i64 a.2[k]) := hx k hlt
     obtain ⟨htk, htl, hth⟩ := HTK.out k hlt
     have T1 := Lib.hid (l3Term_any (.slice A2 bs.length c2) bs a.2[k] w.heap.size wr (H2.out.below hbe (Nat.le_refl _)) HB4.out htk)
     have HS := Lib.hid (HYK.out k hlt)
     clear hx
     obtain ⟨zs, hzs⟩ : ∃ zs, zs = ys.take k := ⟨_, rfl⟩
     rw [<- hzs] at ho hln y2 hs
     have HZ := Lib.hid hzs
     clear hzs
     obtain ⟨t, htv⟩ : ∃ t, t = termVal bs a.2[k] := ⟨_, rfl⟩
     rw [<- htv] at T1 HS htl hth
     have HTV := Lib.hid htv
     clear htv htk
     have HP := Lib.hid (And.intro ho (And.intro hbe (And.intro y0 (And.intro y1 y2))))
     have c20 : wr.cell? ⟨w2.heap.size, 0, none⟩ = some (.int .i64 a.1) := y2.cell 0
     have c21 : wr.cell? ⟨w2.heap.size, 1, none⟩ = some (.slice A' zs.length c') := y2.cell 1
     have c10 : wr.cell? ⟨w.heap.size + 1, 0, none⟩ = some (.int .i64 0) := y1.cell 0
     have c11 : wr.cell? ⟨w.heap.size + 1, 1, none⟩ = some (.slice none 0 0) := y1.cell 1
     have f10 := y1.frozen 0
     have f11 := y1.frozen 1
     clear ho y0 y1 y2
     by_cases h0 : t < 0
     ·have HN := Lib.hid (show ok = false /\ F = (0, []) by
       have hno : headOk a bs = false := headOk_vals (all_not (k := k) (by simpa using hlt) (by
        have := HTV.out
        simp [constOk]
        omega))
       exact ⟨by rw [HK.out, hno], by rw [HF.out, headOf_no hno]⟩)
      clear hs
      go_wp2_with (go_at_call 175; refine T1.out.mono ?_; rintro e w' ⟨rfl, rfl⟩)
      refine bodyPost_ret (v := .tuple #[.agg #[.int .i64 0, .slice none 0 0], .bool false]) (by simp [results, Tryz.results143, go_sem, c10, c11]) rfl ?_
      rw [HN.out.1, HN.out.2]
      exact ⟨none, 0, rfl, zeroI _ _ _, (hbe.setCell (by simp) _).setCell (by simp) _⟩
     ·have hd0 : decide (t < 0) = false := by simpa using h0
      have HCS := Lib.hid (show (zs ++ [t]).all constOk = true by rw [List.all_append, hs]; simp [constOk]; omega)
      clear hs
      go_wp2_with (first | (go_at_call 175; refine T1.out.mono ?_; rintro e w' ⟨rfl, rfl⟩) | (at_builtin; refine wpList_append_lies _ rfl (.tmp 40) (.tmp 42) 22 rfl (w2.heap.size + 1) 3 i0 (.int .i64 0) 1 8 Tryz.underlying22 hi0 hz0 hz1 hz2 rfl (by decide) (.slice A' zs.length c') zs.length (zs.map (Value.int .i64)) rfl ?c1 ⟨_, 0, none⟩ 1 1 [.int .i64 t] rfl rfl (news1s _ _ _ _ (by simp)) ?c2 (by omega) (by unfold maxLen; omega) (by omega) ?c3 _ rfl ?_))
      case c1 => exact HP.out.1.1.alloc _
      case c2 => intro u hu; simp at hu; subst hu; rfl
      case c3 => have := HP.out.2.2.2.2.lt; simp; omega
      intro g cap w4 hown hg _ _
      have hgr := grown_from_alloc hg
      obtain ⟨ho, hbe', y0, y1, y2⟩ := HP.out
      have z0 := y0.grown hgr (ho.apart (by omega))
      have z1 := y1.grown hgr (ho.apart (by omega))
      have z2 := y2.grown hgr (ho.apart (by omega))
      have hb4 : Below w.heap.size w w4 := hbe'.trans (Below.grown (Below.refl _ _) hgr hbe'.size (fun j hj => by have := ho.lt hj; omega))
      have z2f := z2.frozen 1
      have z2c : w4.cell? ⟨w2.heap.size, 1, none⟩ = some (.slice A' zs.length c') := z2.cell 1
      have z2s := z2.set_ 1 (.slice (some ⟨g, 0, none⟩) (zs.length + 1) cap)
      have hlen : zs.length + 1 = (zs ++ [t]).length := by simp
      have hoo : OwnInts w4 (w2.heap.size + 1) w4.heap.size (.slice (some ⟨g, 0, none⟩) (zs.length + 1) cap) (zs ++ [t]) := by
       refine ⟨?_, fun b hb' => (hown.lt b hb').2⟩
       rw [<- hlen]
       simpa using hown
      have hos := hoo.set (p := ⟨w2.heap.size, 1, none⟩) (.inl (by show w2.heap.size < w2.heap.size + 1; omega)) (.slice (some ⟨g, 0, none⟩) (zs.length + 1) cap)
      have z0s := z0.far (p := ⟨w2.heap.size, 1, none⟩) (by show w.heap.size ≠ w2.heap.size; omega) (.slice (some ⟨g, 0, none⟩) (zs.length + 1) cap)
      have z1s := z1.far (p := ⟨w2.heap.size, 1, none⟩) (by show w.heap.size + 1 ≠ w2.heap.size; omega) (.slice (some ⟨g, 0, none⟩) (zs.length + 1) cap)
      have HQ := Lib.hid (And.intro hos (And.intro z2s (And.intro (hb4.setCell (p := ⟨w2.heap.size, 1, none⟩) (by show w.heap.size <= w2.heap.size; omega) (.slice (some ⟨g, 0, none⟩) (zs.length + 1) cap)) (And.intro z0s z1s))))
      have HSE := Lib.hid (show ys.take (k + 1) = zs ++ [t] by rw [HS.out, HZ.out])
      clear hown hg hgr ho hbe' y0 y1 y2 z0 z1 hb4 z2s hlen hoo hos z0s z1s
      go_wp2_with (fail)
      go_roundw
      case rel =>
       obtain ⟨a1, a2, a3, a4, a5⟩ := HQ.out
       refine ⟨k + 1, some ⟨g, 0, none⟩, cap, by omega, by go_num, by rw [HSE.out]; exact HCS.out, ?_, ?_, a3, a4, a5⟩
       ·rw [HSE.out]
        simpa using a1
       ·rw [HSE.out]
        simpa using a2
      case measure => simp [intOf]; omega
    ·have hkn : k = a.2.length := by omega
     have hall : ys.take k = ys := by rw [hkn, <- HYL.out, List.take_length]
     rw [hall] at hs ho y2
     have HN := Lib.hid (show ok = true /\ F = (a.1, ys) by
      have hyes : headOk a bs = true := headOk_yes HB.out HT.out (by rw [<- HY.out]; exact hs)
      exact ⟨by rw [HK.out, hyes], by rw [HF.out, headOf_yes hyes, HY.out]⟩)
     have c20 : wr.cell? ⟨w2.heap.size, 0, none⟩ = some (.int .i64 a.1) := y2.cell 0
     have c21 : wr.cell? ⟨w2.heap.size, 1, none⟩ = some (.slice A' ys.length c') := y2.cell 1
     have c10 : wr.cell? ⟨w.heap.size + 1, 0, none⟩ = some (.int .i64 0) := y1.cell 0
     have c11 : wr.cell? ⟨w.heap.size + 1, 1, none⟩ = some (.slice none 0 0) := y1.cell 1
     have f10 := y1.frozen 0
     have f11 := y1.frozen 1
     have HP := Lib.hid (And.intro ho hbe)
     clear hs hall hkn ho y0 y1 y2
     go_wp2_with (fail)
     refine bodyPost_ret (v := .tuple #[.agg #[.int .i64 a.1, .slice A' ys.length c'], .bool true]) (by simp [results, Tryz.results143, go_sem, c10, c11]) rfl ?_
     rw [HN.out.1, HN.out.2]
     refine ⟨A', c', rfl, ?_, (HP.out.2.setCell (by simp) _).setCell (by simp) _⟩
     exact ((HP.out.1.set (p := ⟨w.heap.size + 1, 0, none⟩) (.inl (by show w.heap.size + 1 < w2.heap.size + 1; omega)) _).set (p := ⟨w.heap.size + 1, 1, none⟩) (.inl (by show w.heap.size + 1 < w2.heap.size + 1; omega)) _).mono (by omega) (by simp)
  ·have ht' : a.2.all termOk = false := by simpa using ht
   have L2 := Lib.hid (fun W (hW : Below w.heap.size w W) => l2Terms_is ht' (.slice A a.2.length c) w.heap.size W (H.out.below hW (Nat.le_refl _)) hr)
   have HN := Lib.hid (show ok = false /\ F = (0, []) from ⟨by rw [HK.out, headOk_terms ht'], by rw [HF.out, headOf_no (headOk_terms ht')]⟩)
   clear hb ht ht'
   go_enter Tryz.func143, Tryz.ntmps143
   go_wp2_with (fail)
   have x0 := X0 53 #[.int .i64 a.1, .slice A a.2.length c] 66 #[.int .i64 0, .slice none 0 0]
   have x1 := X1 (Obj.cells #[.int .i64 a.1, .slice A a.2.length c] 53) 66 #[.int .i64 0, .slice none 0 0]
   obtain ⟨w2, hw2⟩ : ∃ w2, w2 = ((w.alloc (Obj.cells #[Value.int IntKind.i64 a.1, Value.slice A a.2.length c] 53)).alloc (Obj.cells #[Value.int IntKind.i64 0, Value.slice none 0 0] 66)) := ⟨_, rfl⟩
   have B2 : Below w.heap.size w w2 := by rw [hw2]; exact below2 _ _ _
   rw [<- hw2] at x0 x1 ⊢
   clear hw2 X0 X1
   have q00 : w2.cell? ⟨w.heap.size, 0, none⟩ = some (.int .i64 a.1) := x0.cell 0
   have q01 : w2.cell? ⟨w.heap.size, 1, none⟩ = some (.slice A a.2.length c) := x0.cell 1
   have c10 : w2.cell? ⟨w.heap.size + 1, 0, none⟩ = some (.int .i64 0) := x1.cell 0
   have c11 : w2.cell? ⟨w.heap.size + 1, 1, none⟩ = some (.slice none 0 0) := x1.cell 1
   have f10 := x1.frozen 0
   have f11 := x1.frozen 1
   refine (L1.out _ B2).mono ?_
   rintro e w' ⟨rfl, rfl⟩
   go_wp2_with (go_at_call 125; refine (L2.out _ B2).mono ?_; rintro e w' ⟨rfl, rfl⟩)
   refine bodyPost_ret (v := .tuple #[.agg #[.int .i64 0, .slice none 0 0], .bool false]) (by simp [results, Tryz.results143, go_sem, c10, c11]) rfl ?_
   rw [HN.out.1, HN.out.2]
   exact ⟨none, 0, rfl, zeroI _ _ _, (B2.setCell (by simp) _).setCell (by simp) _⟩
 ·have hb' : bindOk bs = false := by simpa using hb
  have L1 := Lib.hid (fun W (hW : Below w.heap.size w W) => l3Bind_is hb' (.slice A2 bs.length c2) w.heap.size W (H2.out.below hW (Nat.le_refl _)) hr2)
  have HN := Lib.hid (show ok = false /\ F = (0, []) from ⟨by rw [HK.out, headOk_bind hb'], by rw [HF.out, headOf_no (headOk_bind hb')]⟩)
  clear hb hb'
  go_enter Tryz.func143, Tryz.ntmps143
  go_wp2_with (fail)
  have x1 := X1 (Obj.cells #[.int .i64 a.1, .slice A a.2.length c] 53) 66 #[.int .i64 0, .slice none 0 0]
  obtain ⟨w2, hw2⟩ : ∃ w2, w2 = ((w.alloc (Obj.cells #[Value.int IntKind.i64 a.1, Value.slice A a.2.length c] 53)).alloc (Obj.cells #[Value.int IntKind.i64 0, Value.slice none 0 0] 66)) := ⟨_, rfl⟩
  have B2 : Below w.heap.size w w2 := by rw [hw2]; exact below2 _ _ _
  rw [<- hw2] at x1 ⊢
  clear hw2 X0 X1
  have c10 : w2.cell? ⟨w.heap.size + 1, 0, none⟩ = some (.int .i64 0) := x1.cell 0
  have c11 : w2.cell? ⟨w.heap.size + 1, 1, none⟩ = some (.slice none 0 0) := x1.cell 1
  have f10 := x1.frozen 0
  have f11 := x1.frozen 1
  refine (L1.out _ B2).mono ?_
  rintro e w' ⟨rfl, rfl⟩
  go_wp2_with (fail)
  refine bodyPost_ret (v := .tuple #[.agg #[.int .i64 0, .slice none 0 0], .bool false]) (by simp [results, Tryz.results143, go_sem, c10, c11]) rfl ?_
  rw [HN.out.1, HN.out.2]
  exact ⟨none, 0, rfl, zeroI _ _ _, (B2.setCell (by simp) _).setCell (by simp) _⟩
open Go.RowKit
open Go.RowKit
def stepM (bs : List Int) (t c : Int) : Option (List Int) :=
 if termVal bs t = c then some bs else if termVal bs t = -1 then some (bs.set (-1 - t).toNat c) else none
def matchTo (bs xs ys : List Int) : Nat -> Option (List Int)
 | 0 => some bs
 | k + 1 => (matchTo bs xs ys k).bind fun b => stepM b (xs.getD k 0) (ys.getD k 0)
def matchL (a f : LFact) (bs : List Int) : Option (List Int) :=
 if a.1 = f.1 /\ a.2.length = f.2.length then matchTo bs a.2 f.2 a.2.length else none
theorem stepM_ok {bs b : List Int} (h : bindOk bs = true) {t c : Int} (hc : -1 <= c /\ c <= 5) (e : stepM bs t c = some b) : bindOk b = true := by
 unfold stepM at e
 split at e
 ·injection e with e
  rwa [<- e]
 ·split at e
  ·injection e with e
   rw [<- e]
   exact bindOk_set h hc _
  ·cases e
theorem matchTo_step {bs xs ys b : List Int} {k : Nat} (h : matchTo bs xs ys k = some b) (h1 : k < xs.length) (h2 : k < ys.length) : matchTo bs xs ys (k + 1) = stepM b xs[k] ys[k] := by
 show (matchTo bs xs ys k).bind _ = _
 rw [h]
 simp [h1, h2]
theorem matchTo_none {bs xs ys : List Int} {k : Nat} (h : matchTo bs xs ys k = none) : ∀ n, k <= n -> matchTo bs xs ys n = none
 | 0, hn => by
  have : k = 0 := by omega
  subst this
  exact h
 | n + 1, hn => by
  by_cases e : k = n + 1
  ·rw [<- e]; exact h
  ·show (matchTo bs xs ys n).bind _ = none
   rw [matchTo_none h n (by omega)]
   rfl
theorem matchL_eq {a f : LFact} {bs : List Int} (h1 : a.1 = f.1) (h2 : a.2.length = f.2.length) : matchL a f bs = matchTo bs a.2 f.2 a.2.length := if_pos ⟨h1, h2⟩
theorem matchL_pred {a f : LFact} {bs : List Int} (h : a.1 ≠ f.1) : matchL a f bs = none := if_neg fun e => h e.1
theorem matchL_len {a f : LFact} {bs : List Int} (h : a.2.length ≠ f.2.length) : matchL a f bs = none := if_neg fun e => h e.2
theorem matchL_stop {a f : LFact} {bs : List Int} {k : Nat} (h1 : a.1 = f.1) (h2 : a.2.length = f.2.length) (hk : k < a.2.length) (e : matchTo bs a.2 f.2 (k + 1) = none) : matchL a f bs = none := by
 rw [matchL_eq h1 h2]
 exact matchTo_none e _ hk
theorem stepM_same {bs : List Int} {t c : Int} (h : termVal bs t = c) : stepM bs t c = some bs := if_pos h
theorem stepM_new {bs : List Int} {t c : Int} (h : termVal bs t = -1) (hc : c ≠ -1) : stepM bs t c = some (bs.set (-1 - t).toNat c) := by
 unfold stepM
 rw [if_neg (by omega), if_pos h]
theorem stepM_no {bs : List Int} {t c : Int} (h : termVal bs t ≠ c) (h2 : termVal bs t ≠ -1) : stepM bs t c = none := by
 unfold stepM
 rw [if_neg h, if_neg h2]
theorem termVal_free {bs : List Int} {t : Int} (ht : termOk t = true) (h : termVal bs t = -1) : -4 <= t /\ t <= -1 /\ bs.getD (-1 - t).toNat (-1) = -1 := by
 have htb := termOk_at ht
 have h0 : t < 0 := by
  rcases Int.lt_or_le t 0 with h1 | h1
  ·exact h1
  ·rw [termVal_const h1] at h
   omega
 rw [termVal_var h0] at h
 exact ⟨htb.1, by omega, h⟩
open Go.RowKit
theorem OwnInts.at_ {w : World} {lo hi c n : Nat} {A : Option Addr} {xs : List Int} (h : OwnInts w lo hi (.slice A n c) xs) (hn : 0 < xs.length) :
 ∃ g, A = some ⟨g, 0, none⟩ /\ lo <= g /\ g < hi /\ g < w.heap.size /\ (∀ k (hk : k < xs.length), w.cell? ⟨g, k, none⟩ = some (.int .i64 xs[k])) /\ ∀ k, w.frozen? ⟨g, k, none⟩ = false := by
 obtain ⟨g, cap, e, _, _⟩ := h.1.form hn
 injection e with e1 e2 e3
 subst e1
 subst e2
 obtain ⟨l1, l2, l3⟩ := h.lt (g := g) rfl
 obtain ⟨A', c', e, _, hx⟩ := h.rd
 injection e with e1 _ _
 obtain ⟨b, o, e2, _, hx⟩ := hx hn
 rw [<- e1] at e2
 injection e2 with e2
 injection e2 with e2 e3 _
 subst e2
 subst e3
 exact ⟨g, rfl, l1, l2, l3, fun k hk => by simpa using hx k hk, fun k => World.ownsRow.frozenAt h.1 k⟩
theorem OwnInts.atG {w : World} {lo hi c n g : Nat} {xs : List Int} (h : OwnInts w lo hi (.slice (some ⟨g, 0, none⟩) n c) xs) (hn : 0 < xs.length) :
 lo <= g /\ g < hi /\ g < w.heap.size /\ (∀ k (hk : k < xs.length), w.cell? ⟨g, k, none⟩ = some (.int .i64 xs[k])) /\ ∀ k, w.frozen? ⟨g, k, none⟩ = false := by
 obtain ⟨g', e, h'⟩ := h.at_ hn
 injection e with e
 injection e with e _ _
 subst e
 exact h'
set_option maxHeartbeats 1000000 in
set_option maxRecDepth 100000 in
theorem l3Copy_any (v : Value) (xs : List Int) (w : World) (h : RdInts w w.heap.size v xs) (hr : xs.length <= 1048576) :
 Calls Tryz.prog 174 #[v] w fun e w' => ∃ A' c', e = .returned (.slice A' xs.length c') /\ OwnInts w' w.heap.size w'.heap.size (.slice A' xs.length c') xs /\ Below w.heap.size w w' := by
 obtain ⟨i0, hi0, hz0, hz1, hz2⟩ := info_parts Tryz.infoInt
 have H := Lib.hid h
 obtain ⟨A, c, rfl, hc, _⟩ := h
 have C0 := Lib.hid (ColI.empty (Below.refl w.heap.size w))
 go_enter Tryz.func174, Tryz.ntmps174
 go_wp2_with (fail)
 go_loopw [3, 4] (fun o i wr => ∃ (k : Nat) (A' : Option Addr) (c' : Nat), k <= xs.length /\ i = .int .i64 k /\ o = .slice A' (xs.take k).length c' /\ ColI w wr (xs.take k) A' c') (fun _ i _ => xs.length - (intOf i).toNat)
 case atStart => exact ⟨0, _, 0, Nat.zero_le _, rfl, rfl, C0.out⟩
 case round =>
  obtain ⟨k, A', c', hk, rfl, rfl, hr'⟩ := hrel
  have hln : (xs.take k).length <= k := by simp; omega
  by_cases hlt : k < xs.length
  ·have hre := H.out.below hr'.below (Nat.le_refl _)
   obtain ⟨A3, c3, e3, _, hx⟩ := hre
   injection e3 with e3 _ e4
   subst e3 e4
   obtain ⟨b, o, rfl, hbB, hx⟩ := hx (by omega)
   have hck : wr.cell? ⟨b, o + k, none⟩ = some (.int .i64 xs[k]) := hx k hlt
   have HS := Lib.hid (take_snoc xs k hlt)
   have HP := Lib.hid hr'
   clear hx hr'
   obtain ⟨x, hx⟩ : ∃ x, x = xs[k] := ⟨_, rfl⟩
   rw [<- hx] at hck HS
   clear hx
   obtain ⟨zs, hzs⟩ : ∃ zs, zs = xs.take k := ⟨_, rfl⟩
   have HZ := Lib.hid hzs
   rw [<- hzs] at HP hln ⊢
   clear hzs
   go_wp2_with (at_builtin; refine wpList_append_lies _ rfl (.tmp 12) (.tmp 17) 22 rfl w.heap.size 3 i0 (.int .i64 0) 1 8 Tryz.underlying22 hi0 hz0 hz1 hz2 rfl (by decide) (.slice A' zs.length c') zs.length (zs.map (Value.int .i64)) rfl ?c1 ⟨_, 0, none⟩ 1 1 [.int .i64 x] rfl rfl (news1s _ _ _ _ (by simp)) ?c2 (by omega) (by unfold maxLen; omega) (by omega) ?c3 _ rfl ?_)
   case c1 => exact HP.out.own.1.alloc _
   case c2 => first | rfl | (intro u hu; simp at hu; subst hu; rfl)
   case c3 => have := HP.out.below.size; simp; omega
   intro g cap w4 hown hg _ _
   have hcol := HP.out.push (Below.refl _ _) hg hown
   rw [HZ.out, <- HS.out] at hcol
   have hlen : zs.length + 1 = (xs.take (k + 1)).length := by rw [HS.out, HZ.out]; simp
   rw [hlen]
   have HC := Lib.hid hcol
   clear hcol hlen hown hg
   go_wp2_with (fail)
   go_roundw
   case rel => exact ⟨k + 1, _, _, by omega, by go_num, rfl, HC.out⟩
   case measure => simp [intOf]; omega
  ·have hkn : k = xs.length := by omega
   have HZ := Lib.hid (show xs.take k = xs by rw [hkn, List.take_length])
   have HO := Lib.hid hr'
   rw [HZ.out] at HO ⊢
   clear hkn hr'
   go_wp2_with (fail)
   go_ret
   exact ⟨_, _, rfl, HO.out.own, HO.out.below⟩
set_option maxHeartbeats 4000000 in
set_option maxRecDepth 100000 in
theorem l3Match_n (v v2 v3 : Value) (a f : LFact) (bs R : List Int) (ok : Bool) (hR : R = (matchL a f bs).getD []) (hok : ok = (matchL a f bs).isSome) (w : World) (hb : bindOk bs = true) (h : RdFact w w.heap.size v a) (h2 : RdFact w w.heap.size v2 f) (h3 : RdInts w w.heap.size v3 bs)
 (ht : a.2.all termOk = true) (hf : f.2.all constOk = true) (hr : a.2.length <= 1048576) (hr2 : f.2.length <= 1048576) :
 Calls Tryz.prog 126 #[v, v2, v3] w fun e w' => ∃ A' c', e = .returned (.tuple #[.slice A' R.length c', .bool ok]) /\ OwnInts w' w.heap.size w'.heap.size (.slice A' R.length c') R /\ Below w.heap.size w w' := by
 obtain ⟨pa, xs⟩ := a
 obtain ⟨pf, ys⟩ := f
 simp only at ht hf hr hr2
 have HO := Lib.hid (And.intro hR hok)
 clear hR hok
 have H3 := Lib.hid h3
 obtain ⟨A3, c3, rfl, hc3, _⟩ := h3
 obtain ⟨u, rfl, A, c, rfl, hc, hA⟩ := h
 obtain ⟨u, rfl, A2, c2, rfl, hc2, hA2⟩ := h2
 by_cases hp : pa = pf
 ·have hpb : (pa != pf) = false := by simp [hp]
  by_cases hl : xs.length = ys.length
  ·have hl1 : ((xs.length : Int) != (ys.length : Int)) = false := by simp [hl]
   have HL := Lib.hid hl
   have HP := Lib.hid hp
   have HB := Lib.hid hb
   have HB4 := Lib.hid (bindOk_len hb)
   clear hl hp hb
   have x0 := (Blk.new w 53 #[.int .i64 pa, .slice A xs.length c]).alloc (Obj.cells #[.int .i64 pf, .slice A2 ys.length c2] 66)
   have x1 : Blk ((w.alloc (Obj.cells #[.int .i64 pa, .slice A xs.length c] 53)).alloc (Obj.cells #[.int .i64 pf, .slice A2 ys.length c2] 66)) (w.heap.size + 1) 66 #[.int .i64 pf, .slice A2 ys.length c2] := by simpa using Blk.new (w.alloc (Obj.cells #[.int .i64 pa, .slice A xs.length c] 53)) 66 #[.int .i64 pf, .slice A2 ys.length c2]
   go_enter Tryz.func126, Tryz.ntmps126
   go_wp2_with (fail)
   obtain ⟨w2, hw2⟩ : ∃ w2, w2 = ((w.alloc (Obj.cells #[Value.int IntKind.i64 pa, Value.slice A xs.length c] 53)).alloc (Obj.cells #[Value.int IntKind.i64 pf, Value.slice A2 ys.length c2] 66)) := ⟨_, rfl⟩
   have B2 : Below w.heap.size w w2 := by rw [hw2]; exact below2 _ _ _
   rw [<- hw2] at x0 x1 ⊢
   clear hw2
   have l1 := x1.lt
   refine (l3Copy_any _ bs _ (H3.out.on B2) (by have := HB4.out; omega)).mono ?_
   rintro e w3 ⟨A', c', rfl, ho, hb3⟩
   obtain ⟨g, rfl, hg1, hg2, hg3, _, _⟩ := ho.at_ (by have := HB4.out; omega)
   have R0 : OwnInts w3 w2.heap.size w3.heap.size (.slice (some ⟨g, 0, none⟩) bs.length c') bs /\ Below w.heap.size w w3 /\ Blk w3 w.heap.size 53 #[.int .i64 pa, .slice A xs.length c] /\ Blk w3 (w.heap.size + 1) 66 #[.int .i64 pf, .slice A2 ys.length c2] := ⟨ho, bthen B2 hb3, x0.below hb3 x0.lt, x1.below hb3 x1.lt⟩
   rw [HB4.out] at R0 ⊢
   clear ho hb3 x0 x1 hg3 hg2
   go_wp2_with (fail)
   go_loopw [9, 10] (fun i _ wr => ∃ (k : Nat) (cur : List Int), k <= xs.length /\ i = .int .i64 k /\ bindOk cur = true /\ matchTo bs xs ys k = some cur /\ OwnInts wr w2.heap.size wr.heap.size (.slice (some ⟨g, 0, none⟩) 4 c') cur /\ Below w.heap.size w wr /\ Blk wr w.heap.size 53 #[.int .i64 pa, .slice A xs.length c] /\ Blk wr (w.heap.size + 1) 66 #[.int .i64 pf, .slice A2 ys.length c2]) (fun i _ _ => xs.length - (intOf i).toNat)
   case atStart => exact ⟨0, bs, Nat.zero_le _, rfl, HB.out, rfl, R0.1, R0.2.1, R0.2.2.1, R0.2.2.2⟩
   case round =>
    obtain ⟨k, cur, hk, rfl, hcb, hmt, ho, hbe, y0, y1⟩ := hrel
    have q01 : wr.cell? ⟨w.heap.size, 1, none⟩ = some (.slice A xs.length c) := y0.cell 1
    have q11 : wr.cell? ⟨w.heap.size + 1, 1, none⟩ = some (.slice A2 ys.length c2) := y1.cell 1
    have hcl := bindOk_len hcb
    have HP2 := Lib.hid (And.intro ho (And.intro hbe (And.intro y0 y1)))
    by_cases hlt : k < xs.length
    ·have hlt2 : k < ys.length := by have := HL.out; omega
     obtain ⟨b, o, rfl, hbB, hx⟩ := hA (by omega)
     obtain ⟨b2, o2, rfl, hbB2, hx2⟩ := hA2 (by omega)
     have hck : wr.cell? ⟨b, o + k, none⟩ = some (.int .i64 xs[k]) := (hbe.cell (p := ⟨b, o + k, none⟩) hbB).trans (hx k hlt)
     have hck2 : wr.cell? ⟨b2, o2 + k, none⟩ = some (.int .i64 ys[k]) := (hbe.cell (p := ⟨b2, o2 + k, none⟩) hbB2).trans (hx2 k hlt2)
     have htk : termOk xs[k] = true := List.all_eq_true.1 ht _ (List.getElem_mem hlt)
     have hfk : 0 <= ys[k] /\ ys[k] <= 5 := by simpa [constOk] using List.all_eq_true.1 hf _ (List.getElem_mem hlt2)
     have hst := matchTo_step hmt hlt hlt2
     have htb := termOk_at htk
     obtain ⟨hg1', _, hg3, hcc, hcf⟩ := ho.atG (by omega)
     clear hx hx2 hA hA2
     obtain ⟨t, htv⟩ : ∃ t, t = xs[k] := ⟨_, rfl⟩
     obtain ⟨y, hyv⟩ : ∃ y, y = ys[k] := ⟨_, rfl⟩
     rw [<- htv] at htk hck hst htb
     rw [<- hyv] at hfk hck2 hst
     clear htv hyv
     by_cases e2 : termVal cur t = -1
     ·-- the variable gets it
      obtain ⟨q1, q2, q3⟩ := termVal_free htk e2
      obtain ⟨j, hj4, rfl⟩ : ∃ j : Nat, j < 4 /\ t = -1 - (j : Int) := ⟨(-1 - t).toNat, by omega, by omega⟩
      have hjt : (-1 - (-1 - (j : Int))).toNat = j := by omega
      have hje : -1 - (-1 - (j : Int)) = (j : Int) := by omega
      rw [hjt] at q3
      have hjl : j < cur.length := by omega
      have hjI : (j : Int) < 4 := by omega
      have hcj : wr.cell? ⟨g, j, none⟩ = some (.int .i64 (-1)) := by
       have hh := hcc j hjl
       rwa [show cur[j] = -1 by simpa [hjl] using q3] at hh
      have hfj := hcf j
      have hoo := OwnInts.store (A := some ⟨g, 0, none⟩) (c := c') (g := g) (xs := cur) (by rw [hcl]; exact ho) rfl hjl y
      obtain ⟨ws, hws⟩ : ∃ ws, ws = wr.setCell ⟨g, j, none⟩ (.int .i64 y) := ⟨_, rfl⟩
      have z0 := y0.far (p := ⟨g, j, none⟩) (by show w.heap.size ≠ g; omega) (.int .i64 y)
      have z1 := y1.far (p := ⟨g, j, none⟩) (by show w.heap.size + 1 ≠ g; omega) (.int .i64 y)
      have zb : Below w.heap.size w ws := by rw [hws]; exact hbe.setCell (by show w.heap.size <= g; omega) _
      have hsz : ws.heap.size = wr.heap.size := by rw [hws]; simp
      rw [<- hws] at hoo z0 z1
      rw [hcl] at hoo
      have HCS := Lib.hid (show bindOk (cur.set j y) = true from bindOk_set hcb (by omega) _)
      have hsl : (cur.set j y).length = 4 := by rw [List.length_set]; exact hcl
      have HMS := Lib.hid (show matchTo bs xs ys (k + 1) = some (cur.set j y) by rw [hst, stepM_new e2 (by omega), hjt])
      have HTV := Lib.hid (show termVal (cur.set j y) (-1 - (j : Int)) = y by
       rw [termVal_var (by omega), hjt]
       simp [hjl])
      have hck2s : ws.cell? ⟨b2, o2 + k, none⟩ = some (.int .i64 y) := by
       rw [hws, World.cell?_setCell_other _ _ _ _ (by intro e; injection e with e1 _ _; omega)]
       exact hck2
      have q11s : ws.cell? ⟨w.heap.size + 1, 1, none⟩ = some (.slice (some ⟨b2, o2, none⟩) ys.length c2) := z1.cell 1
      have HT := Lib.hid (fun n => quiet_left (l3Term_any (.slice (some ⟨g, 0, none⟩) 4 c') (cur.set j y) (-1 - (j : Int)) ws.heap.size (ws.drewN n) (by
       have := (hoo.rd.more (B' := ws.heap.size) (by omega)).below (bdrewN (Below.refl ws.heap.size ws) n) (Nat.le_refl _)
       exact this) hsl htk))
      have HQ := Lib.hid (And.intro (show OwnInts ws w2.heap.size ws.heap.size (.slice (some ⟨g, 0, none⟩) 4 c') (cur.set j y) by rw [hsz]; exact hoo) (And.intro zb (And.intro z0 z1)))
      have HW := Lib.hid hws
      have HE2 := Lib.hid (And.intro e2 (And.intro q3 (And.intro hst hmt)))
      clear hoo z0 z1 zb hws hst hmt e2 q3 hcc hcf ho y0 y1
      rw [HTV.out] at HT
      go_wp2_with (fail)
      rw [<- HW.out]
      go_quiet ((go_at_call 175; exact HT.out _))
      go_wp2_with (fail)
      go_roundw
      case rel =>
       obtain ⟨a1, a2, a3, a4⟩ := HQ.out
       exact ⟨k + 1, _, by omega, by go_num, HCS.out, HMS.out, a1.below (bdrewN (Below.refl _ _) _) (Nat.le_refl _), bdrewN a2 _, a3.drewN _, a4.drewN _⟩
      case measure => simp [intOf]; omega
     ·have HT := Lib.hid (fun n => quiet_left (l3Term_any (.slice (some ⟨g, 0, none⟩) 4 c') cur t wr.heap.size (wr.drewN n) (by
       have h' : OwnInts wr w2.heap.size wr.heap.size (.slice (some ⟨g, 0, none⟩) cur.length c') cur := by rw [hcl]; exact ho
       have := h'.rd.below (bdrewN (Below.refl wr.heap.size wr) n) (Nat.le_refl _)
       rw [hcl] at this
       exact this) hcl htk))
      -- no store: a constant, or a variable that has one
      have hns : 0 <= t \/ ∃ j : Nat, ∃ hj : j < cur.length, t = -1 - (j : Int) /\ 0 <= cur[j] := by
       rcases Int.lt_or_le t 0 with h0 | h0
       ·right
        have hj : (-1 - t).toNat < cur.length := by omega
        refine ⟨(-1 - t).toNat, hj, by omega, ?_⟩
        rw [termVal_var h0] at e2
        have e3 : cur[(-1 - t).toNat] ≠ -1 := by simpa [hj] using e2
        have := bindOk_at hcb hj
        omega
       ·exact .inl h0
      have HV := Lib.hid (And.intro e2 (And.intro hst hmt))
      clear e2 hst hmt y0 y1
      by_cases e1 : termVal cur t = y
      ·have hd1 : (y != y) = false := by simp
       have HMS := Lib.hid (show matchTo bs xs ys (k + 1) = some cur by rw [HV.out.2.1, stepM_same e1])
       rw [e1] at HT
       clear e1
       rcases hns with h0 | ⟨j, hj, rfl, hj0⟩
       ·have hd0 : decide (t < 0) = false := by simp; omega
        clear ho hcc hcf
        go_wp2_with (fail)
        go_quiet ((go_at_call 175; exact HT.out _))
        go_wp2_with (fail)
        go_roundw
        case rel =>
         obtain ⟨a1, a2, a3, a4⟩ := HP2.out
         exact ⟨k + 1, _, by omega, by go_num, hcb, HMS.out, a1.below (bdrewN (Below.refl _ _) _) (Nat.le_refl _), bdrewN a2 _, a3.drewN _, a4.drewN _⟩
        case measure => simp [intOf]; omega
       ·have hje : -1 - (-1 - (j : Int)) = (j : Int) := by omega
        have hjI : (j : Int) < 4 := by omega
        have hcj : wr.cell? ⟨g, j, none⟩ = some (.int .i64 cur[j]) := hcc j hj
        have hdj : decide (cur[j] < 0) = false := by simp; omega
        clear ho hcc hcf
        go_wp2_with (fail)
        go_quiet ((go_at_call 175; exact HT.out _))
        go_wp2_with (fail)
        go_roundw
        case rel =>
         obtain ⟨a1, a2, a3, a4⟩ := HP2.out
         exact ⟨k + 1, _, by omega, by go_num, hcb, HMS.out, a1.below (bdrewN (Below.refl _ _) _) (Nat.le_refl _), bdrewN a2 _, a3.drewN _, a4.drewN _⟩
        case measure => simp [intOf]; omega
      ·have hd1 : (termVal cur t != y) = true := by simpa using e1
       have HN := Lib.hid (show matchL (pa, xs) (pf, ys) bs = none from matchL_stop HP.out HL.out hlt (by rw [HV.out.2.1, stepM_no e1 HV.out.1]))
       have HZ := Lib.hid (show R = [] /\ ok = false from ⟨by rw [HO.out.1, HN.out]; rfl, by rw [HO.out.2, HN.out]; rfl⟩)
       clear e1
       rcases hns with h0 | ⟨j, hj, rfl, hj0⟩
       ·have hd0 : decide (t < 0) = false := by simp; omega
        clear ho hcc hcf
        go_wp2_with (fail)
        go_quiet ((go_at_call 175; exact HT.out _))
        go_wp2_with (fail)
        go_ret2
        rw [HZ.out.1, HZ.out.2]
        exact ⟨none, 0, rfl, zeroI _ _ _, bdrewN hbe _⟩
       ·have hje : -1 - (-1 - (j : Int)) = (j : Int) := by omega
        have hjI : (j : Int) < 4 := by omega
        have hcj : wr.cell? ⟨g, j, none⟩ = some (.int .i64 cur[j]) := hcc j hj
        have hdj : decide (cur[j] < 0) = false := by simp; omega
        clear ho hcc hcf
        go_wp2_with (fail)
        go_quiet ((go_at_call 175; exact HT.out _))
        go_wp2_with (fail)
        go_ret2
        rw [HZ.out.1, HZ.out.2]
        exact ⟨none, 0, rfl, zeroI _ _ _, bdrewN hbe _⟩
    ·have hkn : k = xs.length := by omega
     have HN := Lib.hid (show matchL (pa, xs) (pf, ys) bs = some cur by rw [matchL_eq HP.out HL.out, <- hmt, hkn])
     have HZ := Lib.hid (show R = cur /\ ok = true from ⟨by rw [HO.out.1, HN.out]; rfl, by rw [HO.out.2, HN.out]; rfl⟩)
     have HCL := Lib.hid hcl
     clear hkn hmt hA hA2 ho y0 y1 hcl
     go_wp2_with (fail)
     go_ret2
     rw [HZ.out.1, HZ.out.2, HCL.out]
     exact ⟨_, _, rfl, HP2.out.1.mono (by omega) (Nat.le_refl _), hbe⟩
  ·have hl1 : ((xs.length : Int) != (ys.length : Int)) = true := by simp; omega
   have HN := Lib.hid (show matchL (pa, xs) (pf, ys) bs = none from matchL_len hl)
   have HZ := Lib.hid (show R = [] /\ ok = false from ⟨by rw [HO.out.1, HN.out]; rfl, by rw [HO.out.2, HN.out]; rfl⟩)
   clear hA hA2 hl
   go_enter Tryz.func126, Tryz.ntmps126
   go_wp2_with (fail)
   go_ret2
   rw [HZ.out.1, HZ.out.2]
   exact ⟨none, 0, rfl, zeroI _ _ _, below2 _ _ _⟩
 ·have hpb : (pa != pf) = true := by simp [hp]
  have HN := Lib.hid (show matchL (pa, xs) (pf, ys) bs = none from matchL_pred hp)
  have HZ := Lib.hid (show R = [] /\ ok = false from ⟨by rw [HO.out.1, HN.out]; rfl, by rw [HO.out.2, HN.out]; rfl⟩)
  clear hA hA2 hp
  go_enter Tryz.func126, Tryz.ntmps126
  go_wp2_with (fail)
  go_ret2
  rw [HZ.out.1, HZ.out.2]
  exact ⟨none, 0, rfl, zeroI _ _ _, below2 _ _ _⟩
open Go.RowKit
def cmpB (k a b : Int) : Bool := (decide (0 <= a) && decide (0 <= b)) && (if k = 2 then decide (a = b) else decide (a < b))
def litHolds (fs : List LFact) (l : LLit) (bs : List Int) : Bool :=
 if l.1 = 2 \/ l.1 = 3 then decide (l.2.2.length = 2) && cmpB l.1 (termVal bs (l.2.2.getD 0 0)) (termVal bs (l.2.2.getD 1 0))
 else (headOk l.2 bs && decide (0 <= l.1 /\ l.1 <= 1)) && (factsHas fs (headOf l.2 bs) == decide (l.1 = 0))
theorem cmpB_neg {k a b : Int} (h : a < 0) : cmpB k a b = false := by unfold cmpB; rw [decide_eq_false (show ¬ 0 <= a by omega)]; rfl
theorem cmpB_neg2 {k a b : Int} (h : b < 0) : cmpB k a b = false := by unfold cmpB; rw [decide_eq_false (show ¬ 0 <= b by omega), Bool.and_false]; rfl
theorem cmpB_same {a b : Int} (h : 0 <= a) (h2 : 0 <= b) : cmpB 2 a b = decide (a = b) := by unfold cmpB; rw [decide_eq_true h, decide_eq_true h2]; simp
theorem cmpB_less {a b : Int} (h : 0 <= a) (h2 : 0 <= b) : cmpB 3 a b = decide (a < b) := by unfold cmpB; rw [decide_eq_true h, decide_eq_true h2]; simp
theorem comparison_any (k a b : Int) (hk : k = 2 \/ k = 3) (w : World) :
 Calls Tryz.prog 239 #[.int .i64 k, .int .i64 a, .int .i64 b] w fun e w' => e = .returned (.bool (cmpB k a b)) /\ w = w' := by
 by_cases h1 : a < 0
 ·have HE := Lib.hid (cmpB_neg (k := k) (b := b) h1)
  go_enter Tryz.func239, Tryz.ntmps239
  go_wp2_with (fail)
  go_ret
  exact ⟨ret_bool HE.out.symm, rfl⟩
 ·have hd1 : decide (a < 0) = false := by simpa using h1
  by_cases h2 : b < 0
  ·have HE := Lib.hid (cmpB_neg2 (k := k) (a := a) h2)
   go_enter Tryz.func239, Tryz.ntmps239
   go_wp2_with (fail)
   go_ret
   exact ⟨ret_bool HE.out.symm, rfl⟩
  ·have hd2 : decide (b < 0) = false := by simpa using h2
   rcases hk with rfl | rfl
   ·by_cases h3 : a = b
    ·have HE := Lib.hid (show cmpB 2 a b = true by rw [cmpB_same (by omega) (by omega)]; exact decide_eq_true h3)
     have hd3 : (a == b) = true := by simpa using h3
     clear h3
     go_enter Tryz.func239, Tryz.ntmps239
     go_wp2_with (fail)
     go_ret
     exact ⟨ret_bool HE.out.symm, rfl⟩
    ·have HE := Lib.hid (show cmpB 2 a b = false by rw [cmpB_same (by omega) (by omega)]; exact decide_eq_false h3)
     have hd3 : (a == b) = false := by simpa using h3
     clear h3
     go_enter Tryz.func239, Tryz.ntmps239
     go_wp2_with (fail)
     go_ret
     exact ⟨ret_bool HE.out.symm, rfl⟩
   ·by_cases h3 : a < b
    ·have HE := Lib.hid (show cmpB 3 a b = true by rw [cmpB_less (by omega) (by omega)]; exact decide_eq_true h3)
     go_enter Tryz.func239, Tryz.ntmps239
     go_wp2_with (fail)
     go_ret
     exact ⟨ret_bool HE.out.symm, rfl⟩
    ·have HE := Lib.hid (show cmpB 3 a b = false by rw [cmpB_less (by omega) (by omega)]; exact decide_eq_false h3)
     have hd3 : decide (a < b) = false := by simpa using h3
     go_enter Tryz.func239, Tryz.ntmps239
     go_wp2_with (fail)
     go_ret
     exact ⟨ret_bool HE.out.symm, rfl⟩
theorem cmpB_cases (k a b : Int) (hk : k = 2 \/ k = 3) : (a < 0 /\ cmpB k a b = false) \/ (0 <= a /\ b < 0 /\ cmpB k a b = false) \/ (0 <= a /\ 0 <= b /\ cmpB k a b = (if k = 2 then a == b else decide (a < b))) := by
 rcases Int.lt_or_le a 0 with h | h
 ·exact .inl ⟨h, cmpB_neg h⟩
 ·rcases Int.lt_or_le b 0 with h2 | h2
  ·exact .inr (.inl ⟨h, h2, cmpB_neg2 h2⟩)
  ·refine .inr (.inr ⟨h, h2, ?_⟩)
   rcases hk with rfl | rfl
   ·rw [cmpB_same h h2]
    rfl
   ·rw [cmpB_less h h2]
    rfl
set_option maxHeartbeats 2000000 in
set_option maxRecDepth 100000 in
theorem l3HoldsCmp_any (v v3 : Value) (l : LLit) (bs : List Int) (v0 : Value) (w : World) (hkd : l.1 = 2 \/ l.1 = 3) (h2 : RdLit w w.heap.size v l) (h3 : RdInts w w.heap.size v3 bs) (hb : bs.length = 4) (ht : l.2.2.all termOk = true) :
 Calls Tryz.prog 145 #[v0, v, v3] w fun e w' => e = .returned (.bool (decide (l.2.2.length = 2) && cmpB l.1 (termVal bs (l.2.2.getD 0 0)) (termVal bs (l.2.2.getD 1 0)))) /\ Below w.heap.size w w' := by
 obtain ⟨kd, p, xs⟩ := l
 obtain ⟨u, rfl, A, c, rfl, hc, hx⟩ := h2
 simp only at hkd hx hc ht
 have H3 := Lib.hid h3
 obtain ⟨A3, c3, rfl, hc3, _⟩ := h3
 have HB := Lib.hid hb
 clear hb
 have y0 := Blk.new w 191 #[.int .i64 kd, .int .i64 p, .slice A xs.length c]
 by_cases hl : xs.length = 2
 ·obtain ⟨s, t, rfl⟩ : ∃ s t, xs = [s, t] := by
   match xs, hl with
   | [s, t], _ => exact ⟨s, t, rfl⟩
  obtain ⟨b, o, rfl, hbB, hx⟩ := hx (by simp)
  have hs := List.all_eq_true.1 ht s (by simp)
  have htt := List.all_eq_true.1 ht t (by simp)
  have c0 : ∀ O, (w.alloc O).cell? ⟨b, o, none⟩ = some (.int .i64 s) := fun O => (World.cell?_alloc_lt w O ⟨b, o, none⟩ hbB).trans (hx 0 (by simp))
  have c1 : ∀ O, (w.alloc O).cell? ⟨b, o + 1, none⟩ = some (.int .i64 t) := fun O => (World.cell?_alloc_lt w O ⟨b, o + 1, none⟩ hbB).trans (hx 1 (by simp))
  have T1 := Lib.hid (fun O => l3Term_any (.slice A3 bs.length c3) bs s _ (w.alloc O) (H3.out.on (below1 w O)) HB.out hs)
  have T2 := Lib.hid (fun O => l3Term_any (.slice A3 bs.length c3) bs t _ (w.alloc O) (H3.out.on (below1 w O)) HB.out htt)
  obtain ⟨R, hR⟩ : ∃ R, R = cmpB kd (termVal bs s) (termVal bs t) := ⟨_, rfl⟩
  have HR := Lib.hid hR
  have HX := Lib.hid (cmpB_cases kd (termVal bs s) (termVal bs t) hkd)
  rw [<- hR] at HX
  obtain ⟨av, hav⟩ : ∃ av, av = termVal bs s := ⟨_, rfl⟩
  obtain ⟨bv, hbv⟩ : ∃ bv, bv = termVal bs t := ⟨_, rfl⟩
  rw [<- hav] at T1 HX
  rw [<- hbv] at T2 HX
  have HG := Lib.hid (show (decide ([s, t].length = 2) && cmpB kd (termVal bs ([s, t].getD 0 0)) (termVal bs ([s, t].getD 1 0))) = R by rw [hR]; rfl)
  show Calls _ _ _ _ fun e w' => e = .returned (.bool (decide ([s, t].length = 2) && cmpB kd (termVal bs ([s, t].getD 0 0)) (termVal bs ([s, t].getD 1 0)))) /\ _
  rw [HG.out]
  clear hR hav hbv hs htt ht hx hl HR
  have q0 := y0.cell 0
  have q1 := y0.cell 1
  have q2 := y0.cell 2
  simp only [List.length_cons, List.length_nil] at q2
  rcases hkd with rfl | rfl
  ·rcases HX.out with ⟨h1, e⟩ | ⟨h1, h2, e⟩ | ⟨h1, h2, e⟩
   ·have hd1 : decide (0 <= av) = false := by simp; omega
    have HE := Lib.hid e
    clear e
    go_enter Tryz.func145, Tryz.ntmps145
    go_wp2_with (fail)
    refine (T1.out _).mono ?_
    rintro e w' ⟨rfl, rfl⟩
    go_wp2_with (fail)
    refine (T2.out _).mono ?_
    rintro e w' ⟨rfl, rfl⟩
    go_wp2_with (fail)
    go_ret
    exact ⟨ret_bool HE.out.symm, below1 _ _⟩
   ·have hd2 : decide (0 <= bv) = false := by simp; omega
    have HE := Lib.hid e
    clear e
    go_enter Tryz.func145, Tryz.ntmps145
    go_wp2_with (fail)
    refine (T1.out _).mono ?_
    rintro e w' ⟨rfl, rfl⟩
    go_wp2_with (fail)
    refine (T2.out _).mono ?_
    rintro e w' ⟨rfl, rfl⟩
    go_wp2_with (fail)
    go_ret
    exact ⟨ret_bool HE.out.symm, below1 _ _⟩
   ·have e' : R = (av == bv) := e
    clear e
    by_cases h3 : av = bv
    ·have hd3 : (av == bv) = true := by simpa using h3
     have HE := Lib.hid (show R = true by rw [e', hd3])
     clear e' h3
     go_enter Tryz.func145, Tryz.ntmps145
     go_wp2_with (fail)
     refine (T1.out _).mono ?_
     rintro e w' ⟨rfl, rfl⟩
     go_wp2_with (fail)
     refine (T2.out _).mono ?_
     rintro e w' ⟨rfl, rfl⟩
     go_wp2_with (fail)
     go_ret
     exact ⟨ret_bool HE.out.symm, below1 _ _⟩
    ·have hd3 : (av == bv) = false := by simpa using h3
     have HE := Lib.hid (show R = false by rw [e', hd3])
     clear e' h3
     go_enter Tryz.func145, Tryz.ntmps145
     go_wp2_with (fail)
     refine (T1.out _).mono ?_
     rintro e w' ⟨rfl, rfl⟩
     go_wp2_with (fail)
     refine (T2.out _).mono ?_
     rintro e w' ⟨rfl, rfl⟩
     go_wp2_with (fail)
     go_ret
     exact ⟨ret_bool HE.out.symm, below1 _ _⟩
  ·rcases HX.out with ⟨h1, e⟩ | ⟨h1, h2, e⟩ | ⟨h1, h2, e⟩
   ·have hd1 : decide (0 <= av) = false := by simp; omega
    have HE := Lib.hid e
    clear e
    go_enter Tryz.func145, Tryz.ntmps145
    go_wp2_with (fail)
    refine (T1.out _).mono ?_
    rintro e w' ⟨rfl, rfl⟩
    go_wp2_with (fail)
    refine (T2.out _).mono ?_
    rintro e w' ⟨rfl, rfl⟩
    go_wp2_with (fail)
    go_ret
    exact ⟨ret_bool HE.out.symm, below1 _ _⟩
   ·have hd2 : decide (0 <= bv) = false := by simp; omega
    have HE := Lib.hid e
    clear e
    go_enter Tryz.func145, Tryz.ntmps145
    go_wp2_with (fail)
    refine (T1.out _).mono ?_
    rintro e w' ⟨rfl, rfl⟩
    go_wp2_with (fail)
    refine (T2.out _).mono ?_
    rintro e w' ⟨rfl, rfl⟩
    go_wp2_with (fail)
    go_ret
    exact ⟨ret_bool HE.out.symm, below1 _ _⟩
   ·have e' : R = decide (av < bv) := e
    clear e
    by_cases h3 : av < bv
    ·have HE := Lib.hid (show R = true by rw [e']; exact decide_eq_true h3)
     clear e'
     go_enter Tryz.func145, Tryz.ntmps145
     go_wp2_with (fail)
     refine (T1.out _).mono ?_
     rintro e w' ⟨rfl, rfl⟩
     go_wp2_with (fail)
     refine (T2.out _).mono ?_
     rintro e w' ⟨rfl, rfl⟩
     go_wp2_with (fail)
     go_ret
     exact ⟨ret_bool HE.out.symm, below1 _ _⟩
    ·have hd3 : decide (av < bv) = false := by simpa using h3
     have HE := Lib.hid (show R = false by rw [e', hd3])
     clear e'
     go_enter Tryz.func145, Tryz.ntmps145
     go_wp2_with (fail)
     refine (T1.out _).mono ?_
     rintro e w' ⟨rfl, rfl⟩
     go_wp2_with (fail)
     refine (T2.out _).mono ?_
     rintro e w' ⟨rfl, rfl⟩
     go_wp2_with (fail)
     go_ret
     exact ⟨ret_bool HE.out.symm, below1 _ _⟩
 ·have hl1 : ((xs.length : Int) != 2) = true := by simp; omega
  have HG := Lib.hid (show (decide (xs.length = 2) && cmpB kd (termVal bs (xs.getD 0 0)) (termVal bs (xs.getD 1 0))) = false by rw [decide_eq_false hl]; rfl)
  show Calls _ _ _ _ fun e w' => e = .returned (.bool (decide (xs.length = 2) && cmpB kd (termVal bs (xs.getD 0 0)) (termVal bs (xs.getD 1 0)))) /\ _
  rw [HG.out]
  clear hx hl
  have q0 := y0.cell 0
  have q2 := y0.cell 2
  rcases hkd with rfl | rfl
  all_goals
   go_enter Tryz.func145, Tryz.ntmps145
   go_wp2_with (fail)
   go_ret
   exact ⟨rfl, below1 _ _⟩
open Go.RowKit
set_option maxHeartbeats 2000000 in
set_option maxRecDepth 100000 in
theorem l3HoldsAsk_any (v0 v v3 : Value) (fs : List LFact) (l : LLit) (bs : List Int) (w : World) (hkd : ¬ (l.1 = 2 \/ l.1 = 3)) (h1 : RdFacts w w.heap.size v0 fs) (h2 : RdLit w w.heap.size v l) (h3 : RdInts w w.heap.size v3 bs)
 (hn : fs.length <= 1048576) (htt : tot fs <= 1048576) (hr : l.2.2.length <= 1048576) (hr2 : bs.length <= 1048576) :
 Calls Tryz.prog 145 #[v0, v, v3] w fun e w' => e = .returned (.bool ((headOk l.2 bs && decide (0 <= l.1 /\ l.1 <= 1)) && (factsHas fs (headOf l.2 bs) == decide (l.1 = 0)))) /\ Below w.heap.size w w' := by
 obtain ⟨kd, a⟩ := l
 obtain ⟨u, rfl, h2⟩ := h2
 have H1 := Lib.hid h1
 have H2 := Lib.hid h2
 have H3 := Lib.hid h3
 obtain ⟨A1, c1, rfl, hc1, _⟩ := h1
 obtain ⟨A, c, rfl, hc, _⟩ := h2
 obtain ⟨A3, c3, rfl, hc3, _⟩ := h3
 simp only at hkd hc hr
 obtain ⟨F, hF⟩ : ∃ F, F = headOf a bs := ⟨_, rfl⟩
 obtain ⟨ok, hok⟩ : ∃ ok, ok = headOk a bs := ⟨_, rfl⟩
 obtain ⟨hs, hhs⟩ : ∃ hs, hs = factsHas fs F := ⟨_, rfl⟩
 obtain ⟨R, hR⟩ : ∃ R, R = ((ok && decide (0 <= kd /\ kd <= 1)) && (hs == decide (kd = 0))) := ⟨_, rfl⟩
 show Calls _ _ _ _ fun e w' => e = .returned (.bool ((headOk a bs && decide (0 <= kd /\ kd <= 1)) && (factsHas fs (headOf a bs) == decide (kd = 0)))) /\ _
 rw [<- hF, <- hok, <- hhs, <- hR]
 have HR := Lib.hid hR
 have HF := Lib.hid (And.intro hF hok)
 have HFL := Lib.hid (show F.2.length <= 1048576 by have := headOf_length a bs; rw [hF]; omega)
 have HH := Lib.hid hhs
 clear hR hF hok hhs
 have k2 : (kd == 2) = false := by have h : kd ≠ 2 := fun e => hkd (.inl e); simpa using h
 have k3 : (kd == 3) = false := by have h : kd ≠ 3 := fun e => hkd (.inr e); simpa using h
 have y0 := Blk.new w 191 #[.int .i64 kd, .int .i64 a.1, .slice A a.2.length c]
 have q0 := y0.cell 0
 have q1 := y0.cell 1
 have q2 := y0.cell 2
 go_enter Tryz.func145, Tryz.ntmps145
 go_wp2_with (fail)
 obtain ⟨w1, hw1⟩ : ∃ w1, w1 = w.alloc (Obj.cells #[Value.int IntKind.i64 kd, Value.int IntKind.i64 a.1, Value.slice A a.2.length c] 191) := ⟨_, rfl⟩
 have B1 : Below w.heap.size w w1 := by rw [hw1]; exact below1 _ _
 rw [<- hw1] at y0 ⊢
 clear hw1 q0 q1 q2
 refine (specHeadOf_any _ _ a bs _ ⟨_, rfl, H2.out.on B1⟩ (H3.out.on B1) hr hr2).mono ?_
 rw [<- HF.out.1, <- HF.out.2]
 rintro e w2 ⟨A', c', rfl, ho, hb2⟩
 have B2 := bthen B1 hb2
 have y2 := y0.below hb2 y0.lt
 have HO := Lib.hid ho
 clear ho y0
 go_wp2_with (fail)
 obtain ⟨w3, hw3⟩ : ∃ w3, w3 = w2.alloc (Obj.cells #[Value.int IntKind.i64 F.1, Value.slice A' F.2.length c'] 66) := ⟨_, rfl⟩
 have B23 : Below w2.heap.size w2 w3 := by rw [hw3]; exact below1 _ _
 have f3 : Blk w3 w2.heap.size 66 #[.int .i64 F.1, .slice A' F.2.length c'] := by rw [hw3]; exact Blk.new _ _ _
 rw [<- hw3]
 clear hw3
 have y3 := y2.below B23 y2.lt
 have B3 := bthen B2 B23
 have RF := Lib.hid (show RdFact w3 w3.heap.size (.agg #[.int .i64 F.1, .slice A' F.2.length c']) F from ⟨_, rfl, HO.out.rd.on B23⟩)
 have L0 := later_cell (y3.cell 0 : w3.cell? ⟨w.heap.size, 0, none⟩ = some (.int .i64 kd))
 have L1 := later_cell (f3.cell 0 : w3.cell? ⟨w2.heap.size, 0, none⟩ = some (.int .i64 F.1))
 have L2 := later_cell (f3.cell 1 : w3.cell? ⟨w2.heap.size, 1, none⟩ = some (.slice A' F.2.length c'))
 have CF := Lib.hid (fun x : Later w3 => (specFactsHas_any _ _ fs F x.val ((H1.out.on B3).on x.2) (RF.out.on x.2) hn htt HFL.out))
 rw [<- HH.out] at CF
 clear y2 y3 f3
 cases ok
 ·have HE := Lib.hid (show R = false by rw [HR.out]; rfl)
  refine wp_region_later (by kernel_rfl) (by kernel_rfl) ?_
  repeat (go_big_quiet_step (fail))
  refine wpQuiet_nil ?_
  rintro _ ⟨xq, rfl⟩
  go_wp2_with (fail)
  go_ret
  exact ⟨ret_bool HE.out.symm, bthen B3 xq.2⟩
 ·by_cases hin : 0 <= kd /\ kd <= 1
  ·have CI := Lib.hid (fun W => l1In_yes hin W)
   have HD := Lib.hid (show R = (hs == decide (kd = 0)) by rw [HR.out, decide_eq_true hin]; rfl)
   by_cases h0 : kd = 0
   ·have k0 : (kd == 0) = true := by simpa using h0
    have HE := Lib.hid (show R = (hs == true) by rw [HD.out, decide_eq_true h0])
    clear h0 hin
    cases hs
    all_goals
     refine wp_region_later (by kernel_rfl) (by kernel_rfl) ?_
     repeat (go_big_quiet_step (first | (go_at_call 124; exact later_same (CI.out _)) | (go_at_call 86; exact later_of (CF.out _))))
     refine wpQuiet_nil ?_
     rintro _ ⟨xq, rfl⟩
     go_wp2_with (fail)
     go_ret
     exact ⟨ret_bool (by rw [HE.out]; rfl), bthen B3 xq.2⟩
   ·have k0 : (kd == 0) = false := by simpa using h0
    have HE := Lib.hid (show R = (hs == false) by rw [HD.out, decide_eq_false h0])
    clear h0 hin
    cases hs
    all_goals
     refine wp_region_later (by kernel_rfl) (by kernel_rfl) ?_
     repeat (go_big_quiet_step (first | (go_at_call 124; exact later_same (CI.out _)) | (go_at_call 86; exact later_of (CF.out _))))
     refine wpQuiet_nil ?_
     rintro _ ⟨xq, rfl⟩
     go_wp2_with (fail)
     go_ret
     exact ⟨ret_bool (by rw [HE.out]; rfl), bthen B3 xq.2⟩
  ·have CI := Lib.hid (fun W => l1In_no hin W)
   have HE := Lib.hid (show R = false by rw [HR.out, decide_eq_false hin]; rfl)
   clear hin
   refine wp_region_later (by kernel_rfl) (by kernel_rfl) ?_
   repeat (go_big_quiet_step (first | (go_at_call 124; exact later_same (CI.out _))))
   refine wpQuiet_nil ?_
   rintro _ ⟨xq, rfl⟩
   go_wp2_with (fail)
   go_ret
   exact ⟨ret_bool HE.out.symm, bthen B3 xq.2⟩
theorem l3Holds_any (v0 v v3 : Value) (fs : List LFact) (l : LLit) (bs : List Int) (w : World) (h1 : RdFacts w w.heap.size v0 fs) (h2 : RdLit w w.heap.size v l) (h3 : RdInts w w.heap.size v3 bs)
 (hb : bs.length = 4) (ht : l.2.2.all termOk = true) (hn : fs.length <= 1048576) (htt : tot fs <= 1048576) (hr : l.2.2.length <= 1048576) :
 Calls Tryz.prog 145 #[v0, v, v3] w fun e w' => e = .returned (.bool (litHolds fs l bs)) /\ Below w.heap.size w w' := by
 by_cases h : l.1 = 2 \/ l.1 = 3
 ·have := l3HoldsCmp_any v v3 l bs v0 w h h2 h3 hb ht
  unfold litHolds
  rw [if_pos h]
  exact this
 ·have := l3HoldsAsk_any v0 v v3 fs l bs w h h1 h2 h3 hn htt hr (by omega)
  unfold litHolds
  rw [if_neg h]
  exact this
open Go.RowKit
set_option maxHeartbeats 1000000 in
set_option maxRecDepth 100000 in
theorem l3Row_any (v v2 : Value) (xs ys : List Int) (w : World) (h : RdInts w w.heap.size v xs) (h2 : RdInts w w.heap.size v2 ys) (hn : xs.length <= 1048576) (hn2 : ys.length <= 1048576) :
 Calls Tryz.prog 240 #[v, v2] w fun e w' => e = .returned (.int .i64 (cmpL xs ys)) /\ Below w.heap.size w w' := by
 obtain ⟨A, c, rfl, hc, ha⟩ := h
 obtain ⟨A2, c2, rfl, hc2, hb⟩ := h2
 go_enter Tryz.func240, Tryz.ntmps240
 go_wp2_with (fail)
 go_loopw [5] (fun i wr => ∃ k : Nat, k <= xs.length /\ k <= ys.length /\ i = .int .i64 k /\ CmpTo xs ys k /\ Below w.heap.size w wr) (fun i _ => xs.length - (intOf i).toNat)
 case atStart => exact ⟨0, Nat.zero_le _, Nat.zero_le _, rfl, rfl, Below.refl _ _⟩
 case round =>
  obtain ⟨k, hk, hk2, rfl, hs, hbe⟩ := hrel
  by_cases hlt : k < xs.length
  ·have hd : decide ((k : Int) < (xs.length : Int)) = true := by simp; omega
   by_cases hlt2 : k < ys.length
   ·obtain ⟨b, o, rfl, hbB, hx⟩ := ha (by omega)
    obtain ⟨b2, o2, rfl, hbB2, hx2⟩ := hb (by omega)
    have hck : wr.cell? ⟨b, o + k, none⟩ = some (.int .i64 xs[k]) := (hbe.cell (p := ⟨b, o + k, none⟩) hbB).trans (hx k hlt)
    have hck2 : wr.cell? ⟨b2, o2 + k, none⟩ = some (.int .i64 ys[k]) := (hbe.cell (p := ⟨b2, o2 + k, none⟩) hbB2).trans (hx2 k hlt2)
    clear hx hx2 ha hb
    by_cases he : xs[k] = ys[k]
    ·have HS := Lib.hid (show CmpTo xs ys (k + 1) by unfold CmpTo at hs ⊢; rw [hs, cmpL_at hlt hlt2, if_pos he])
     have h0 : (xs[k] != ys[k]) = false := by simp [he]
     clear he hs
     go_wp2_with (fail)
     go_quiet (fail)
     go_wp2_with (fail)
     go_roundw
     case rel => exact ⟨k + 1, by omega, by omega, by go_num, HS.out, bdrewN hbe _⟩
     case measure => simp [intOf]; omega
    ·have HS := Lib.hid (show cmpL xs ys = cmpI xs[k] ys[k] by unfold CmpTo at hs; rw [hs, cmpL_at hlt hlt2, if_neg he])
     have h0 : (xs[k] != ys[k]) = true := by simp [he]
     clear he hs
     go_wp2_with (fail)
     go_quiet (fail)
     go_wp2_with (fail)
     go_quiet ((go_at_call 171; exact quiet_add_left (l1Way_any _ _ _)))
     go_wp2_with (fail)
     go_ret
     exact ⟨ret_int HS.out.symm, bdrewN (bdrewN hbe _) _⟩
   ·have HS := Lib.hid (show cmpL xs ys = cmpI xs.length ys.length by
     unfold CmpTo at hs
     rw [hs, cmpL_long hlt (by omega), cmpI, if_neg (by omega), if_pos (by omega)])
    clear hs ha hb
    go_wp2_with (go_at_call 171; refine (l1Way_any _ _ _).mono ?_; rintro e w' ⟨rfl, rfl⟩)
    go_ret
    exact ⟨ret_int HS.out.symm, hbe⟩
  ·have hd : decide ((k : Int) < (xs.length : Int)) = false := by simp; omega
   have HS := Lib.hid (show cmpL xs ys = cmpI xs.length ys.length by
    unfold CmpTo at hs
    by_cases h3 : xs.length < ys.length
    ·rw [hs, cmpL_short (by omega) (by omega), cmpI, if_pos (by omega)]
    ·rw [hs, cmpL_end (by omega) (by omega), cmpI, if_neg (by omega), if_neg (by omega)])
   clear hs ha hb
   go_wp2_with (go_at_call 171; refine (l1Way_any _ _ _).mono ?_; rintro e w' ⟨rfl, rfl⟩)
   go_ret
   exact ⟨ret_int HS.out.symm, hbe⟩
set_option maxHeartbeats 1000000 in
set_option maxRecDepth 100000 in
theorem l3None_any (w : World) :
 Calls Tryz.prog 127 #[] w fun e w' => ∃ A' c', e = .returned (.slice A' 4 c') /\ OwnInts w' w.heap.size w'.heap.size (.slice A' 4 c') noneB /\ Below w.heap.size w w' := by
 obtain ⟨i0, hi0, hz0, hz1, hz2⟩ := info_parts Tryz.infoInt
 have C0 := Lib.hid (ColI.empty (Below.refl w.heap.size w))
 go_enter Tryz.func127, Tryz.ntmps127
 go_wp2_with (fail)
 go_loopw [1, 2] (fun o i wr => ∃ (k : Nat) (A' : Option Addr) (c' : Nat), k <= 4 /\ i = .int .i64 k /\ o = .slice A' (List.replicate k (-1 : Int)).length c' /\ ColI w wr (List.replicate k (-1)) A' c') (fun _ i _ => 4 - (intOf i).toNat)
 case atStart => exact ⟨0, _, 0, Nat.zero_le _, rfl, rfl, C0.out⟩
 case round =>
  obtain ⟨k, A', c', hk, rfl, rfl, hr'⟩ := hrel
  by_cases hlt : k < 4
  ·have HS := Lib.hid (show List.replicate (k + 1) (-1 : Int) = List.replicate k (-1) ++ [-1] from List.replicate_succ')
   have HP := Lib.hid hr'
   clear hr'
   obtain ⟨zs, hzs⟩ : ∃ zs, zs = List.replicate k (-1 : Int) := ⟨_, rfl⟩
   have hln : zs.length <= 4 := by rw [hzs]; simp; omega
   have HZ := Lib.hid hzs
   rw [<- hzs] at HP ⊢
   clear hzs
   go_wp2_with (at_builtin; refine wpList_append_lies _ rfl (.tmp 8) (.tmp 9) 22 rfl w.heap.size 3 i0 (.int .i64 0) 1 8 Tryz.underlying22 hi0 hz0 hz1 hz2 rfl (by decide) (.slice A' zs.length c') zs.length (zs.map (Value.int .i64)) rfl ?c1 ⟨_, 0, none⟩ 1 1 [.int .i64 (-1)] rfl rfl (news1s _ _ _ _ (by simp)) ?c2 (by omega) (by unfold maxLen; omega) (by omega) ?c3 _ rfl ?_)
   case c1 => exact HP.out.own.1.alloc _
   case c2 => first | rfl | (intro u hu; simp at hu; subst hu; rfl)
   case c3 => have := HP.out.below.size; simp; omega
   intro g cap w4 hown hg _ _
   have hcol := HP.out.push (Below.refl _ _) hg hown
   rw [HZ.out, <- HS.out] at hcol
   have hlen : zs.length + 1 = (List.replicate (k + 1) (-1 : Int)).length := by rw [HZ.out]; simp
   rw [hlen]
   have HC := Lib.hid hcol
   clear hcol hlen hown hg
   go_wp2_with (fail)
   go_roundw
   case rel => exact ⟨k + 1, _, _, by omega, by go_num, rfl, HC.out⟩
   case measure => simp [intOf]; omega
  ·have hkn : k = 4 := by omega
   subst hkn
   have HP := Lib.hid hr'
   clear hr'
   go_wp2_with (fail)
   go_ret
   exact ⟨_, _, rfl, HP.out.own, HP.out.below⟩
set_option maxHeartbeats 1000000 in
set_option maxRecDepth 100000 in
theorem l3Try_any (v0 v v3 : Value) (fs : List LFact) (ls : List LLit) (bs : List Int) (R : Bool) (hR : R = ls.all fun l => litHolds fs l bs) (w : World) (h1 : RdFacts w w.heap.size v0 fs) (h2 : RdLits w w.heap.size v ls) (h3 : RdInts w w.heap.size v3 bs)
 (hb : bs.length = 4) (ht : ∀ l ∈ ls, l.2.2.all termOk = true) (hn : fs.length <= 1048576) (htt : tot fs <= 1048576) (hl : ls.length <= 1048576) (hr : totL ls <= 1048576) :
 Calls Tryz.prog 191 #[v0, v, v3] w fun e w' => e = .returned (.bool R) /\ Below w.heap.size w w' := by
 have H1 := Lib.hid h1
 have H2 := Lib.hid h2
 have H3 := Lib.hid h3
 have HT := Lib.hid ht
 have HB := Lib.hid hb
 have HR := Lib.hid hR
 obtain ⟨A1, c1, rfl, hc1, _⟩ := h1
 obtain ⟨A, c, rfl, hc, _⟩ := h2
 obtain ⟨A3, c3, rfl, hc3, _⟩ := h3
 clear hR ht hb
 go_enter Tryz.func191, Tryz.ntmps191
 go_wp2_with (fail)
 go_loopw [7] (fun i wr => ∃ k : Nat, k <= ls.length /\ i = .int .i64 k /\ (∀ j (h : j < ls.length), j < k -> litHolds fs ls[j] bs = true) /\ Below w.heap.size w wr) (fun i _ => ls.length - (intOf i).toNat)
 case atStart => exact ⟨0, Nat.zero_le _, rfl, fun j _ h => absurd h (by omega), Below.refl _ _⟩
 case round =>
  obtain ⟨k, hk, rfl, hs, hbe⟩ := hrel
  by_cases hlt : k < ls.length
  ·obtain ⟨b, o, u0, u1, u2, rfl, hbB, k0, k1, k2, rfl, rfl, p3⟩ := (H2.out.on hbe).get hlt
   have hln := len_le_totL ls k hlt
   have hlen : ls[k].2.2.length <= 1048576 := by omega
   have htk := HT.out _ (List.getElem_mem hlt)
   have hRL : RdLit wr wr.heap.size (.agg #[.int .i64 ls[k].1, .int .i64 ls[k].2.1, u2]) ls[k] := ⟨_, rfl, p3⟩
   obtain ⟨A4, c4, rfl, hc4, _⟩ := p3
   have CH := Lib.hid (l3Holds_any _ _ _ fs ls[k] bs wr (H1.out.on hbe) hRL (H3.out.on hbe) HB.out htk hn htt hlen)
   have HS := Lib.hid hs
   have HBE := Lib.hid hbe
   clear hRL hs hbe htk
   cases hh : litHolds fs ls[k] bs
   ·rw [hh] at CH
    have HE := Lib.hid (show R = false by
     rw [HR.out, List.all_eq_false]
     exact ⟨ls[k], List.getElem_mem hlt, by rw [hh]; simp⟩)
    go_wp2_with (go_at_call 145; refine CH.out.mono ?_; rintro e w2 ⟨rfl, hb2⟩; have HB2 := Lib.hid hb2; clear hb2)
    go_ret
    exact ⟨ret_bool HE.out.symm, bthen HBE.out HB2.out⟩
   ·rw [hh] at CH
    have HH := Lib.hid hh
    clear hh
    go_wp2_with (go_at_call 145; refine CH.out.mono ?_; rintro e w2 ⟨rfl, hb2⟩; have HB2 := Lib.hid hb2; clear hb2)
    go_roundw
    case rel => exact ⟨k + 1, by omega, by go_num, fun j h hj => by
     by_cases e : j = k
     ·subst e; exact HH.out
     ·exact HS.out j h (by omega), bthen HBE.out HB2.out⟩
    case measure => simp [intOf]; omega
  ·have HE := Lib.hid (show R = true by
    rw [HR.out, List.all_eq_true]
    intro l hl
    obtain ⟨j, hj, rfl⟩ := List.getElem_of_mem hl
    exact hs j hj (by omega))
   have HBE := Lib.hid hbe
   clear hs hbe
   go_wp2_with (fail)
   go_ret
   exact ⟨ret_bool HE.out.symm, HBE.out⟩
open Go.RowKit
theorem nib_or {x y a b : Nat} (ha : a < 16) (hb : b < 16) : (x * 16 + a) ||| (y * 16 + b) = (x ||| y) * 16 + (a ||| b) := by
 apply Nat.eq_of_testBit_eq
 intro i
 have h := fun (p q : Nat) (hq : q < 16) => Nat.testBit_two_pow_mul_add p (i := 4) (b := q) (by omega) i
 rw [Nat.testBit_or, Nat.mul_comm x, Nat.mul_comm y, Nat.mul_comm (x ||| y)]
 rw [show (16 : Nat) = 2 ^ 4 from rfl, h x a ha, h y b hb, h (x ||| y) (a ||| b) (Nat.or_lt_two_pow (n := 4) ha hb), Nat.testBit_or, Nat.testBit_or]
 split <;> rfl
theorem nib_and {x y a b : Nat} (ha : a < 16) (hb : b < 16) : (x * 16 + a) &&& (y * 16 + b) = (x &&& y) * 16 + (a &&& b) := by
 apply Nat.eq_of_testBit_eq
 intro i
 have h := fun (p q : Nat) (hq : q < 16) => Nat.testBit_two_pow_mul_add p (i := 4) (b := q) (by omega) i
 rw [Nat.testBit_and, Nat.mul_comm x, Nat.mul_comm y, Nat.mul_comm (x &&& y)]
 rw [show (16 : Nat) = 2 ^ 4 from rfl, h x a ha, h y b hb, h (x &&& y) (a &&& b) (Nat.and_lt_two_pow (n := 4) a hb), Nat.testBit_and, Nat.testBit_and]
 split <;> rfl
def restr (V : Nat) (b : List Int) : List Int := [if V.testBit 0 then b.getD 0 (-1) else -1, if V.testBit 1 then b.getD 1 (-1) else -1, if V.testBit 2 then b.getD 2 (-1) else -1, if V.testBit 3 then b.getD 3 (-1) else -1]
def over1 (x y : Int) : Int := if x = -1 then y else x
def over (a b : List Int) : List Int := [over1 (a.getD 0 (-1)) (b.getD 0 (-1)), over1 (a.getD 1 (-1)) (b.getD 1 (-1)), over1 (a.getD 2 (-1)) (b.getD 2 (-1)), over1 (a.getD 3 (-1)) (b.getD 3 (-1))]
def bit15 (b : Bool) : Nat := if b then 15 else 0
def maskW (V : Nat) : Nat := ((bit15 (V.testBit 0) * 16 + bit15 (V.testBit 1)) * 16 + bit15 (V.testBit 2)) * 16 + bit15 (V.testBit 3)
theorem bit15_lt (b : Bool) : bit15 b < 16 := by cases b <;> decide
theorem maskW_lt (V : Nat) : maskW V < 65536 := by
 have := bit15_lt (V.testBit 0); have := bit15_lt (V.testBit 1); have := bit15_lt (V.testBit 2); have := bit15_lt (V.testBit 3)
 unfold maskW
 omega
theorem bind_at {b : List Int} (h : bindOk b = true) {v : Nat} (hv : v < 4) : -1 <= b.getD v (-1) /\ b.getD v (-1) <= 5 := by
 have hl := bindOk_len h
 have hk : v < b.length := by omega
 rw [List.getD_eq_getElem?_getD, List.getElem?_eq_getElem hk]
 exact bindOk_at h hk
theorem bindOk_four {a b c d : Int} (h0 : -1 <= a /\ a <= 5) (h1 : -1 <= b /\ b <= 5) (h2 : -1 <= c /\ c <= 5) (h3 : -1 <= d /\ d <= 5) : bindOk [a, b, c, d] = true := by
 refine bindOk_iff rfl ?_
 simp only [List.all_cons, List.all_nil, Bool.and_true, Bool.and_eq_true, hasB, decide_eq_true_eq]
 exact ⟨h0, h1, h2, h3⟩
theorem restr_ok {b : List Int} (h : bindOk b = true) (V : Nat) : bindOk (restr V b) = true := by
 have key : ∀ v, v < 4 -> -1 <= (if V.testBit v then b.getD v (-1) else -1) /\ (if V.testBit v then b.getD v (-1) else -1) <= 5 := fun v hv => by
  have := bind_at h hv
  split <;> omega
 exact bindOk_four (key 0 (by omega)) (key 1 (by omega)) (key 2 (by omega)) (key 3 (by omega))
theorem over_ok {a b : List Int} (h : bindOk a = true) (h2 : bindOk b = true) : bindOk (over a b) = true := by
 have key : ∀ v, v < 4 -> -1 <= over1 (a.getD v (-1)) (b.getD v (-1)) /\ over1 (a.getD v (-1)) (b.getD v (-1)) <= 5 := fun v hv => by
  have := bind_at h hv
  have := bind_at h2 hv
  unfold over1
  split <;> omega
 exact bindOk_four (key 0 (by omega)) (key 1 (by omega)) (key 2 (by omega)) (key 3 (by omega))
theorem restr_at {V : Nat} {b : List Int} {v : Nat} (hv : v < 4) : (restr V b).getD v (-1) = if V.testBit v then b.getD v (-1) else -1 := by
 match v, hv with
 | 0, _ => rfl
 | 1, _ => rfl
 | 2, _ => rfl
 | 3, _ => rfl
theorem over_at {a b : List Int} {v : Nat} (hv : v < 4) : (over a b).getD v (-1) = over1 (a.getD v (-1)) (b.getD v (-1)) := by
 match v, hv with
 | 0, _ => rfl
 | 1, _ => rfl
 | 2, _ => rfl
 | 3, _ => rfl
theorem bind_ext {a b : List Int} (h : bindOk a = true) (h2 : bindOk b = true) (e : ∀ v, v < 4 -> a.getD v (-1) = b.getD v (-1)) : a = b := by
 obtain ⟨a0, a1, a2, a3, rfl⟩ := list4 (bindOk_len h)
 obtain ⟨b0, b1, b2, b3, rfl⟩ := list4 (bindOk_len h2)
 have e0 := e 0 (by omega)
 have e1 := e 1 (by omega)
 have e2 := e 2 (by omega)
 have e3 := e 3 (by omega)
 simp only [List.getD_cons_zero, List.getD_cons_succ] at e0 e1 e2 e3
 rw [e0, e1, e2, e3]
theorem and15 : ∀ a : Fin 7, ∀ t : Bool, (a.val &&& bit15 t) = if t then a.val else 0 := by decide
theorem nib_mask {x : Int} (h : -1 <= x /\ x <= 5) (t : Bool) : ((x + 1).toNat &&& bit15 t) = ((if t then x else -1) + 1).toNat := by
 obtain ⟨a, e, rfl⟩ := fin7 h
 rw [e, and15]
 cases t <;> simp
theorem nib_over {x y : Int} (h : -1 <= x /\ x <= 5) (h2 : -1 <= y /\ y <= 5) (hc : x = -1 \/ y = -1 \/ x = y) : ((x + 1).toNat ||| (y + 1).toNat) = (over1 x y + 1).toNat := by
 unfold over1
 rcases hc with rfl | rfl | rfl
 ·simp
 ·by_cases e : x = -1
  ·simp [e]
  ·simp [e]
 ·simp
theorem nib_lt {x : Int} (h : -1 <= x /\ x <= 5) : (x + 1).toNat < 16 := by omega
theorem enc_restr {b : List Int} (h : bindOk b = true) (V : Nat) : encB b &&& maskW V = encB (restr V b) := by
 have k0 := bind_at h (v := 0) (by omega)
 have k1 := bind_at h (v := 1) (by omega)
 have k2 := bind_at h (v := 2) (by omega)
 have k3 := bind_at h (v := 3) (by omega)
 unfold encB maskW
 rw [nib_and (nib_lt k3) (bit15_lt _), nib_and (nib_lt k2) (bit15_lt _), nib_and (nib_lt k1) (bit15_lt _), nib_mask k0, nib_mask k1, nib_mask k2, nib_mask k3]
 rfl
theorem enc_over {a b : List Int} (h : bindOk a = true) (h2 : bindOk b = true) (hc : ∀ v, v < 4 -> a.getD v (-1) = -1 \/ b.getD v (-1) = -1 \/ a.getD v (-1) = b.getD v (-1)) : encB a ||| encB b = encB (over a b) := by
 have k0 := bind_at h (v := 0) (by omega)
 have k1 := bind_at h (v := 1) (by omega)
 have k2 := bind_at h (v := 2) (by omega)
 have k3 := bind_at h (v := 3) (by omega)
 have l0 := bind_at h2 (v := 0) (by omega)
 have l1 := bind_at h2 (v := 1) (by omega)
 have l2 := bind_at h2 (v := 2) (by omega)
 have l3 := bind_at h2 (v := 3) (by omega)
 unfold encB
 rw [nib_or (nib_lt k3) (nib_lt l3), nib_or (nib_lt k2) (nib_lt l2), nib_or (nib_lt k1) (nib_lt l1), nib_over k0 l0 (hc 0 (by omega)), nib_over k1 l1 (hc 1 (by omega)), nib_over k2 l2 (hc 2 (by omega)), nib_over k3 l3 (hc 3 (by omega))]
 rfl
theorem and_word32 {a b : Nat} (ha : a < 65536) (hb : b < 65536) : bits .and .u32 (a : Int) (b : Int) = ((a &&& b : Nat) : Int) := u32_and_nat a b (by omega) (by omega)
theorem mask_bit : ∀ V : Fin 16, ∀ k : Fin 4, (bits .and .u64 ((V.val : Nat) : Int) (((2 ^ k.val : Nat) : Nat) : Int) != 0) = V.val.testBit k.val := by decide +kernel
def maskTo (V k : Nat) : Nat := maskW (V &&& (2 ^ k - 1))
theorem maskTo_all : ∀ V : Fin 16, maskTo V.val 4 = maskW V.val := by decide +kernel
theorem maskTo_zero (V : Nat) : maskTo V 0 = 0 := by simp [maskTo, maskW, bit15]
theorem maskTo_step : ∀ V : Fin 16, ∀ k : Fin 4, maskTo V.val (k.val + 1) = if V.val.testBit k.val then maskTo V.val k.val ||| (15 * 2 ^ ((3 - k.val) * 4)) else maskTo V.val k.val := by decide +kernel
theorem maskT (V : Nat) (hV : V < 16) {k : Nat} (hk : k < 4) (h : (bits .and .u64 ((V : Nat) : Int) (((2 ^ k : Nat) : Nat) : Int) != 0) = true) : bits .or .u32 ((maskTo V k : Nat) : Int) ((15 * 2 ^ ((3 - k) * 4) : Nat) : Int) = ((maskTo V (k + 1) : Nat) : Int) := by
 have hb := mask_bit ⟨V, hV⟩ ⟨k, hk⟩
 have hs := maskTo_step ⟨V, hV⟩ ⟨k, hk⟩
 simp only at hb hs
 rw [hb] at h
 rw [h, if_pos rfl] at hs
 have hlt : maskTo V k < 65536 := maskW_lt (V &&& (2 ^ k - 1))
 have h2 : 15 * 2 ^ ((3 - k) * 4) < 65536 := by
  rcases (show k = 0 \/ k = 1 \/ k = 2 \/ k = 3 by omega) with rfl | rfl | rfl | rfl <;> decide
 rw [hs]
 exact or_word32 hlt h2
theorem maskF (V : Nat) (hV : V < 16) {k : Nat} (hk : k < 4) (h : (bits .and .u64 ((V : Nat) : Int) (((2 ^ k : Nat) : Nat) : Int) != 0) = false) : ((maskTo V k : Nat) : Int) = ((maskTo V (k + 1) : Nat) : Int) := by
 have hb := mask_bit ⟨V, hV⟩ ⟨k, hk⟩
 have hs := maskTo_step ⟨V, hV⟩ ⟨k, hk⟩
 simp only at hb hs
 rw [hb] at h
 rw [h] at hs
 rw [hs]
 rfl
set_option maxHeartbeats 1000000 in
set_option maxRecDepth 100000 in
theorem bindingMask_any (V : Nat) (hV : V < 16) (w : World) :
 Calls Tryz.prog 278 #[.int .u64 (V : Nat)] w fun e w' => e = .returned (.int .u32 ((maskW V : Nat) : Int)) /\ w = w' := by
 go_enter Tryz.func278, Tryz.ntmps278
 go_wp2_with (fail)
 go_loopg [3, 4, 5] 4 (fun q m _ i wr => ∃ k : Nat, k <= 4 /\ q = 4 - k /\ i = .int .i64 k /\ m = .int .u32 ((maskTo V k : Nat) : Int) /\ wr = w)
 case atStart => exact ⟨0, by omega, by omega, rfl, by rw [maskTo_zero]; rfl, rfl⟩
 case round =>
  obtain ⟨k, hk, hq, rfl, rfl, rfl⟩ := hrel
  have hlt := maskW_lt (V &&& (2 ^ k - 1))
  by_cases h4 : k < 4
  ·rcases (show k = 0 \/ k = 1 \/ k = 2 \/ k = 3 by omega) with rfl | rfl | rfl | rfl
   ·have HT := Lib.hid (fun h => maskT V hV (k := 0) (by omega) h)
    have HF := Lib.hid (fun h => maskF V hV (k := 0) (by omega) h)
    clear hlt
    go_wp2_with (go_at_call 227; refine (shift_any _ (by omega) (by omega) _).mono ?_; rintro e w' ⟨rfl, rfl⟩)
    ·have ht : (bits .and .u64 ((V : Nat) : Int) (1 : Int) != 0) = true := by assumption
     go_roundg 3
     case measure => omega
     case rel => exact ⟨1, by omega, by omega, rfl, congrArg (Value.int .u32) (HT.out ht), rfl⟩
    ·have ht : (bits .and .u64 ((V : Nat) : Int) (1 : Int) != 0) = false := by assumption
     go_roundg 3
     case measure => omega
     case rel => exact ⟨1, by omega, by omega, rfl, congrArg (Value.int .u32) (HF.out ht), rfl⟩
   ·have HT := Lib.hid (fun h => maskT V hV (k := 1) (by omega) h)
    have HF := Lib.hid (fun h => maskF V hV (k := 1) (by omega) h)
    clear hlt
    go_wp2_with (go_at_call 227; refine (shift_any _ (by omega) (by omega) _).mono ?_; rintro e w' ⟨rfl, rfl⟩)
    ·have ht : (bits .and .u64 ((V : Nat) : Int) (2 : Int) != 0) = true := by assumption
     go_roundg 2
     case measure => omega
     case rel => exact ⟨2, by omega, by omega, rfl, congrArg (Value.int .u32) (HT.out ht), rfl⟩
    ·have ht : (bits .and .u64 ((V : Nat) : Int) (2 : Int) != 0) = false := by assumption
     go_roundg 2
     case measure => omega
     case rel => exact ⟨2, by omega, by omega, rfl, congrArg (Value.int .u32) (HF.out ht), rfl⟩
   ·have HT := Lib.hid (fun h => maskT V hV (k := 2) (by omega) h)
    have HF := Lib.hid (fun h => maskF V hV (k := 2) (by omega) h)
    clear hlt
    go_wp2_with (go_at_call 227; refine (shift_any _ (by omega) (by omega) _).mono ?_; rintro e w' ⟨rfl, rfl⟩)
    ·have ht : (bits .and .u64 ((V : Nat) : Int) (4 : Int) != 0) = true := by assumption
     go_roundg 1
     case measure => omega
     case rel => exact ⟨3, by omega, by omega, rfl, congrArg (Value.int .u32) (HT.out ht), rfl⟩
    ·have ht : (bits .and .u64 ((V : Nat) : Int) (4 : Int) != 0) = false := by assumption
     go_roundg 1
     case measure => omega
     case rel => exact ⟨3, by omega, by omega, rfl, congrArg (Value.int .u32) (HF.out ht), rfl⟩
   ·have HT := Lib.hid (fun h => maskT V hV (k := 3) (by omega) h)
    have HF := Lib.hid (fun h => maskF V hV (k := 3) (by omega) h)
    clear hlt
    go_wp2_with (go_at_call 227; refine (shift_any _ (by omega) (by omega) _).mono ?_; rintro e w' ⟨rfl, rfl⟩)
    ·have ht : (bits .and .u64 ((V : Nat) : Int) (8 : Int) != 0) = true := by assumption
     go_roundg 0
     case measure => omega
     case rel => exact ⟨4, by omega, by omega, rfl, congrArg (Value.int .u32) (HT.out ht), rfl⟩
    ·have ht : (bits .and .u64 ((V : Nat) : Int) (8 : Int) != 0) = false := by assumption
     go_roundg 0
     case measure => omega
     case rel => exact ⟨4, by omega, by omega, rfl, congrArg (Value.int .u32) (HF.out ht), rfl⟩
  ·obtain rfl : k = 4 := by omega
   have HM := Lib.hid (maskTo_all ⟨V, hV⟩)
   go_wp2_with (fail)
   go_ret
   exact ⟨ret_int (by rw [show maskTo V 4 = maskW V from HM.out]), rfl⟩
open Go.RowKit
theorem matchTo_ok {bs xs ys : List Int} (hb : bindOk bs = true) (hy : ys.all constOk = true) : ∀ {k : Nat} {b : List Int}, k <= ys.length -> matchTo bs xs ys k = some b -> bindOk b = true
 | 0, b, _, e => by
  injection e with e
  rwa [<- e]
 | k + 1, b, hk, e => by
  have e' : (matchTo bs xs ys k).bind (fun b => stepM b (xs.getD k 0) (ys.getD k 0)) = some b := e
  obtain ⟨c, h1, h2⟩ := Option.bind_eq_some_iff.1 e'
  refine stepM_ok (matchTo_ok hb hy (by omega) h1) ?_ h2
  have hlt : k < ys.length := by omega
  have := List.all_eq_true.1 hy _ (List.getElem_mem hlt)
  simp [constOk] at this
  simp [hlt]
  omega
theorem matchL_ok {a f : LFact} {bs b : List Int} (hb : bindOk bs = true) (hy : f.2.all constOk = true) (e : matchL a f bs = some b) : bindOk b = true := by
 unfold matchL at e
 split at e
 ·rename_i h
  exact matchTo_ok hb hy (by omega) e
 ·cases e
open Go.RowKit
def DomB (b : List Int) (K : Nat) : Prop := ∀ v, v < 4 -> (b.getD v (-1) ≠ -1 <-> K.testBit v = true)
theorem maskFrom_bit {v : Nat} (hv : v < 4) : ∀ (xs : List Int) (m : Nat), (maskFrom m xs).testBit v = true <-> m.testBit v = true \/ (-1 - (v : Int)) ∈ xs
 | [], m => by simp [maskFrom]
 | t :: xs, m => by
  have e : maskFrom m (t :: xs) = maskFrom (orV m t) xs := rfl
  rw [e, maskFrom_bit hv xs]
  unfold orV
  by_cases ht : isVarB t = true
  ·have hb : -4 <= t /\ t <= -1 := by simpa [isVarB] using ht
   rw [if_pos ht, Nat.testBit_or, Nat.testBit_two_pow]
   simp only [Bool.or_eq_true, decide_eq_true_eq, List.mem_cons]
   constructor
   ·rintro ((h | h) | h)
    ·exact .inl h
    ·exact .inr (.inl (by omega))
    ·exact .inr (.inr h)
   ·rintro (h | h | h)
    ·exact .inl (.inl h)
    ·exact .inl (.inr (by omega))
    ·exact .inr h
  ·have hb : ¬ (-4 <= t /\ t <= -1) := by simpa [isVarB] using ht
   rw [if_neg ht, List.mem_cons]
   constructor
   ·rintro (h | h)
    ·exact .inl h
    ·exact .inr (.inr h)
   ·rintro (h | h | h)
    ·exact .inl h
    ·omega
    ·exact .inr h
theorem maskOf_bit {v : Nat} (hv : v < 4) (xs : List Int) : (maskOf xs).testBit v = true <-> (-1 - (v : Int)) ∈ xs := by
 unfold maskOf
 rw [maskFrom_bit hv]
 simp
theorem term_cases {t : Int} (h : termOk t = true) : (0 <= t /\ t <= 5) \/ ∃ v : Nat, v < 4 /\ t = -1 - (v : Int) := by
 have := termOk_at h
 rcases Int.lt_or_le t 0 with h0 | h0
 ·exact .inr ⟨(-1 - t).toNat, by omega, by omega⟩
 ·exact .inl ⟨h0, this.2⟩
theorem termVal_v (b : List Int) (v : Nat) : termVal b (-1 - (v : Int)) = b.getD v (-1) := by
 rw [termVal_var (by omega)]
 congr 1
 omega
theorem termVal_same {b c : List Int} {t : Int} (h : termOk t = true) (e : ∀ v : Nat, v < 4 -> t = -1 - (v : Int) -> b.getD v (-1) = c.getD v (-1)) : termVal b t = termVal c t := by
 rcases term_cases h with h0 | ⟨v, hv, rfl⟩
 ·rw [termVal_const h0.1, termVal_const h0.1]
 ·rw [termVal_v, termVal_v]
  exact e v hv rfl
theorem orV_const {m : Nat} {t : Int} (h : 0 <= t) : orV m t = m := by
 unfold orV
 rw [if_neg]
 simp [isVarB]
 omega
theorem orV_var {m v : Nat} (hv : v < 4) : orV m (-1 - (v : Int)) = m ||| 2 ^ v := by
 unfold orV
 rw [if_pos (by simp [isVarB]; omega)]
 congr 2
 omega
theorem or_bit (m v u : Nat) : (m ||| 2 ^ v).testBit u = true <-> m.testBit u = true \/ v = u := by
 rw [Nat.testBit_or, Nat.testBit_two_pow]
 simp
theorem restr_dom {b : List Int} {K M : Nat} (h : DomB b K) (hs : ∀ v, v < 4 -> M.testBit v = true -> K.testBit v = true) : DomB (restr M b) M := fun v hv => by
 rw [restr_at hv]
 by_cases e : M.testBit v = true
 ·rw [if_pos e]
  exact ⟨fun _ => e, fun _ => (h v hv).2 (hs v hv e)⟩
 ·rw [if_neg e]
  exact ⟨fun h => absurd rfl h, fun h => absurd h e⟩
theorem restr_all {b : List Int} {K : Nat} (hb : bindOk b = true) (h : DomB b K) : restr K b = b := by
 refine bind_ext (restr_ok hb K) hb fun v hv => ?_
 rw [restr_at hv]
 by_cases e : K.testBit v = true
 ·rw [if_pos e]
 ·rw [if_neg e]
  rcases Decidable.em (b.getD v (-1) = -1) with h2 | h2
  ·exact h2.symm
  ·exact absurd ((h v hv).1 h2) e
theorem matchTo_iff {xs ys : List Int} (hl : xs.length = ys.length) (hx : xs.all termOk = true) (hy : ys.all constOk = true) : ∀ (k : Nat) (_hk : k <= xs.length) (b : List Int), matchTo noneB xs ys k = some b <->
 (bindOk b = true /\ DomB b (maskOf (xs.take k)) /\ ∀ i (h : i < xs.length) (h2 : i < ys.length), i < k -> termVal b xs[i] = ys[i])
 | 0, hk, b => by
  constructor
  ·intro h
   injection h with h
   subst h
   refine ⟨noneB_ok, fun v hv => ?_, fun i _ _ h => absurd h (by omega)⟩
   have : (maskOf (xs.take 0)).testBit v = false := by simp [maskOf, maskFrom]
   rw [this]
   match v, hv with
   | 0, _ => simp [noneB]
   | 1, _ => simp [noneB]
   | 2, _ => simp [noneB]
   | 3, _ => simp [noneB]
  ·rintro ⟨hb, hd, _⟩
   show some noneB = some b
   congr 1
   refine bind_ext noneB_ok hb fun v hv => ?_
   have h0 : (maskOf (xs.take 0)).testBit v = false := by simp [maskOf, maskFrom]
   have := hd v hv
   rw [h0] at this
   have hbv : b.getD v (-1) = -1 := by
    rcases Decidable.em (b.getD v (-1) = -1) with h2 | h2
    ·exact h2
    ·exact absurd (this.1 h2) (by simp)
   rw [hbv]
   match v, hv with
   | 0, _ => rfl
   | 1, _ => rfl
   | 2, _ => rfl
   | 3, _ => rfl
 | k + 1, hk, b => by
  have hkx : k < xs.length := by omega
  have hky : k < ys.length := by omega
  have ih := matchTo_iff hl hx hy k (by omega)
  have hM := maskOf_take hkx
  have hxk : termOk xs[k] = true := List.all_eq_true.1 hx _ (List.getElem_mem hkx)
  have hyk : 0 <= ys[k] /\ ys[k] <= 5 := by simpa [constOk] using List.all_eq_true.1 hy _ (List.getElem_mem hky)
  obtain ⟨M, hMM⟩ : ∃ M, M = maskOf (xs.take k) := ⟨_, rfl⟩
  rw [<- hMM] at hM ih
  rw [hM]
  have hin : ∀ (i : Nat) (h : i < xs.length) (v : Nat), i < k -> v < 4 -> xs[i] = -1 - (v : Int) -> M.testBit v = true := fun i h v hik hv e => by
   rw [hMM, maskOf_bit hv, <- e]
   exact List.mem_take_iff_getElem.2 ⟨i, by omega, rfl⟩
  constructor
  ·intro h
   cases h0 : matchTo noneB xs ys k with
   | none => rw [matchTo_none h0 (k + 1) (by omega)] at h; cases h
   | some b0 =>
    rw [matchTo_step h0 hkx hky] at h
    obtain ⟨hb0, hd0, hv0⟩ := (ih b0).1 h0
    unfold stepM at h
    split at h
    ·rename_i e
     injection h with h
     subst h
     refine ⟨hb0, ?_, fun i h1 h2 hik => ?_⟩
     ·rcases term_cases hxk with h0 | ⟨v, hv, hxv⟩
      ·rw [orV_const h0.1]
       exact hd0
      ·rw [hxv, orV_var hv]
       intro u hu
       rw [or_bit, hd0 u hu]
       constructor
       ·exact fun h => .inl h
       ·rintro (h | rfl)
        ·exact h
        ·refine (hd0 v hv).1 ?_
         rw [hxv, termVal_v] at e
         omega
     ·by_cases ei : i = k
      ·subst ei
       exact e
      ·exact hv0 i h1 h2 (by omega)
    ·split at h
     ·rename_i e1 e2
      injection h with h
      rcases term_cases hxk with h0 | ⟨v, hv, hxv⟩
      ·rw [termVal_const h0.1] at e2
       omega
      ·rw [hxv, termVal_v] at e2
       have hj : (-1 - xs[k]).toNat = v := by omega
       rw [hj] at h
       have hl4 := bindOk_len hb0
       have hset : ∀ u, u < 4 -> b.getD u (-1) = if u = v then ys[k] else b0.getD u (-1) := fun u hu => by
        rw [<- h]
        simp only [List.getD_eq_getElem?_getD, List.getElem?_set]
        by_cases euv : v = u
        ·subst euv
         simp [hl4, hv]
        ·rw [if_neg euv, if_neg (fun e => euv e.symm)]
       refine ⟨by rw [<- h]; exact bindOk_set hb0 (by omega) _, fun u hu => ?_, fun i h1 h2 hik => ?_⟩
       ·rw [hxv, orV_var hv, or_bit, hset u hu]
        by_cases euv : u = v
        ·subst euv
         simp
         omega
        ·rw [if_neg euv, hd0 u hu]
         constructor
         ·exact fun h => .inl h
         ·rintro (h | h)
          ·exact h
          ·exact absurd h.symm euv
       ·by_cases ei : i = k
        ·subst ei
         rw [hxv, termVal_v, hset v hv, if_pos rfl]
        ·have hik' : i < k := by omega
         rw [<- hv0 i h1 h2 hik']
         refine termVal_same (List.all_eq_true.1 hx _ (List.getElem_mem h1)) fun u hu eu => ?_
         rw [hset u hu, if_neg]
         rintro rfl
         have := (hd0 u hu).2 (hin i h1 u hik' hu eu)
         exact this e2
     ·cases h
  ·rintro ⟨hb, hd, hv⟩
   have hMK : ∀ v, v < 4 -> M.testBit v = true -> (orV M xs[k]).testBit v = true := fun v hv h => by
    rcases term_cases hxk with h0 | ⟨u, hu, hxu⟩
    ·rw [orV_const h0.1]; exact h
    ·rw [hxu, orV_var hu, or_bit]; exact .inl h
   have h0 : matchTo noneB xs ys k = some (restr M b) := by
    refine (ih _).2 ⟨restr_ok hb M, restr_dom hd hMK, fun i h1 h2 hik => ?_⟩
    rw [<- hv i h1 h2 (by omega)]
    refine termVal_same (List.all_eq_true.1 hx _ (List.getElem_mem h1)) fun u hu eu => ?_
    rw [restr_at hu, if_pos (hin i h1 u hik hu eu)]
   rw [matchTo_step h0 hkx hky]
   have hvk := hv k hkx hky (by omega)
   rcases term_cases hxk with h0c | ⟨v, hv4, hxv⟩
   ·rw [orV_const h0c.1] at hd
    rw [restr_all hb hd]
    exact stepM_same hvk
   ·rw [hxv, orV_var hv4] at hd
    rw [hxv, termVal_v] at hvk
    rw [hxv]
    by_cases hMv : M.testBit v = true
    ·have hd2 : DomB b M := fun u hu => by
      rw [hd u hu, or_bit]
      constructor
      ·rintro (h | rfl)
       ·exact h
       ·exact hMv
      ·exact fun h => .inl h
     rw [restr_all hb hd2]
     exact stepM_same (by rw [termVal_v]; exact hvk)
    ·have hr : termVal (restr M b) (-1 - (v : Int)) = -1 := by rw [termVal_v, restr_at hv4, if_neg hMv]
     rw [stepM_new hr (by omega), show (-1 - (-1 - (v : Int))).toNat = v by omega]
     congr 1
     refine bind_ext (bindOk_set (restr_ok hb M) (by omega) _) hb fun u hu => ?_
     have hl4 := bindOk_len (restr_ok hb M)
     simp only [List.getD_eq_getElem?_getD, List.getElem?_set]
     by_cases euv : v = u
     ·subst euv
      simp only [List.getD_eq_getElem?_getD] at hvk
      simp [hl4, hv4, hvk]
     ·rw [if_neg euv, <- List.getD_eq_getElem?_getD, <- List.getD_eq_getElem?_getD, restr_at hu]
      by_cases hMu : M.testBit u = true
      ·rw [if_pos hMu]
      ·rw [if_neg hMu]
       rcases Decidable.em (b.getD u (-1) = -1) with h2 | h2
       ·exact h2.symm
       ·have := (hd u hu).1 h2
        rw [or_bit] at this
        rcases this with h | h
        ·exact absurd h hMu
        ·exact absurd h euv
theorem matchL_iff {a f : LFact} (ha : a.2.all termOk = true) (hf : f.2.all constOk = true) (b : List Int) : matchL a f noneB = some b <-> bindOk b = true /\ DomB b (maskOf a.2) /\ f = (a.1, a.2.map (termVal b)) := by
 by_cases h1 : a.1 = f.1
 ·by_cases h2 : a.2.length = f.2.length
  ·rw [matchL_eq h1 h2, matchTo_iff h2 ha hf a.2.length (Nat.le_refl _) b, List.take_length]
   refine and_congr_right fun _ => and_congr_right fun _ => ?_
   constructor
   ·intro h
    refine Prod.ext h1.symm (List.ext_getElem (by simp [h2]) fun i i1 i2 => ?_)
    simp at i2
    simpa using (h i i2 i1 i2).symm
   ·intro h i i1 i2 _
    have e : f.2 = a.2.map (termVal b) := by rw [h]
    have := List.getElem_of_eq e i2
    simpa using this.symm
  ·rw [matchL_len h2]
   constructor
   ·intro h; cases h
   ·rintro ⟨_, _, e⟩
    exact absurd (by rw [e]; simp) h2
 ·rw [matchL_pred h1]
  constructor
  ·intro h; cases h
  ·rintro ⟨_, _, e⟩
   exact absurd (by rw [e]) h1
open Go.Sort
section
variable {α : Type} [Inhabited α] (lt : α -> α -> Bool)
theorem insStep {a j : Nat} {d : Array α} (hj : a < j) (hl : lt d[j]! d[j - 1]! = true) : insInner lt a j d = insInner lt a (j - 1) (Sort.swp d j (j - 1)) := by
 cases j with
 | zero => omega
 | succ k =>
  simp only [Nat.add_sub_cancel] at hl ⊢
  rw [insInner, if_pos (by simp [hj, hl])]
theorem insDone {a j : Nat} {d : Array α} (h : a < j -> lt d[j]! d[j - 1]! = false) : insInner lt a j d = d := by
 cases j with
 | zero => rw [insInner]
 | succ k =>
  rw [insInner]
  by_cases hj : a < k + 1
  ·have := h hj
   simp only [Nat.add_sub_cancel] at this
   rw [if_neg (by simp [this])]
  ·rw [if_neg (by simp; omega)]
def kid (d : Array α) (hi first root : Nat) : Nat := if (decide (2 * root + 2 < hi) && lt d[first + (2 * root + 1)]! d[first + (2 * root + 2)]!) = true then 2 * root + 2 else 2 * root + 1
theorem kid_lt {d : Array α} {hi first root : Nat} (h : 2 * root + 1 < hi) : kid lt d hi first root < hi /\ root < kid lt d hi first root := by
 unfold kid
 split
 ·rename_i e
  simp at e
  omega
 ·omega
theorem siftEnd {d : Array α} {hi first root : Nat} (h : ¬ 2 * root + 1 < hi) : siftDown lt hi first root d = d := by
 rw [siftDown, dif_pos (by omega)]
theorem siftStop {d : Array α} {hi first root : Nat} (h : 2 * root + 1 < hi) (hl : lt d[first + root]! d[first + kid lt d hi first root]! = false) : siftDown lt hi first root d = d := by
 unfold kid at hl
 rw [siftDown, dif_neg (by omega)]
 split at hl
 ·rename_i e
  rw [if_pos (by exact e), if_pos (by rw [hl]; rfl)]
 ·rename_i e
  rw [if_neg (by exact e), if_pos (by rw [hl]; rfl)]
theorem siftStep {d : Array α} {hi first root : Nat} (h : 2 * root + 1 < hi) (hl : lt d[first + root]! d[first + kid lt d hi first root]! = true) :
 siftDown lt hi first root d = siftDown lt hi first (kid lt d hi first root) (Sort.swp d (first + root) (first + kid lt d hi first root)) := by
 unfold kid at hl ⊢
 rw [siftDown, dif_neg (by omega)]
 split at hl
 ·rename_i e
  have e2 : 2 * root + 2 < hi := by simp at e; omega
  rw [if_pos (by exact e), if_neg (by rw [hl]; decide), dif_pos e2, if_pos e]
 ·rename_i e
  rw [if_neg (by exact e), if_neg (by rw [hl]; decide), if_neg e]
theorem upStep {p : α -> Bool} {d : Array α} {j i : Nat} (h : i <= j) (hp : p d[i]! = true) : scanUp p d j i = scanUp p d j (i + 1) := by rw [scanUp, if_pos (by simp [h, hp])]
theorem upDone {p : α -> Bool} {d : Array α} {j i : Nat} (h : i <= j -> p d[i]! = false) : scanUp p d j i = i := by
 rw [scanUp, if_neg]
 intro hc
 simp at hc
 rw [h hc.1] at hc
 exact absurd hc.2 (by simp)
theorem downStep {p : α -> Bool} {d : Array α} {j i : Nat} (h : i <= j) (h0 : 0 < j) (hp : p d[j]! = true) : scanDown p d i j = scanDown p d i (j - 1) := by
 cases j with
 | zero => omega
 | succ k => rw [scanDown, if_pos (by simp [h, hp]), Nat.add_sub_cancel]
theorem downDone {p : α -> Bool} {d : Array α} {j i : Nat} (h : i <= j -> p d[j]! = false) : scanDown p d i j = j := by
 cases j with
 | zero => rfl
 | succ k =>
  rw [scanDown, if_neg]
  intro hc
  simp at hc
  rw [h hc.1] at hc
  exact absurd hc.2 (by simp)
theorem scans_apart (p q : α -> Bool) (hq : ∀ x, q x = !p x) {d : Array α} {i j i2 j2 : Nat} (hi2 : scanUp p d j i = i2) (hj2 : scanDown q d i2 j = j2) (h : i2 <= j2) (h0 : 0 < i2) : i2 < j2 := by
 obtain ⟨u1, u2, u3, u4⟩ := scanUp_spec p d j _ i rfl
 obtain ⟨v1, v2, v3, v4⟩ := scanDown_spec q d i2 j
 rw [hi2] at u4
 rw [hj2] at v1 v4
 rcases Nat.lt_or_ge i2 j2 with hlt | hge
 ·exact hlt
 ·exfalso
  have e : j2 = i2 := by omega
  have f1 := u4 (by omega)
  have f2 := v4 h (by omega)
  rw [e, hq, f1] at f2
  cases f2
end
open Go.RowKit Go.Sort
def URow (w : World) (g o c : Nat) (d : Array Int) : Prop :=
 ∃ cur, w.heap[g]? = some (.cells cur 180 (0, 0)) /\ cur.size = c /\ ∀ j, j < d.size -> cur[o + j]? = some (.int .u32 d[j]!)
section
variable {w w' : World} {g o c lo hi : Nat} {d : Array Int}
theorem URow.lt (h : URow w g o c d) : g < w.heap.size := by
 obtain ⟨cur, hg, _⟩ := h
 exact Blk.lt hg
theorem URow.cell (h : URow w g o c d) {j : Nat} (hj : j < d.size) : w.cell? ⟨g, o + j, none⟩ = some (.int .u32 d[j]!) := by
 obtain ⟨cur, hg, _, hc⟩ := h
 rw [Blk.cell hg, hc j hj]
theorem URow.frozen (h : URow w g o c d) (j : Nat) : w.frozen? ⟨g, j, none⟩ = false := by
 obtain ⟨cur, hg, _⟩ := h
 exact Blk.frozen hg j
theorem URow.set (h : URow w g o c d) {i : Nat} (hi : i < d.size) (x : Int) : URow (w.setCell ⟨g, o + i, none⟩ (.int .u32 x)) g o c (d.setIfInBounds i x) := by
 obtain ⟨cur, hg, h1, hc⟩ := h
 refine ⟨cur.setIfInBounds (o + i) (.int .u32 x), Blk.set_ hg (o + i) _, by simpa using h1, fun j hj => ?_⟩
 have hj' : j < d.size := by simpa using hj
 by_cases e : i = j
 ·subst e
  have hin : o + i < cur.size := by
   rcases Nat.lt_or_ge (o + i) cur.size with h | h
   ·exact h
   ·have := hc i hi
    rw [Array.getElem?_eq_none h] at this
    cases this
  rw [Array.getElem?_setIfInBounds, if_pos rfl, if_pos hin, getElem!_pos (d.setIfInBounds i x) i hj]
  simp
 ·rw [Array.getElem?_setIfInBounds, if_neg (by omega), hc j hj', getElem!_pos (d.setIfInBounds i x) j hj, getElem!_pos d j hj', Array.getElem_setIfInBounds, if_neg e]
theorem URow.swp (h : URow w g o c d) {i j : Nat} (hi : i < d.size) (hj : j < d.size) : URow ((w.setCell ⟨g, o + i, none⟩ (.int .u32 d[j]!)).setCell ⟨g, o + j, none⟩ (.int .u32 d[i]!)) g o c (Sort.swp d i j) :=
 (h.set hi _).set (by simpa using hj) _
theorem URow.only (h : URow w g o c d) (ho : Only lo hi w w') (hd : g < lo \/ hi <= g) : URow w' g o c d := by
 obtain ⟨cur, hg, r⟩ := h
 exact ⟨cur, (ho.block g (Blk.lt hg) hd).trans hg, r⟩
theorem URow.below {B : Nat} (h : URow w g o c d) (hb : Below B w w') (hg : g < B) : URow w' g o c d := by
 obtain ⟨cur, e, r⟩ := h
 exact ⟨cur, (hb.block g hg).trans e, r⟩
theorem Only.drew' (h : Only lo hi w w') : Only lo hi w w'.drew := ⟨h.os, h.tape, h.output, h.size, h.block⟩
theorem Only.drewN' (h : Only lo hi w w') (n : Nat) : Only lo hi w (w'.drewN n) := ⟨h.os, h.tape, h.output, h.size, h.block⟩
end
structure At (w : World) (g o c n : Nat) (wr : World) (dk : Array Int) : Prop where
 row : URow wr g o c dk
 size : dk.size = n
 only : Only g (g + 1) w wr
section
variable {w wr wr2 : World} {g o c n i j : Nat} {d dk : Array Int}
theorem At.start (h : URow w g o c d) (hn : d.size = n) : At w g o c n w d := ⟨h, hn, Only.refl _ _ _⟩
theorem At.drewN (h : At w g o c n wr dk) (m : Nat) : At w g o c n (wr.drewN m) dk := ⟨h.row, h.size, h.only.drewN' m⟩
theorem At.drew (h : At w g o c n wr dk) : At w g o c n wr.drew dk := ⟨h.row, h.size, h.only.drew'⟩
theorem At.then_ {d2 : Array Int} (h : At w g o c n wr dk) (k : At wr g o c n wr2 d2) : At w g o c n wr2 d2 := ⟨k.row, k.size, h.only.trans k.only⟩
theorem At.aside {lo hi : Nat} (h : At w g o c n wr dk) (k : Only lo hi wr wr2) (hlo : w.heap.size <= lo) (hg : g < lo) : At w g o c n wr2 dk :=
 ⟨h.row.only k (.inl hg), h.size, k.os.trans h.only.os, k.tape.trans h.only.tape, k.output.trans h.only.output, Nat.le_trans h.only.size k.size,
   fun i hi' ho => (k.block i (Nat.lt_of_lt_of_le hi' h.only.size) (.inl (by omega))).trans (h.only.block i hi' ho)⟩
theorem At.lt (h : At w g o c n wr dk) : g < wr.heap.size := h.row.lt
theorem At.swp (h : At w g o c n wr dk) (hi : i < n) (hj : j < n) {x y : Value} (hx : x = .int .u32 dk[j]!) (hy : y = .int .u32 dk[i]!) :
 At w g o c n ((wr.setCell ⟨g, o + i, none⟩ x).setCell ⟨g, o + j, none⟩ y) (Sort.swp dk i j) := by
 subst hx hy
 exact ⟨h.row.swp (by have := h.size; omega) (by have := h.size; omega), by rw [Sort.size_swp]; exact h.size,
  Only.setCell (p := ⟨g, o + j, none⟩) (Only.setCell (p := ⟨g, o + i, none⟩) h.only ⟨Nat.le_refl _, Nat.lt_succ_self _⟩ _) ⟨Nat.le_refl _, Nat.lt_succ_self _⟩ _⟩
theorem At.fam (h : At w g o c n wr dk) : ∃ G : Nat -> Int, Hid (∀ t, G t = dk[t]!) /\ (∀ t, t < n -> wr.cell? ⟨g, o + t, none⟩ = some (.int .u32 (G t))) /\ (∀ t, t < n -> wr.frozen? ⟨g, o + t, none⟩ = false) :=
 ⟨fun t => dk[t]!, Lib.hid (fun _ => rfl), fun t ht => h.row.cell (by have := h.size; omega), fun t _ => h.row.frozen _⟩
theorem At.still (h : At w g o c n wr dk) (hj : j < n) (p : Addr) (x : Value) : ∃ v, (wr.setCell p x).cell? ⟨g, o + j, none⟩ = some v :=
 cell?_setCell_some (h.row.cell (by have := h.size; omega))
end
theorem cmpLess_any (x y : Int) (w : World) :
 Calls Tryz.prog 297 #[.int .u32 x, .int .u32 y] w fun e w' => e = .returned (.bool (ltInt x y)) /\ w' = w := by
 go_enter Tryz.func297, Tryz.ntmps297
 go_wp2
 go_ret
 simp [ltInt]
open Go.RowKit Go.Sort
set_option maxHeartbeats 8000000 in
set_option maxRecDepth 100000 in
theorem insertU (g o c cap n a b : Nat) (d : Array Int) (w : World) (hu : URow w g o c d) (hn : d.size = n) (hab : a <= b) (hb : b <= n) (hsz : n < 4611686018427387904) :
 Calls Tryz.prog 307 #[.slice (some ⟨g, o, none⟩) n cap, .int .i64 a, .int .i64 b] w fun e w' =>
  e = .returned (.tuple #[]) /\ At w g o c n w' (insertionSort ltInt d a b) := by
 have A0 := At.start hu hn
 have HA := Lib.hid A0
 clear hu A0 hn
 go_enter Tryz.func307, Tryz.ntmps307
 go_wp2
 go_loopw [6] (fun vi wr => ∃ (i : Nat) (dk : Array Int), vi = .int .i64 i /\ a < i /\ At w g o c n wr dk /\ Hid (insOuter ltInt a b i dk = insertionSort ltInt d a b)) (fun vi _ => b - (intOf vi).toNat)
 case atStart => exact ⟨a + 1, d, by go_num, by omega, HA.out, Lib.hid rfl⟩
 case round =>
  obtain ⟨i, dk, rfl, hai, K, HE⟩ := hrel
  by_cases hib : i < b
  ·go_wp2
   go_loopw [7] (fun vj wr2 => ∃ (j : Nat) (dj : Array Int), vj = .int .i64 j /\ j <= i /\ At w g o c n wr2 dj /\ Hid (insInner ltInt a j dj = insInner ltInt a i dk)) (fun vj _ => (intOf vj).toNat)
   case atStart => exact ⟨i, dk, rfl, Nat.le_refl _, K, Lib.hid rfl⟩
   case round =>
    obtain ⟨j, dj, rfl, hji, KJ, HJ⟩ := hrel
    obtain ⟨G, HG, hc, hf⟩ := KJ.fam
    have HN := Lib.hid (show insInner ltInt a j dj = dj -> insOuter ltInt a b (i + 1) dj = insertionSort ltInt d a b from fun e => by
     rw [<- HE.out, insOuter.eq_def ltInt a b i dk, if_pos hib, <- HJ.out, e])
    by_cases hja : a < j
    ·go_wp2_with (fail)
     go_big_quiet (first | (go_at_call 297; refine Calls.quiet_of_same (cmpLess_any _ _ _)))
     go_wp2
     ·have hl : ltInt (G j) (G (j - 1)) = true := by assumption
      have KQ := Lib.hid (KJ.drewN nq)
      obtain ⟨v', hy'⟩ := KQ.out.still (j := j - 1) (by omega) ⟨g, o + j, none⟩ (.int .u32 (G (j - 1)))
      go_region
      all_goals go_wp2
      go_roundw
      case rel => exact ⟨j - 1, Sort.swp dj j (j - 1), by congr 1; omega, by omega, (KQ.out.swp (by omega) (by omega) (by rw [HG.out]) (by rw [HG.out])).drew, Lib.hid (by rw [<- HJ.out, insStep ltInt hja (by rw [<- HG.out, <- HG.out]; exact hl)])⟩
      case measure => simp [intOf]; omega
     ·have hl : ltInt (G j) (G (j - 1)) = false := by assumption
      have hnext := HN.out (insDone ltInt (fun _ => by rw [<- HG.out, <- HG.out]; exact hl))
      have HX := Lib.hid hnext
      clear hnext
      go_roundw
      case rel => exact ⟨i + 1, dj, by go_num, by omega, KJ.drewN nq, HX⟩
      case measure => simp [intOf]; omega
    ·have HX := Lib.hid (HN.out (insDone ltInt (fun e => absurd e hja)))
     go_wp2_with (fail)
     go_big_quiet (fail)
     go_wp2
     go_roundw
     case rel => exact ⟨i + 1, dj, by go_num, by omega, KJ.drewN nq, HX⟩
     case measure => simp [intOf]; omega
  ·go_wp2
   go_end0
   refine ⟨rfl, ?_⟩
   rw [<- HE.out, insOuter.eq_def, if_neg hib]
   exact K
end Go.Proofs.YtmnolnmpglanfaaGreatDoor
