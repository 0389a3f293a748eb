/-
  The specification's HeadOf.
-/
import Derived.Test.YtehjhdihaloalaaHeadP
import Derived.Test.YtehjhdihaloalaaSpecB
import Derived.Test.YtehjhdihaloalaaBodySafe
namespace Go.Proofs.Ytehjhdihaloalaa
open Go.RowKit

theorem zeroI (w : World) (lo hi : Nat) : OwnInts w lo hi (.slice none 0 0) [] := ⟨World.ownsRow_nil _ _ _ _, fun g hg => by cases hg⟩

set_option maxHeartbeats 2000000 in
set_option maxRecDepth 100000 in
theorem specHeadOf_any (v v2 : Value) (a : LFact) (bs : List Int) (w : World) (h : RdFact w w.heap.size v a) (h2 : RdInts w w.heap.size v2 bs) (hr : a.2.length ≤ 1048576) (hr2 : bs.length ≤ 1048576) :
    Calls Try.prog 55 #[v, v2] w fun e w' => ∃ A' c', e = .returned (.tuple #[.agg #[.int .i64 (headOf a bs).1, .slice A' (headOf a bs).2.length c'], .bool (headOk a bs)]) ∧ OwnInts w' w.heap.size w'.heap.size (.slice A' (headOf a bs).2.length c') (headOf a bs).2 ∧ Below w.heap.size w w' := by
  obtain ⟨i0, hi0, hz0, hz1, hz2⟩ := info_parts Try.infoInt
  obtain ⟨u, rfl, h⟩ := h
  have H := Lib.hid h
  have H2 := Lib.hid h2
  obtain ⟨A, c, rfl, hc, _⟩ := h
  obtain ⟨A2, c2, rfl, hc2, _⟩ := h2
  obtain ⟨F, hF⟩ : ∃ F, F = headOf a bs := ⟨_, rfl⟩
  obtain ⟨ok, hok⟩ : ∃ ok, ok = headOk a bs := ⟨_, rfl⟩
  rw [← hF, ← hok]
  have HF := Lib.hid hF
  have HK := Lib.hid hok
  clear hF hok
  -- the worlds ahead
  have X0 : ∀ T1 c1 T2 c2, Blk ((w.alloc (Obj.cells c1 T1)).alloc (Obj.cells c2 T2)) w.heap.size T1 c1 := fun T1 c1 T2 c2 => (Blk.new w T1 c1).alloc _
  have X1 : ∀ o T2 c2, Blk ((w.alloc o).alloc (Obj.cells c2 T2)) (w.heap.size + 1) T2 c2 := fun o T2 c2 => by simpa using Blk.new (w.alloc o) T2 c2
  by_cases hb : bindOk bs = true
  · have L1 := Lib.hid (fun W (hW : Below w.heap.size w W) => l3Bind_is hb (.slice A2 bs.length c2) w.heap.size W (H2.out.below hW (Nat.le_refl _)) hr2)
    by_cases ht : a.2.all termOk = true
    · have L2 := Lib.hid (fun W (hW : Below w.heap.size w W) => l2Terms_is ht (.slice A a.2.length c) w.heap.size W (H.out.below hW (Nat.le_refl _)) hr)
      have HB4 := Lib.hid (bindOk_len hb)
      have HB := Lib.hid hb
      have HT := Lib.hid ht
      have HTK := Lib.hid (show ∀ k (hk : k < a.2.length), termOk a.2[k] = true ∧ -1 ≤ termVal bs a.2[k] ∧ termVal bs a.2[k] ≤ 5 from fun k hk => by
        have := List.all_eq_true.1 ht _ (List.getElem_mem hk)
        exact ⟨this, termVal_bounds hb this⟩)
      obtain ⟨ys, hys⟩ : ∃ ys, ys = a.2.map (termVal bs) := ⟨_, rfl⟩
      have HY := Lib.hid hys
      have HYL := Lib.hid (show ys.length = a.2.length by rw [hys]; simp)
      have HYK := Lib.hid (show ∀ k (hk : k < a.2.length), ys.take (k + 1) = ys.take k ++ [termVal bs a.2[k]] from fun k hk => by
        rw [take_snoc ys k (by rw [hys]; simpa using hk)]
        simp [hys])
      clear hb ht hys
      go_enter Try.func55, Try.ntmps55
      go_wp2_with (fail)
      have x0 := X0 49 #[.int .i64 a.1, .slice A a.2.length c] 28 #[.int .i64 0, .slice none 0 0]
      have x1 := X1 (Obj.cells #[.int .i64 a.1, .slice A a.2.length c] 49) 28 #[.int .i64 0, .slice none 0 0]
      obtain ⟨w2, hw2⟩ : ∃ w2, w2 = ((w.alloc (Obj.cells #[Value.int IntKind.i64 a.1, Value.slice A a.2.length c] 49)).alloc (Obj.cells #[Value.int IntKind.i64 0, Value.slice none 0 0] 28)) := ⟨_, rfl⟩
      have B2 : Below w.heap.size w w2 := by rw [hw2]; exact below2 _ _ _
      have hs2 : w.heap.size + 1 < w2.heap.size := by rw [hw2]; simp
      rw [← hw2] at x0 x1 ⊢
      clear hw2 X0 X1
      have q00 : w2.cell? ⟨w.heap.size, 0, none⟩ = some (.int .i64 a.1) := x0.cell 0
      have q01 : w2.cell? ⟨w.heap.size, 1, none⟩ = some (.slice A a.2.length c) := x0.cell 1
      refine (L1.out _ B2).mono ?_
      rintro e w' ⟨rfl, rfl⟩
      go_wp2_with (fail)
      refine (L2.out _ B2).mono ?_
      rintro e w' ⟨rfl, rfl⟩
      go_wp2_with (fail)
      have x2 : Blk (w2.alloc (Obj.cells #[Value.int IntKind.i64 a.1, Value.slice none 0 0] 28)) w2.heap.size 28 #[.int .i64 a.1, .slice none 0 0] := Blk.new _ _ _
      have R0 : Below w.heap.size w (w2.alloc (Obj.cells #[Value.int IntKind.i64 a.1, Value.slice none 0 0] 28)) ∧ Blk (w2.alloc (Obj.cells #[Value.int IntKind.i64 a.1, Value.slice none 0 0] 28)) w.heap.size 49 #[.int .i64 a.1, .slice A a.2.length c] ∧ Blk (w2.alloc (Obj.cells #[Value.int IntKind.i64 a.1, Value.slice none 0 0] 28)) (w.heap.size + 1) 28 #[.int .i64 0, .slice none 0 0] := ⟨bthen B2 (below1 _ _), x0.alloc _, x1.alloc _⟩
      clear x0 x1 q00 q01
      go_loopw [7, 8] (fun i _ wr => ∃ (k : Nat) (A' : Option Addr) (c' : Nat), k ≤ a.2.length ∧ i = .int .i64 k ∧ (ys.take k).all constOk = true ∧ OwnInts wr (w2.heap.size + 1) wr.heap.size (.slice A' (ys.take k).length c') (ys.take k) ∧
          Blk wr w2.heap.size 28 #[.int .i64 a.1, .slice A' (ys.take k).length c'] ∧ (Below w.heap.size w wr ∧ Blk wr w.heap.size 49 #[.int .i64 a.1, .slice A a.2.length c] ∧ Blk wr (w.heap.size + 1) 28 #[.int .i64 0, .slice none 0 0])) (fun i _ _ => a.2.length - (intOf i).toNat)
      case atStart => exact ⟨0, none, 0, Nat.zero_le _, rfl, rfl, zeroI _ _ _, x2, R0⟩
      case round =>
        obtain ⟨k, A', c', hk, rfl, hs, ho, y2, hbe, y0, y1⟩ := hrel
        have hln : (ys.take k).length ≤ k := by simp; omega
        have q00 : wr.cell? ⟨w.heap.size, 0, none⟩ = some (.int .i64 a.1) := y0.cell 0
        have q01 : wr.cell? ⟨w.heap.size, 1, none⟩ = some (.slice A a.2.length c) := y0.cell 1
        by_cases hlt : k < a.2.length
        · have hre := H.out.below hbe (Nat.le_refl _)
          obtain ⟨A3, c3, e3, _, hx⟩ := hre
          injection e3 with e3 _ e4
          subst e3 e4
          obtain ⟨b, o, rfl, hbB, hx⟩ := hx (by omega)
          have hck : wr.cell? ⟨b, o + k, none⟩ = some (.int .i64 a.2[k]) := hx k hlt
          obtain ⟨htk, htl, hth⟩ := HTK.out k hlt
          have T1 := Lib.hid (l3Term_any (.slice A2 bs.length c2) bs a.2[k] w.heap.size wr (H2.out.below hbe (Nat.le_refl _)) HB4.out htk)
          have HS := Lib.hid (HYK.out k hlt)
          clear hx
          obtain ⟨zs, hzs⟩ : ∃ zs, zs = ys.take k := ⟨_, rfl⟩
          rw [← hzs] at ho hln y2 hs
          have HZ := Lib.hid hzs
          clear hzs
          obtain ⟨t, htv⟩ : ∃ t, t = termVal bs a.2[k] := ⟨_, rfl⟩
          rw [← htv] at T1 HS htl hth
          have HTV := Lib.hid htv
          clear htv htk
          have HP := Lib.hid (And.intro ho (And.intro hbe (And.intro y0 (And.intro y1 y2))))
          have c20 : wr.cell? ⟨w2.heap.size, 0, none⟩ = some (.int .i64 a.1) := y2.cell 0
          have c21 : wr.cell? ⟨w2.heap.size, 1, none⟩ = some (.slice A' zs.length c') := y2.cell 1
          have c10 : wr.cell? ⟨w.heap.size + 1, 0, none⟩ = some (.int .i64 0) := y1.cell 0
          have c11 : wr.cell? ⟨w.heap.size + 1, 1, none⟩ = some (.slice none 0 0) := y1.cell 1
          have f10 := y1.frozen 0
          have f11 := y1.frozen 1
          clear ho y0 y1 y2
          by_cases h0 : t < 0
          · have HN := Lib.hid (show ok = false ∧ F = (0, []) by
              have hno : headOk a bs = false := headOk_vals (all_not (k := k) (by simpa using hlt) (by
                have := HTV.out
                simp [constOk]
                omega))
              exact ⟨by rw [HK.out, hno], by rw [HF.out, headOf_no hno]⟩)
            clear hs
            go_wp2_with (go_at_call 76; refine T1.out.mono ?_; rintro e w' ⟨rfl, rfl⟩)
            refine bodyPost_ret (v := .tuple #[.agg #[.int .i64 0, .slice none 0 0], .bool false]) (by simp [results, Try.results55, go_sem, c10, c11]) rfl ?_
            rw [HN.out.1, HN.out.2]
            exact ⟨none, 0, rfl, zeroI _ _ _, (hbe.setCell (by simp) _).setCell (by simp) _⟩
          · have hd0 : decide (t < 0) = false := by simpa using h0
            have HCS := Lib.hid (show (zs ++ [t]).all constOk = true by rw [List.all_append, hs]; simp [constOk]; omega)
            clear hs
            go_wp2_with (first | (go_at_call 76; refine T1.out.mono ?_; rintro e w' ⟨rfl, rfl⟩) | (at_builtin; refine wpList_append_lies _ rfl (.tmp 40) (.tmp 42) 22 rfl (w2.heap.size + 1) 3 i0 (.int .i64 0) 1 8 Try.underlying22 hi0 hz0 hz1 hz2 rfl (by decide) (.slice A' zs.length c') zs.length (zs.map (Value.int .i64)) rfl ?c1 ⟨_, 0, none⟩ 1 1 [.int .i64 t] rfl rfl (news1s _ _ _ _ (by simp)) ?c2 (by omega) (by unfold maxLen; omega) (by omega) ?c3 _ rfl ?_))
            case c1 => exact HP.out.1.1.alloc _
            case c2 => intro u hu; simp at hu; subst hu; rfl
            case c3 => have := HP.out.2.2.2.2.lt; simp; omega
            intro g cap w4 hown hg _ _
            have hgr := grown_from_alloc hg
            obtain ⟨ho, hbe', y0, y1, y2⟩ := HP.out
            have z0 := y0.grown hgr (ho.apart (by omega))
            have z1 := y1.grown hgr (ho.apart (by omega))
            have z2 := y2.grown hgr (ho.apart (by omega))
            have hb4 : Below w.heap.size w w4 := hbe'.trans (Below.grown (Below.refl _ _) hgr hbe'.size (fun j hj => by have := ho.lt hj; omega))
            have z2f := z2.frozen 1
            have z2c : w4.cell? ⟨w2.heap.size, 1, none⟩ = some (.slice A' zs.length c') := z2.cell 1
            have z2s := z2.set_ 1 (.slice (some ⟨g, 0, none⟩) (zs.length + 1) cap)
            have hlen : zs.length + 1 = (zs ++ [t]).length := by simp
            have hoo : OwnInts w4 (w2.heap.size + 1) w4.heap.size (.slice (some ⟨g, 0, none⟩) (zs.length + 1) cap) (zs ++ [t]) := by
              refine ⟨?_, fun b hb' => (hown.lt b hb').2⟩
              rw [← hlen]
              simpa using hown
            have hos := hoo.set (p := ⟨w2.heap.size, 1, none⟩) (.inl (by show w2.heap.size < w2.heap.size + 1; omega)) (.slice (some ⟨g, 0, none⟩) (zs.length + 1) cap)
            have z0s := z0.far (p := ⟨w2.heap.size, 1, none⟩) (by show w.heap.size ≠ w2.heap.size; omega) (.slice (some ⟨g, 0, none⟩) (zs.length + 1) cap)
            have z1s := z1.far (p := ⟨w2.heap.size, 1, none⟩) (by show w.heap.size + 1 ≠ w2.heap.size; omega) (.slice (some ⟨g, 0, none⟩) (zs.length + 1) cap)
            have HQ := Lib.hid (And.intro hos (And.intro z2s (And.intro (hb4.setCell (p := ⟨w2.heap.size, 1, none⟩) (by show w.heap.size ≤ w2.heap.size; omega) (.slice (some ⟨g, 0, none⟩) (zs.length + 1) cap)) (And.intro z0s z1s))))
            have HSE := Lib.hid (show ys.take (k + 1) = zs ++ [t] by rw [HS.out, HZ.out])
            clear hown hg hgr ho hbe' y0 y1 y2 z0 z1 hb4 z2s hlen hoo hos z0s z1s
            go_wp2_with (fail)
            go_roundw
            case rel =>
              obtain ⟨a1, a2, a3, a4, a5⟩ := HQ.out
              refine ⟨k + 1, some ⟨g, 0, none⟩, cap, by omega, by go_num, by rw [HSE.out]; exact HCS.out, ?_, ?_, a3, a4, a5⟩
              · rw [HSE.out]
                simpa using a1
              · rw [HSE.out]
                simpa using a2
            case measure => simp [intOf]; omega
        · have hkn : k = a.2.length := by omega
          have hall : ys.take k = ys := by rw [hkn, ← HYL.out, List.take_length]
          rw [hall] at hs ho y2
          have HN := Lib.hid (show ok = true ∧ F = (a.1, ys) by
            have hyes : headOk a bs = true := headOk_yes HB.out HT.out (by rw [← HY.out]; exact hs)
            exact ⟨by rw [HK.out, hyes], by rw [HF.out, headOf_yes hyes, HY.out]⟩)
          have c20 : wr.cell? ⟨w2.heap.size, 0, none⟩ = some (.int .i64 a.1) := y2.cell 0
          have c21 : wr.cell? ⟨w2.heap.size, 1, none⟩ = some (.slice A' ys.length c') := y2.cell 1
          have c10 : wr.cell? ⟨w.heap.size + 1, 0, none⟩ = some (.int .i64 0) := y1.cell 0
          have c11 : wr.cell? ⟨w.heap.size + 1, 1, none⟩ = some (.slice none 0 0) := y1.cell 1
          have f10 := y1.frozen 0
          have f11 := y1.frozen 1
          have HP := Lib.hid (And.intro ho hbe)
          clear hs hall hkn ho y0 y1 y2
          go_wp2_with (fail)
          refine bodyPost_ret (v := .tuple #[.agg #[.int .i64 a.1, .slice A' ys.length c'], .bool true]) (by simp [results, Try.results55, go_sem, c10, c11]) rfl ?_
          rw [HN.out.1, HN.out.2]
          refine ⟨A', c', rfl, ?_, (HP.out.2.setCell (by simp) _).setCell (by simp) _⟩
          exact ((HP.out.1.set (p := ⟨w.heap.size + 1, 0, none⟩) (.inl (by show w.heap.size + 1 < w2.heap.size + 1; omega)) _).set (p := ⟨w.heap.size + 1, 1, none⟩) (.inl (by show w.heap.size + 1 < w2.heap.size + 1; omega)) _).mono (by omega) (by simp)
    · have ht' : a.2.all termOk = false := by simpa using ht
      have L2 := Lib.hid (fun W (hW : Below w.heap.size w W) => l2Terms_is ht' (.slice A a.2.length c) w.heap.size W (H.out.below hW (Nat.le_refl _)) hr)
      have HN := Lib.hid (show ok = false ∧ F = (0, []) from ⟨by rw [HK.out, headOk_terms ht'], by rw [HF.out, headOf_no (headOk_terms ht')]⟩)
      clear hb ht ht'
      go_enter Try.func55, Try.ntmps55
      go_wp2_with (fail)
      have x0 := X0 49 #[.int .i64 a.1, .slice A a.2.length c] 28 #[.int .i64 0, .slice none 0 0]
      have x1 := X1 (Obj.cells #[.int .i64 a.1, .slice A a.2.length c] 49) 28 #[.int .i64 0, .slice none 0 0]
      obtain ⟨w2, hw2⟩ : ∃ w2, w2 = ((w.alloc (Obj.cells #[Value.int IntKind.i64 a.1, Value.slice A a.2.length c] 49)).alloc (Obj.cells #[Value.int IntKind.i64 0, Value.slice none 0 0] 28)) := ⟨_, rfl⟩
      have B2 : Below w.heap.size w w2 := by rw [hw2]; exact below2 _ _ _
      rw [← hw2] at x0 x1 ⊢
      clear hw2 X0 X1
      have q00 : w2.cell? ⟨w.heap.size, 0, none⟩ = some (.int .i64 a.1) := x0.cell 0
      have q01 : w2.cell? ⟨w.heap.size, 1, none⟩ = some (.slice A a.2.length c) := x0.cell 1
      have c10 : w2.cell? ⟨w.heap.size + 1, 0, none⟩ = some (.int .i64 0) := x1.cell 0
      have c11 : w2.cell? ⟨w.heap.size + 1, 1, none⟩ = some (.slice none 0 0) := x1.cell 1
      have f10 := x1.frozen 0
      have f11 := x1.frozen 1
      refine (L1.out _ B2).mono ?_
      rintro e w' ⟨rfl, rfl⟩
      go_wp2_with (go_at_call 75; refine (L2.out _ B2).mono ?_; rintro e w' ⟨rfl, rfl⟩)
      refine bodyPost_ret (v := .tuple #[.agg #[.int .i64 0, .slice none 0 0], .bool false]) (by simp [results, Try.results55, go_sem, c10, c11]) rfl ?_
      rw [HN.out.1, HN.out.2]
      exact ⟨none, 0, rfl, zeroI _ _ _, (B2.setCell (by simp) _).setCell (by simp) _⟩
  · have hb' : bindOk bs = false := by simpa using hb
    have L1 := Lib.hid (fun W (hW : Below w.heap.size w W) => l3Bind_is hb' (.slice A2 bs.length c2) w.heap.size W (H2.out.below hW (Nat.le_refl _)) hr2)
    have HN := Lib.hid (show ok = false ∧ F = (0, []) from ⟨by rw [HK.out, headOk_bind hb'], by rw [HF.out, headOf_no (headOk_bind hb')]⟩)
    clear hb hb'
    go_enter Try.func55, Try.ntmps55
    go_wp2_with (fail)
    have x1 := X1 (Obj.cells #[.int .i64 a.1, .slice A a.2.length c] 49) 28 #[.int .i64 0, .slice none 0 0]
    obtain ⟨w2, hw2⟩ : ∃ w2, w2 = ((w.alloc (Obj.cells #[Value.int IntKind.i64 a.1, Value.slice A a.2.length c] 49)).alloc (Obj.cells #[Value.int IntKind.i64 0, Value.slice none 0 0] 28)) := ⟨_, rfl⟩
    have B2 : Below w.heap.size w w2 := by rw [hw2]; exact below2 _ _ _
    rw [← hw2] at x1 ⊢
    clear hw2 X0 X1
    have c10 : w2.cell? ⟨w.heap.size + 1, 0, none⟩ = some (.int .i64 0) := x1.cell 0
    have c11 : w2.cell? ⟨w.heap.size + 1, 1, none⟩ = some (.slice none 0 0) := x1.cell 1
    have f10 := x1.frozen 0
    have f11 := x1.frozen 1
    refine (L1.out _ B2).mono ?_
    rintro e w' ⟨rfl, rfl⟩
    go_wp2_with (fail)
    refine bodyPost_ret (v := .tuple #[.agg #[.int .i64 0, .slice none 0 0], .bool false]) (by simp [results, Try.results55, go_sem, c10, c11]) rfl ?_
    rw [HN.out.1, HN.out.2]
    exact ⟨none, 0, rfl, zeroI _ _ _, (B2.setCell (by simp) _).setCell (by simp) _⟩

end Go.Proofs.Ytehjhdihaloalaa
