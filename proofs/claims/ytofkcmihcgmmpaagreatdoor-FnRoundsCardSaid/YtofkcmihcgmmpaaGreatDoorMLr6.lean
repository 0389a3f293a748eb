/-
  Texts that the claim's last one imports, laid together: part 6 of 16. No condition of its own.
-/
import Derived.Deep.RegionLaw
import Derived.Deep.DeepCutAuto
import Derived.Shelf.SlSortCmp.WholeK
import Derived.Shelf.Spec.SlicesGrow
import Derived.Test.YtofkcmihcgmmpaaGreatDoorChecked
import Derived.Lib.AppendZerosOnto
import Derived.Shelf.RegionOpenPlain
import Derived.Sort.Grow
import Derived.Test.YtofkcmihcgmmpaaGreatDoorMLr1
import Derived.Test.YtofkcmihcgmmpaaGreatDoorMLr2
import Derived.Test.YtofkcmihcgmmpaaGreatDoorMLr3
import Derived.Test.YtofkcmihcgmmpaaGreatDoorMLr5
namespace Go.Proofs.YtofkcmihcgmmpaaGreatDoor
set_option maxRecDepth 100000
open Go.RowKit
theorem zg.at_ {w : World} {lo hi c n : Nat} {A : Option Addr} {xs : List Int} (h : zg w lo hi (.slice A n c) xs) (hn : 0 < xs.length) :
 ∃ g, A = some ⟨g, 0, none⟩ /\ lo <= g /\ g < hi /\ g < w.heap.size /\ (∀ k (hk : k < xs.length), w.cell? ⟨g, k, none⟩ = some (.int .i64 xs[k])) /\ ∀ k, w.frozen? ⟨g, k, none⟩ = false := by
 obtain ⟨g, cap, e, _, _⟩ := h.1.form hn
 injection e with e1 e2 e3
 subst e1
 subst e2
 obtain ⟨l1, l2, l3⟩ := h.lt (g := g) rfl
 obtain ⟨A', c', e, _, hx⟩ := h.rd
 injection e with e1 _ _
 obtain ⟨b, o, e2, _, hx⟩ := hx hn
 rw [<- e1] at e2
 injection e2 with e2
 injection e2 with e2 e3 _
 subst e2
 subst e3
 exact ⟨g, rfl, l1, l2, l3, fun k hk => by simpa using hx k hk, fun k => World.ownsRow.frozenAt h.1 k⟩
theorem zg.atG {w : World} {lo hi c n g : Nat} {xs : List Int} (h : zg w lo hi (.slice (some ⟨g, 0, none⟩) n c) xs) (hn : 0 < xs.length) :
 lo <= g /\ g < hi /\ g < w.heap.size /\ (∀ k (hk : k < xs.length), w.cell? ⟨g, k, none⟩ = some (.int .i64 xs[k])) /\ ∀ k, w.frozen? ⟨g, k, none⟩ = false := by
 obtain ⟨g', e, h'⟩ := h.at_ hn
 injection e with e
 injection e with e _ _
 subst e
 exact h'
set_option maxHeartbeats 1000000 in
theorem ziL (v : Value) (xs : List Int) (w : World) (h : zv w w.heap.size v xs) (hr : xs.length <= 1048576) :
 Calls Tryz.prog 94 #[v] w fun e w' => ∃ A' c', e = .returned (.slice A' xs.length c') /\ zg w' w.heap.size w'.heap.size (.slice A' xs.length c') xs /\ Below w.heap.size w w' := by
 obtain ⟨i0, hi0, hz0, hz1, hz2⟩ := info_parts Tryz.infoInt
 have H := Lib.hid h
 obtain ⟨A, c, rfl, hc, _⟩ := h
 have C0 := Lib.hid (zjh.empty (Below.refl w.heap.size w))
 go_enter Tryz.func94, Tryz.ntmps94
 go_wp2_with (fail)
 go_loopw [3, 4] (fun o i wr => ∃ (k : Nat) (A' : Option Addr) (c' : Nat), k <= xs.length /\ i = .int .i64 k /\ o = .slice A' (xs.take k).length c' /\ zjh w wr (xs.take k) A' c') (fun _ i _ => xs.length - (intOf i).toNat)
 case atStart => exact ⟨0, _, 0, Nat.zero_le _, rfl, rfl, C0.out⟩
 case round =>
  obtain ⟨k, A', c', hk, rfl, rfl, hr'⟩ := hrel
  have hln : (xs.take k).length <= k := by simp; omega
  by_cases hlt : k < xs.length
  ·have hre := H.out.below hr'.below (Nat.le_refl _)
   obtain ⟨A3, c3, e3, _, hx⟩ := hre
   injection e3 with e3 _ e4
   subst e3 e4
   obtain ⟨b, o, rfl, hbB, hx⟩ := hx (by omega)
   have hck : wr.cell? ⟨b, o + k, none⟩ = some (.int .i64 xs[k]) := hx k hlt
   have HS := Lib.hid (zH xs k hlt)
   have HP := Lib.hid hr'
   clear hx hr'
   obtain ⟨x, hx⟩ : ∃ x, x = xs[k] := ⟨_, rfl⟩
   rw [<- hx] at hck HS
   clear hx
   obtain ⟨zs, hzs⟩ : ∃ zs, zs = xs.take k := ⟨_, rfl⟩
   have HZ := Lib.hid hzs
   rw [<- hzs] at HP hln ⊢
   clear hzs
   go_wp2_with (at_builtin; refine wpList_append_lies _ rfl (.tmp 12) (.tmp 17) 23 rfl w.heap.size 3 i0 (.int .i64 0) 1 8 Tryz.underlying23 hi0 hz0 hz1 hz2 rfl (by decide) (.slice A' zs.length c') zs.length (zs.map (Value.int .i64)) rfl ?c1 ⟨_, 0, none⟩ 1 1 [.int .i64 x] rfl rfl (zeR _ _ _ _ (by simp)) ?c2 (by omega) (by unfold maxLen; omega) (by omega) ?c3 _ rfl ?_)
   case c1 => exact HP.out.own.1.alloc _
   case c2 => first | rfl | (intro u hu; simp at hu; subst hu; rfl)
   case c3 => have := HP.out.below.size; simp; omega
   intro g cap w4 hown hg _ _
   have hcol := HP.out.push (Below.refl _ _) hg hown
   rw [HZ.out, <- HS.out] at hcol
   have hlen : zs.length + 1 = (xs.take (k + 1)).length := by rw [HS.out, HZ.out]; simp
   rw [hlen]
   have HC := Lib.hid hcol
   clear hcol hlen hown hg
   go_wp2_with (fail)
   go_roundw
   case rel => exact ⟨k + 1, _, _, by omega, by go_num, rfl, HC.out⟩
   case measure => simp [intOf]; omega
  ·have hkn : k = xs.length := by omega
   have HZ := Lib.hid (show xs.take k = xs by rw [hkn, List.take_length])
   have HO := Lib.hid hr'
   rw [HZ.out] at HO ⊢
   clear hkn hr'
   go_wp2_with (fail)
   go_ret
   exact ⟨_, _, rfl, HO.out.own, HO.out.below⟩
set_option maxHeartbeats 4000000 in
theorem zns (v v2 v3 : Value) (a f : zd) (bs R : List Int) (ok : Bool) (hR : R = (zan a f bs).getD []) (hok : ok = (zan a f bs).isSome) (w : World) (hb : zp bs = true) (h : zU w w.heap.size v a) (h2 : zU w w.heap.size v2 f) (h3 : zv w w.heap.size v3 bs)
 (ht : a.2.all zz = true) (hf : f.2.all zt = true) (hr : a.2.length <= 1048576) (hr2 : f.2.length <= 1048576) :
 Calls Tryz.prog 142 #[v, v2, v3] w fun e w' => ∃ A' c', e = .returned (.tuple #[.slice A' R.length c', .bool ok]) /\ zg w' w.heap.size w'.heap.size (.slice A' R.length c') R /\ Below w.heap.size w w' := by
 obtain ⟨pa, xs⟩ := a
 obtain ⟨pf, ys⟩ := f
 simp only at ht hf hr hr2
 have HO := Lib.hid (And.intro hR hok)
 clear hR hok
 have H3 := Lib.hid h3
 obtain ⟨A3, c3, rfl, hc3, _⟩ := h3
 obtain ⟨u, rfl, A, c, rfl, hc, hA⟩ := h
 obtain ⟨u, rfl, A2, c2, rfl, hc2, hA2⟩ := h2
 by_cases hp : pa = pf
 ·have hpb : (pa != pf) = false := by simp [hp]
  by_cases hl : xs.length = ys.length
  ·have hl1 : ((xs.length : Int) != (ys.length : Int)) = false := by simp [hl]
   have HL := Lib.hid hl
   have HP := Lib.hid hp
   have HB := Lib.hid hb
   have HB4 := Lib.hid (zV hb)
   clear hl hp hb
   have x0 := (Blk.new w 63 #[.int .i64 pa, .slice A xs.length c]).alloc (Obj.cells #[.int .i64 pf, .slice A2 ys.length c2] 39)
   have x1 : Blk ((w.alloc (Obj.cells #[.int .i64 pa, .slice A xs.length c] 63)).alloc (Obj.cells #[.int .i64 pf, .slice A2 ys.length c2] 39)) (w.heap.size + 1) 39 #[.int .i64 pf, .slice A2 ys.length c2] := by simpa using Blk.new (w.alloc (Obj.cells #[.int .i64 pa, .slice A xs.length c] 63)) 39 #[.int .i64 pf, .slice A2 ys.length c2]
   go_enter Tryz.func142, Tryz.ntmps142
   go_wp2_with (fail)
   obtain ⟨w2, hw2⟩ : ∃ w2, w2 = ((w.alloc (Obj.cells #[Value.int IntKind.i64 pa, Value.slice A xs.length c] 63)).alloc (Obj.cells #[Value.int IntKind.i64 pf, Value.slice A2 ys.length c2] 39)) := ⟨_, rfl⟩
   have B2 : Below w.heap.size w w2 := by rw [hw2]; exact za0 _ _ _
   rw [<- hw2] at x0 x1 ⊢
   clear hw2
   have l1 := x1.lt
   refine (ziL _ bs _ (H3.out.on B2) (by have := HB4.out; omega)).mono ?_
   rintro e w3 ⟨A', c', rfl, ho, hb3⟩
   obtain ⟨g, rfl, hg1, hg2, hg3, _, _⟩ := ho.at_ (by have := HB4.out; omega)
   have R0 : zg w3 w2.heap.size w3.heap.size (.slice (some ⟨g, 0, none⟩) bs.length c') bs /\ Below w.heap.size w w3 /\ Blk w3 w.heap.size 63 #[.int .i64 pa, .slice A xs.length c] /\ Blk w3 (w.heap.size + 1) 39 #[.int .i64 pf, .slice A2 ys.length c2] := ⟨ho, zf B2 hb3, x0.below hb3 x0.lt, x1.below hb3 x1.lt⟩
   rw [HB4.out] at R0 ⊢
   clear ho hb3 x0 x1 hg3 hg2
   go_wp2_with (fail)
   go_loopw [9, 10] (fun i _ wr => ∃ (k : Nat) (cur : List Int), k <= xs.length /\ i = .int .i64 k /\ zp cur = true /\ zaK bs xs ys k = some cur /\ zg wr w2.heap.size wr.heap.size (.slice (some ⟨g, 0, none⟩) 4 c') cur /\ Below w.heap.size w wr /\ Blk wr w.heap.size 63 #[.int .i64 pa, .slice A xs.length c] /\ Blk wr (w.heap.size + 1) 39 #[.int .i64 pf, .slice A2 ys.length c2]) (fun i _ _ => xs.length - (intOf i).toNat)
   case atStart => exact ⟨0, bs, Nat.zero_le _, rfl, HB.out, rfl, R0.1, R0.2.1, R0.2.2.1, R0.2.2.2⟩
   case round =>
    obtain ⟨k, cur, hk, rfl, hcb, hmt, ho, hbe, y0, y1⟩ := hrel
    have q01 : wr.cell? ⟨w.heap.size, 1, none⟩ = some (.slice A xs.length c) := y0.cell 1
    have q11 : wr.cell? ⟨w.heap.size + 1, 1, none⟩ = some (.slice A2 ys.length c2) := y1.cell 1
    have hcl := zV hcb
    have HP2 := Lib.hid (And.intro ho (And.intro hbe (And.intro y0 y1)))
    by_cases hlt : k < xs.length
    ·have hlt2 : k < ys.length := by have := HL.out; omega
     obtain ⟨b, o, rfl, hbB, hx⟩ := hA (by omega)
     obtain ⟨b2, o2, rfl, hbB2, hx2⟩ := hA2 (by omega)
     have hck : wr.cell? ⟨b, o + k, none⟩ = some (.int .i64 xs[k]) := (hbe.cell (p := ⟨b, o + k, none⟩) hbB).trans (hx k hlt)
     have hck2 : wr.cell? ⟨b2, o2 + k, none⟩ = some (.int .i64 ys[k]) := (hbe.cell (p := ⟨b2, o2 + k, none⟩) hbB2).trans (hx2 k hlt2)
     have htk : zz xs[k] = true := List.all_eq_true.1 ht _ (List.getElem_mem hlt)
     have hfk : 0 <= ys[k] /\ ys[k] <= 5 := by simpa [zt] using List.all_eq_true.1 hf _ (List.getElem_mem hlt2)
     have hst := zca hmt hlt hlt2
     have htb := zdA htk
     obtain ⟨hg1', _, hg3, hcc, hcf⟩ := ho.atG (by omega)
     clear hx hx2 hA hA2
     obtain ⟨t, htv⟩ : ∃ t, t = xs[k] := ⟨_, rfl⟩
     obtain ⟨y, hyv⟩ : ∃ y, y = ys[k] := ⟨_, rfl⟩
     rw [<- htv] at htk hck hst htb
     rw [<- hyv] at hfk hck2 hst
     clear htv hyv
     by_cases e2 : zn cur t = -1
     ·-- the variable gets it
      obtain ⟨q1, q2, q3⟩ := zgn htk e2
      obtain ⟨j, hj4, rfl⟩ : ∃ j : Nat, j < 4 /\ t = -1 - (j : Int) := ⟨(-1 - t).toNat, by omega, by omega⟩
      have hjt : (-1 - (-1 - (j : Int))).toNat = j := by omega
      have hje : -1 - (-1 - (j : Int)) = (j : Int) := by omega
      rw [hjt] at q3
      have hjl : j < cur.length := by omega
      have hjI : (j : Int) < 4 := by omega
      have hcj : wr.cell? ⟨g, j, none⟩ = some (.int .i64 (-1)) := by
       have hh := hcc j hjl
       rwa [show cur[j] = -1 by simpa [hjl] using q3] at hh
      have hfj := hcf j
      have hoo := zg.store (A := some ⟨g, 0, none⟩) (c := c') (g := g) (xs := cur) (by rw [hcl]; exact ho) rfl hjl y
      obtain ⟨ws, hws⟩ : ∃ ws, ws = wr.setCell ⟨g, j, none⟩ (.int .i64 y) := ⟨_, rfl⟩
      have z0 := y0.far (p := ⟨g, j, none⟩) (by show w.heap.size ≠ g; omega) (.int .i64 y)
      have z1 := y1.far (p := ⟨g, j, none⟩) (by show w.heap.size + 1 ≠ g; omega) (.int .i64 y)
      have zb : Below w.heap.size w ws := by rw [hws]; exact hbe.setCell (by show w.heap.size <= g; omega) _
      have hsz : ws.heap.size = wr.heap.size := by rw [hws]; simp
      rw [<- hws] at hoo z0 z1
      rw [hcl] at hoo
      have HCS := Lib.hid (show zp (cur.set j y) = true from zcx hcb (by omega) _)
      have hsl : (cur.set j y).length = 4 := by rw [List.length_set]; exact hcl
      have HMS := Lib.hid (show zaK bs xs ys (k + 1) = some (cur.set j y) by rw [hst, zfJ e2 (by omega), hjt])
      have HTV := Lib.hid (show zn (cur.set j y) (-1 - (j : Int)) = y by
       rw [zcz (by omega), hjt]
       simp [hjl])
      have hck2s : ws.cell? ⟨b2, o2 + k, none⟩ = some (.int .i64 y) := by
       rw [hws, World.cell?_setCell_other _ _ _ _ (by intro e; injection e with e1 _ _; omega)]
       exact hck2
      have q11s : ws.cell? ⟨w.heap.size + 1, 1, none⟩ = some (.slice (some ⟨b2, o2, none⟩) ys.length c2) := z1.cell 1
      have HT := Lib.hid (fun n => zaH (zdR (.slice (some ⟨g, 0, none⟩) 4 c') (cur.set j y) (-1 - (j : Int)) ws.heap.size (ws.drewN n) (by
       have := (hoo.rd.more (B' := ws.heap.size) (by omega)).below (zX (Below.refl ws.heap.size ws) n) (Nat.le_refl _)
       exact this) hsl htk))
      have HQ := Lib.hid (And.intro (show zg ws w2.heap.size ws.heap.size (.slice (some ⟨g, 0, none⟩) 4 c') (cur.set j y) by rw [hsz]; exact hoo) (And.intro zb (And.intro z0 z1)))
      have HW := Lib.hid hws
      have HE2 := Lib.hid (And.intro e2 (And.intro q3 (And.intro hst hmt)))
      clear hoo z0 z1 zb hws hst hmt e2 q3 hcc hcf ho y0 y1
      rw [HTV.out] at HT
      go_wp2_with (fail)
      rw [<- HW.out]
      go_quiet ((go_at_call 146; exact HT.out _))
      go_wp2_with (fail)
      go_roundw
      case rel =>
       obtain ⟨a1, a2, a3, a4⟩ := HQ.out
       exact ⟨k + 1, _, by omega, by go_num, HCS.out, HMS.out, a1.below (zX (Below.refl _ _) _) (Nat.le_refl _), zX a2 _, a3.drewN _, a4.drewN _⟩
      case measure => simp [intOf]; omega
     ·have HT := Lib.hid (fun n => zaH (zdR (.slice (some ⟨g, 0, none⟩) 4 c') cur t wr.heap.size (wr.drewN n) (by
       have h' : zg wr w2.heap.size wr.heap.size (.slice (some ⟨g, 0, none⟩) cur.length c') cur := by rw [hcl]; exact ho
       have := h'.rd.below (zX (Below.refl wr.heap.size wr) n) (Nat.le_refl _)
       rw [hcl] at this
       exact this) hcl htk))
      -- no store: a constant, or a variable that has one
      have hns : 0 <= t \/ ∃ j : Nat, ∃ hj : j < cur.length, t = -1 - (j : Int) /\ 0 <= cur[j] := by
       rcases Int.lt_or_le t 0 with h0 | h0
       ·right
        have hj : (-1 - t).toNat < cur.length := by omega
        refine ⟨(-1 - t).toNat, hj, by omega, ?_⟩
        rw [zcz h0] at e2
        have e3 : cur[(-1 - t).toNat] ≠ -1 := by simpa [hj] using e2
        have := zbD hcb hj
        omega
       ·exact .inl h0
      have HV := Lib.hid (And.intro e2 (And.intro hst hmt))
      clear e2 hst hmt y0 y1
      by_cases e1 : zn cur t = y
      ·have hd1 : (y != y) = false := by simp
       have HMS := Lib.hid (show zaK bs xs ys (k + 1) = some cur by rw [HV.out.2.1, zc1 e1])
       rw [e1] at HT
       clear e1
       rcases hns with h0 | ⟨j, hj, rfl, hj0⟩
       ·have hd0 : decide (t < 0) = false := by simp; omega
        clear ho hcc hcf
        go_wp2_with (fail)
        go_quiet ((go_at_call 146; exact HT.out _))
        go_wp2_with (fail)
        go_roundw
        case rel =>
         obtain ⟨a1, a2, a3, a4⟩ := HP2.out
         exact ⟨k + 1, _, by omega, by go_num, hcb, HMS.out, a1.below (zX (Below.refl _ _) _) (Nat.le_refl _), zX a2 _, a3.drewN _, a4.drewN _⟩
        case measure => simp [intOf]; omega
       ·have hje : -1 - (-1 - (j : Int)) = (j : Int) := by omega
        have hjI : (j : Int) < 4 := by omega
        have hcj : wr.cell? ⟨g, j, none⟩ = some (.int .i64 cur[j]) := hcc j hj
        have hdj : decide (cur[j] < 0) = false := by simp; omega
        clear ho hcc hcf
        go_wp2_with (fail)
        go_quiet ((go_at_call 146; exact HT.out _))
        go_wp2_with (fail)
        go_roundw
        case rel =>
         obtain ⟨a1, a2, a3, a4⟩ := HP2.out
         exact ⟨k + 1, _, by omega, by go_num, hcb, HMS.out, a1.below (zX (Below.refl _ _) _) (Nat.le_refl _), zX a2 _, a3.drewN _, a4.drewN _⟩
        case measure => simp [intOf]; omega
      ·have hd1 : (zn cur t != y) = true := by simpa using e1
       have HN := Lib.hid (show zan (pa, xs) (pf, ys) bs = none from zhN HP.out HL.out hlt (by rw [HV.out.2.1, zkR e1 HV.out.1]))
       have HZ := Lib.hid (show R = [] /\ ok = false from ⟨by rw [HO.out.1, HN.out]; rfl, by rw [HO.out.2, HN.out]; rfl⟩)
       clear e1
       rcases hns with h0 | ⟨j, hj, rfl, hj0⟩
       ·have hd0 : decide (t < 0) = false := by simp; omega
        clear ho hcc hcf
        go_wp2_with (fail)
        go_quiet ((go_at_call 146; exact HT.out _))
        go_wp2_with (fail)
        go_ret2
        rw [HZ.out.1, HZ.out.2]
        exact ⟨none, 0, rfl, zhz _ _ _, zX hbe _⟩
       ·have hje : -1 - (-1 - (j : Int)) = (j : Int) := by omega
        have hjI : (j : Int) < 4 := by omega
        have hcj : wr.cell? ⟨g, j, none⟩ = some (.int .i64 cur[j]) := hcc j hj
        have hdj : decide (cur[j] < 0) = false := by simp; omega
        clear ho hcc hcf
        go_wp2_with (fail)
        go_quiet ((go_at_call 146; exact HT.out _))
        go_wp2_with (fail)
        go_ret2
        rw [HZ.out.1, HZ.out.2]
        exact ⟨none, 0, rfl, zhz _ _ _, zX hbe _⟩
    ·have hkn : k = xs.length := by omega
     have HN := Lib.hid (show zan (pa, xs) (pf, ys) bs = some cur by rw [zez HP.out HL.out, <- hmt, hkn])
     have HZ := Lib.hid (show R = cur /\ ok = true from ⟨by rw [HO.out.1, HN.out]; rfl, by rw [HO.out.2, HN.out]; rfl⟩)
     have HCL := Lib.hid hcl
     clear hkn hmt hA hA2 ho y0 y1 hcl
     go_wp2_with (fail)
     go_ret2
     rw [HZ.out.1, HZ.out.2, HCL.out]
     exact ⟨_, _, rfl, HP2.out.1.mono (by omega) (Nat.le_refl _), hbe⟩
  ·have hl1 : ((xs.length : Int) != (ys.length : Int)) = true := by simp; omega
   have HN := Lib.hid (show zan (pa, xs) (pf, ys) bs = none from zeS hl)
   have HZ := Lib.hid (show R = [] /\ ok = false from ⟨by rw [HO.out.1, HN.out]; rfl, by rw [HO.out.2, HN.out]; rfl⟩)
   clear hA hA2 hl
   go_enter Tryz.func142, Tryz.ntmps142
   go_wp2_with (fail)
   go_ret2
   rw [HZ.out.1, HZ.out.2]
   exact ⟨none, 0, rfl, zhz _ _ _, za0 _ _ _⟩
 ·have hpb : (pa != pf) = true := by simp [hp]
  have HN := Lib.hid (show zan (pa, xs) (pf, ys) bs = none from zed hp)
  have HZ := Lib.hid (show R = [] /\ ok = false from ⟨by rw [HO.out.1, HN.out]; rfl, by rw [HO.out.2, HN.out]; rfl⟩)
  clear hA hA2 hp
  go_enter Tryz.func142, Tryz.ntmps142
  go_wp2_with (fail)
  go_ret2
  rw [HZ.out.1, HZ.out.2]
  exact ⟨none, 0, rfl, zhz _ _ _, za0 _ _ _⟩
open Go.RowKit
def zdi (k a b : Int) : Bool := (decide (0 <= a) && decide (0 <= b)) && (if k = 2 then decide (a = b) else decide (a < b))
def zM (fs : List zd) (l : zC) (bs : List Int) : Bool :=
 if l.1 = 2 \/ l.1 = 3 then decide (l.2.2.length = 2) && zdi l.1 (zn bs (l.2.2.getD 0 0)) (zn bs (l.2.2.getD 1 0))
 else (zai l.2 bs && decide (0 <= l.1 /\ l.1 <= 1)) && (zaQ fs (zaM l.2 bs) == decide (l.1 = 0))
theorem zlE {k a b : Int} (h : a < 0) : zdi k a b = false := by unfold zdi; rw [decide_eq_false (show ¬ 0 <= a by omega)]; rfl
theorem zjZ {k a b : Int} (h : b < 0) : zdi k a b = false := by unfold zdi; rw [decide_eq_false (show ¬ 0 <= b by omega), Bool.and_false]; rfl
theorem zht {a b : Int} (h : 0 <= a) (h2 : 0 <= b) : zdi 2 a b = decide (a = b) := by unfold zdi; rw [decide_eq_true h, decide_eq_true h2]; simp
theorem zhu {a b : Int} (h : 0 <= a) (h2 : 0 <= b) : zdi 3 a b = decide (a < b) := by unfold zdi; rw [decide_eq_true h, decide_eq_true h2]; simp
theorem zi6 (k a b : Int) (hk : k = 2 \/ k = 3) (w : World) :
 Calls Tryz.prog 189 #[.int .i64 k, .int .i64 a, .int .i64 b] w fun e w' => e = .returned (.bool (zdi k a b)) /\ w = w' := by
 by_cases h1 : a < 0
 ·have HE := Lib.hid (zlE (k := k) (b := b) h1)
  go_enter Tryz.func189, Tryz.ntmps189
  go_wp2_with (fail)
  go_ret
  exact ⟨zi HE.out.symm, rfl⟩
 ·have hd1 : decide (a < 0) = false := by simpa using h1
  by_cases h2 : b < 0
  ·have HE := Lib.hid (zjZ (k := k) (a := a) h2)
   go_enter Tryz.func189, Tryz.ntmps189
   go_wp2_with (fail)
   go_ret
   exact ⟨zi HE.out.symm, rfl⟩
  ·have hd2 : decide (b < 0) = false := by simpa using h2
   rcases hk with rfl | rfl
   ·by_cases h3 : a = b
    ·have HE := Lib.hid (show zdi 2 a b = true by rw [zht (by omega) (by omega)]; exact decide_eq_true h3)
     have hd3 : (a == b) = true := by simpa using h3
     clear h3
     go_enter Tryz.func189, Tryz.ntmps189
     go_wp2_with (fail)
     go_ret
     exact ⟨zi HE.out.symm, rfl⟩
    ·have HE := Lib.hid (show zdi 2 a b = false by rw [zht (by omega) (by omega)]; exact decide_eq_false h3)
     have hd3 : (a == b) = false := by simpa using h3
     clear h3
     go_enter Tryz.func189, Tryz.ntmps189
     go_wp2_with (fail)
     go_ret
     exact ⟨zi HE.out.symm, rfl⟩
   ·by_cases h3 : a < b
    ·have HE := Lib.hid (show zdi 3 a b = true by rw [zhu (by omega) (by omega)]; exact decide_eq_true h3)
     go_enter Tryz.func189, Tryz.ntmps189
     go_wp2_with (fail)
     go_ret
     exact ⟨zi HE.out.symm, rfl⟩
    ·have HE := Lib.hid (show zdi 3 a b = false by rw [zhu (by omega) (by omega)]; exact decide_eq_false h3)
     have hd3 : decide (a < b) = false := by simpa using h3
     go_enter Tryz.func189, Tryz.ntmps189
     go_wp2_with (fail)
     go_ret
     exact ⟨zi HE.out.symm, rfl⟩
theorem zmB (k a b : Int) (hk : k = 2 \/ k = 3) : (a < 0 /\ zdi k a b = false) \/ (0 <= a /\ b < 0 /\ zdi k a b = false) \/ (0 <= a /\ 0 <= b /\ zdi k a b = (if k = 2 then a == b else decide (a < b))) := by
 rcases Int.lt_or_le a 0 with h | h
 ·exact .inl ⟨h, zlE h⟩
 ·rcases Int.lt_or_le b 0 with h2 | h2
  ·exact .inr (.inl ⟨h, h2, zjZ h2⟩)
  ·refine .inr (.inr ⟨h, h2, ?_⟩)
   rcases hk with rfl | rfl
   ·rw [zht h h2]
    rfl
   ·rw [zhu h h2]
    rfl
set_option maxHeartbeats 2000000 in
theorem ziJ (v v3 : Value) (l : zC) (bs : List Int) (v0 : Value) (w : World) (hkd : l.1 = 2 \/ l.1 = 3) (h2 : zf2 w w.heap.size v l) (h3 : zv w w.heap.size v3 bs) (hb : bs.length = 4) (ht : l.2.2.all zz = true) :
 Calls Tryz.prog 169 #[v0, v, v3] w fun e w' => e = .returned (.bool (decide (l.2.2.length = 2) && zdi l.1 (zn bs (l.2.2.getD 0 0)) (zn bs (l.2.2.getD 1 0)))) /\ Below w.heap.size w w' := by
 obtain ⟨kd, p, xs⟩ := l
 obtain ⟨u, rfl, A, c, rfl, hc, hx⟩ := h2
 simp only at hkd hx hc ht
 have H3 := Lib.hid h3
 obtain ⟨A3, c3, rfl, hc3, _⟩ := h3
 have HB := Lib.hid hb
 clear hb
 have y0 := Blk.new w 68 #[.int .i64 kd, .int .i64 p, .slice A xs.length c]
 by_cases hl : xs.length = 2
 ·obtain ⟨s, t, rfl⟩ : ∃ s t, xs = [s, t] := by
   match xs, hl with
   | [s, t], _ => exact ⟨s, t, rfl⟩
  obtain ⟨b, o, rfl, hbB, hx⟩ := hx (by simp)
  have hs := List.all_eq_true.1 ht s (by simp)
  have htt := List.all_eq_true.1 ht t (by simp)
  have c0 : ∀ O, (w.alloc O).cell? ⟨b, o, none⟩ = some (.int .i64 s) := fun O => (World.cell?_alloc_lt w O ⟨b, o, none⟩ hbB).trans (hx 0 (by simp))
  have c1 : ∀ O, (w.alloc O).cell? ⟨b, o + 1, none⟩ = some (.int .i64 t) := fun O => (World.cell?_alloc_lt w O ⟨b, o + 1, none⟩ hbB).trans (hx 1 (by simp))
  have T1 := Lib.hid (fun O => zdR (.slice A3 bs.length c3) bs s _ (w.alloc O) (H3.out.on (ze w O)) HB.out hs)
  have T2 := Lib.hid (fun O => zdR (.slice A3 bs.length c3) bs t _ (w.alloc O) (H3.out.on (ze w O)) HB.out htt)
  obtain ⟨R, hR⟩ : ∃ R, R = zdi kd (zn bs s) (zn bs t) := ⟨_, rfl⟩
  have HR := Lib.hid hR
  have HX := Lib.hid (zmB kd (zn bs s) (zn bs t) hkd)
  rw [<- hR] at HX
  obtain ⟨av, hav⟩ : ∃ av, av = zn bs s := ⟨_, rfl⟩
  obtain ⟨bv, hbv⟩ : ∃ bv, bv = zn bs t := ⟨_, rfl⟩
  rw [<- hav] at T1 HX
  rw [<- hbv] at T2 HX
  have HG := Lib.hid (show (decide ([s, t].length = 2) && zdi kd (zn bs ([s, t].getD 0 0)) (zn bs ([s, t].getD 1 0))) = R by rw [hR]; rfl)
  show Calls _ _ _ _ fun e w' => e = .returned (.bool (decide ([s, t].length = 2) && zdi kd (zn bs ([s, t].getD 0 0)) (zn bs ([s, t].getD 1 0)))) /\ _
  rw [HG.out]
  clear hR hav hbv hs htt ht hx hl HR
  have q0 := y0.cell 0
  have q1 := y0.cell 1
  have q2 := y0.cell 2
  simp only [List.length_cons, List.length_nil] at q2
  rcases hkd with rfl | rfl
  ·rcases HX.out with ⟨h1, e⟩ | ⟨h1, h2, e⟩ | ⟨h1, h2, e⟩
   ·have hd1 : decide (0 <= av) = false := by simp; omega
    have HE := Lib.hid e
    clear e
    go_enter Tryz.func169, Tryz.ntmps169
    go_wp2_with (fail)
    refine (T1.out _).mono ?_
    rintro e w' ⟨rfl, rfl⟩
    go_wp2_with (fail)
    refine (T2.out _).mono ?_
    rintro e w' ⟨rfl, rfl⟩
    go_wp2_with (fail)
    go_ret
    exact ⟨zi HE.out.symm, ze _ _⟩
   ·have hd2 : decide (0 <= bv) = false := by simp; omega
    have HE := Lib.hid e
    clear e
    go_enter Tryz.func169, Tryz.ntmps169
    go_wp2_with (fail)
    refine (T1.out _).mono ?_
    rintro e w' ⟨rfl, rfl⟩
    go_wp2_with (fail)
    refine (T2.out _).mono ?_
    rintro e w' ⟨rfl, rfl⟩
    go_wp2_with (fail)
    go_ret
    exact ⟨zi HE.out.symm, ze _ _⟩
   ·have e' : R = (av == bv) := e
    clear e
    by_cases h3 : av = bv
    ·have hd3 : (av == bv) = true := by simpa using h3
     have HE := Lib.hid (show R = true by rw [e', hd3])
     clear e' h3
     go_enter Tryz.func169, Tryz.ntmps169
     go_wp2_with (fail)
     refine (T1.out _).mono ?_
     rintro e w' ⟨rfl, rfl⟩
     go_wp2_with (fail)
     refine (T2.out _).mono ?_
     rintro e w' ⟨rfl, rfl⟩
     go_wp2_with (fail)
     go_ret
     exact ⟨zi HE.out.symm, ze _ _⟩
    ·have hd3 : (av == bv) = false := by simpa using h3
     have HE := Lib.hid (show R = false by rw [e', hd3])
     clear e' h3
     go_enter Tryz.func169, Tryz.ntmps169
     go_wp2_with (fail)
     refine (T1.out _).mono ?_
     rintro e w' ⟨rfl, rfl⟩
     go_wp2_with (fail)
     refine (T2.out _).mono ?_
     rintro e w' ⟨rfl, rfl⟩
     go_wp2_with (fail)
     go_ret
     exact ⟨zi HE.out.symm, ze _ _⟩
  ·rcases HX.out with ⟨h1, e⟩ | ⟨h1, h2, e⟩ | ⟨h1, h2, e⟩
   ·have hd1 : decide (0 <= av) = false := by simp; omega
    have HE := Lib.hid e
    clear e
    go_enter Tryz.func169, Tryz.ntmps169
    go_wp2_with (fail)
    refine (T1.out _).mono ?_
    rintro e w' ⟨rfl, rfl⟩
    go_wp2_with (fail)
    refine (T2.out _).mono ?_
    rintro e w' ⟨rfl, rfl⟩
    go_wp2_with (fail)
    go_ret
    exact ⟨zi HE.out.symm, ze _ _⟩
   ·have hd2 : decide (0 <= bv) = false := by simp; omega
    have HE := Lib.hid e
    clear e
    go_enter Tryz.func169, Tryz.ntmps169
    go_wp2_with (fail)
    refine (T1.out _).mono ?_
    rintro e w' ⟨rfl, rfl⟩
    go_wp2_with (fail)
    refine (T2.out _).mono ?_
    rintro e w' ⟨rfl, rfl⟩
    go_wp2_with (fail)
    go_ret
    exact ⟨zi HE.out.symm, ze _ _⟩
   ·have e' : R = decide (av < bv) := e
    clear e
    by_cases h3 : av < bv
    ·have HE := Lib.hid (show R = true by rw [e']; exact decide_eq_true h3)
     clear e'
     go_enter Tryz.func169, Tryz.ntmps169
     go_wp2_with (fail)
     refine (T1.out _).mono ?_
     rintro e w' ⟨rfl, rfl⟩
     go_wp2_with (fail)
     refine (T2.out _).mono ?_
     rintro e w' ⟨rfl, rfl⟩
     go_wp2_with (fail)
     go_ret
     exact ⟨zi HE.out.symm, ze _ _⟩
    ·have hd3 : decide (av < bv) = false := by simpa using h3
     have HE := Lib.hid (show R = false by rw [e', hd3])
     clear e'
     go_enter Tryz.func169, Tryz.ntmps169
     go_wp2_with (fail)
     refine (T1.out _).mono ?_
     rintro e w' ⟨rfl, rfl⟩
     go_wp2_with (fail)
     refine (T2.out _).mono ?_
     rintro e w' ⟨rfl, rfl⟩
     go_wp2_with (fail)
     go_ret
     exact ⟨zi HE.out.symm, ze _ _⟩
 ·have hl1 : ((xs.length : Int) != 2) = true := by simp; omega
  have HG := Lib.hid (show (decide (xs.length = 2) && zdi kd (zn bs (xs.getD 0 0)) (zn bs (xs.getD 1 0))) = false by rw [decide_eq_false hl]; rfl)
  show Calls _ _ _ _ fun e w' => e = .returned (.bool (decide (xs.length = 2) && zdi kd (zn bs (xs.getD 0 0)) (zn bs (xs.getD 1 0)))) /\ _
  rw [HG.out]
  clear hx hl
  have q0 := y0.cell 0
  have q2 := y0.cell 2
  rcases hkd with rfl | rfl
  all_goals
   go_enter Tryz.func169, Tryz.ntmps169
   go_wp2_with (fail)
   go_ret
   exact ⟨rfl, ze _ _⟩
open Go.RowKit
set_option maxHeartbeats 2000000 in
theorem ziK (v0 v v3 : Value) (fs : List zd) (l : zC) (bs : List Int) (w : World) (hkd : ¬ (l.1 = 2 \/ l.1 = 3)) (h1 : zu w w.heap.size v0 fs) (h2 : zf2 w w.heap.size v l) (h3 : zv w w.heap.size v3 bs)
 (hn : fs.length <= 1048576) (htt : tot fs <= 1048576) (hr : l.2.2.length <= 1048576) (hr2 : bs.length <= 1048576) :
 Calls Tryz.prog 169 #[v0, v, v3] w fun e w' => e = .returned (.bool ((zai l.2 bs && decide (0 <= l.1 /\ l.1 <= 1)) && (zaQ fs (zaM l.2 bs) == decide (l.1 = 0)))) /\ Below w.heap.size w w' := by
 obtain ⟨kd, a⟩ := l
 obtain ⟨u, rfl, h2⟩ := h2
 have H1 := Lib.hid h1
 have H2 := Lib.hid h2
 have H3 := Lib.hid h3
 obtain ⟨A1, c1, rfl, hc1, _⟩ := h1
 obtain ⟨A, c, rfl, hc, _⟩ := h2
 obtain ⟨A3, c3, rfl, hc3, _⟩ := h3
 simp only at hkd hc hr
 obtain ⟨F, hF⟩ : ∃ F, F = zaM a bs := ⟨_, rfl⟩
 obtain ⟨ok, hok⟩ : ∃ ok, ok = zai a bs := ⟨_, rfl⟩
 obtain ⟨hs, hhs⟩ : ∃ hs, hs = zaQ fs F := ⟨_, rfl⟩
 obtain ⟨R, hR⟩ : ∃ R, R = ((ok && decide (0 <= kd /\ kd <= 1)) && (hs == decide (kd = 0))) := ⟨_, rfl⟩
 show Calls _ _ _ _ fun e w' => e = .returned (.bool ((zai a bs && decide (0 <= kd /\ kd <= 1)) && (zaQ fs (zaM a bs) == decide (kd = 0)))) /\ _
 rw [<- hF, <- hok, <- hhs, <- hR]
 have HR := Lib.hid hR
 have HF := Lib.hid (And.intro hF hok)
 have HFL := Lib.hid (show F.2.length <= 1048576 by have := zeo a bs; rw [hF]; omega)
 have HH := Lib.hid hhs
 clear hR hF hok hhs
 have k2 : (kd == 2) = false := by have h : kd ≠ 2 := fun e => hkd (.inl e); simpa using h
 have k3 : (kd == 3) = false := by have h : kd ≠ 3 := fun e => hkd (.inr e); simpa using h
 have y0 := Blk.new w 68 #[.int .i64 kd, .int .i64 a.1, .slice A a.2.length c]
 have q0 := y0.cell 0
 have q1 := y0.cell 1
 have q2 := y0.cell 2
 go_enter Tryz.func169, Tryz.ntmps169
 go_wp2_with (fail)
 obtain ⟨w1, hw1⟩ : ∃ w1, w1 = w.alloc (Obj.cells #[Value.int IntKind.i64 kd, Value.int IntKind.i64 a.1, Value.slice A a.2.length c] 68) := ⟨_, rfl⟩
 have B1 : Below w.heap.size w w1 := by rw [hw1]; exact ze _ _
 rw [<- hw1] at y0 ⊢
 clear hw1 q0 q1 q2
 refine (zfj _ _ a bs _ ⟨_, rfl, H2.out.on B1⟩ (H3.out.on B1) hr hr2).mono ?_
 rw [<- HF.out.1, <- HF.out.2]
 rintro e w2 ⟨A', c', rfl, ho, hb2⟩
 have B2 := zf B1 hb2
 have y2 := y0.below hb2 y0.lt
 have HO := Lib.hid ho
 clear ho y0
 go_wp2_with (fail)
 obtain ⟨w3, hw3⟩ : ∃ w3, w3 = w2.alloc (Obj.cells #[Value.int IntKind.i64 F.1, Value.slice A' F.2.length c'] 39) := ⟨_, rfl⟩
 have B23 : Below w2.heap.size w2 w3 := by rw [hw3]; exact ze _ _
 have f3 : Blk w3 w2.heap.size 39 #[.int .i64 F.1, .slice A' F.2.length c'] := by rw [hw3]; exact Blk.new _ _ _
 rw [<- hw3]
 clear hw3
 have y3 := y2.below B23 y2.lt
 have B3 := zf B2 B23
 have RF := Lib.hid (show zU w3 w3.heap.size (.agg #[.int .i64 F.1, .slice A' F.2.length c']) F from ⟨_, rfl, HO.out.rd.on B23⟩)
 have L0 := zx (y3.cell 0 : w3.cell? ⟨w.heap.size, 0, none⟩ = some (.int .i64 kd))
 have L1 := zx (f3.cell 0 : w3.cell? ⟨w2.heap.size, 0, none⟩ = some (.int .i64 F.1))
 have L2 := zx (f3.cell 1 : w3.cell? ⟨w2.heap.size, 1, none⟩ = some (.slice A' F.2.length c'))
 have CF := Lib.hid (fun x : zbG w3 => (zey _ _ fs F x.val ((H1.out.on B3).on x.2) (RF.out.on x.2) hn htt HFL.out))
 rw [<- HH.out] at CF
 clear y2 y3 f3
 cases ok
 ·have HE := Lib.hid (show R = false by rw [HR.out]; rfl)
  refine zD (by kernel_rfl) (by kernel_rfl) ?_
  repeat (go_big_quiet_step (fail))
  refine wpQuiet_nil ?_
  rintro _ ⟨xq, rfl⟩
  go_wp2_with (fail)
  go_ret
  exact ⟨zi HE.out.symm, zf B3 xq.2⟩
 ·by_cases hin : 0 <= kd /\ kd <= 1
  ·have CI := Lib.hid (fun W => zb1 hin W)
   have HD := Lib.hid (show R = (hs == decide (kd = 0)) by rw [HR.out, decide_eq_true hin]; rfl)
   by_cases h0 : kd = 0
   ·have k0 : (kd == 0) = true := by simpa using h0
    have HE := Lib.hid (show R = (hs == true) by rw [HD.out, decide_eq_true h0])
    clear h0 hin
    cases hs
    all_goals
     refine zD (by kernel_rfl) (by kernel_rfl) ?_
     repeat (go_big_quiet_step (first | (go_at_call 96; exact zeV (CI.out _)) | (go_at_call 58; exact zaq (CF.out _))))
     refine wpQuiet_nil ?_
     rintro _ ⟨xq, rfl⟩
     go_wp2_with (fail)
     go_ret
     exact ⟨zi (by rw [HE.out]; rfl), zf B3 xq.2⟩
   ·have k0 : (kd == 0) = false := by simpa using h0
    have HE := Lib.hid (show R = (hs == false) by rw [HD.out, decide_eq_false h0])
    clear h0 hin
    cases hs
    all_goals
     refine zD (by kernel_rfl) (by kernel_rfl) ?_
     repeat (go_big_quiet_step (first | (go_at_call 96; exact zeV (CI.out _)) | (go_at_call 58; exact zaq (CF.out _))))
     refine wpQuiet_nil ?_
     rintro _ ⟨xq, rfl⟩
     go_wp2_with (fail)
     go_ret
     exact ⟨zi (by rw [HE.out]; rfl), zf B3 xq.2⟩
  ·have CI := Lib.hid (fun W => zeW hin W)
   have HE := Lib.hid (show R = false by rw [HR.out, decide_eq_false hin]; rfl)
   clear hin
   refine zD (by kernel_rfl) (by kernel_rfl) ?_
   repeat (go_big_quiet_step (first | (go_at_call 96; exact zeV (CI.out _))))
   refine wpQuiet_nil ?_
   rintro _ ⟨xq, rfl⟩
   go_wp2_with (fail)
   go_ret
   exact ⟨zi HE.out.symm, zf B3 xq.2⟩
theorem zlg (v0 v v3 : Value) (fs : List zd) (l : zC) (bs : List Int) (w : World) (h1 : zu w w.heap.size v0 fs) (h2 : zf2 w w.heap.size v l) (h3 : zv w w.heap.size v3 bs)
 (hb : bs.length = 4) (ht : l.2.2.all zz = true) (hn : fs.length <= 1048576) (htt : tot fs <= 1048576) (hr : l.2.2.length <= 1048576) :
 Calls Tryz.prog 169 #[v0, v, v3] w fun e w' => e = .returned (.bool (zM fs l bs)) /\ Below w.heap.size w w' := by
 by_cases h : l.1 = 2 \/ l.1 = 3
 ·have := ziJ v v3 l bs v0 w h h2 h3 hb ht
  unfold zM
  rw [if_pos h]
  exact this
 ·have := ziK v0 v v3 fs l bs w h h1 h2 h3 hn htt hr (by omega)
  unfold zM
  rw [if_neg h]
  exact this
open Go.RowKit
set_option maxHeartbeats 1000000 in
theorem znq (v v2 : Value) (xs ys : List Int) (w : World) (h : zv w w.heap.size v xs) (h2 : zv w w.heap.size v2 ys) (hn : xs.length <= 1048576) (hn2 : ys.length <= 1048576) :
 Calls Tryz.prog 170 #[v, v2] w fun e w' => e = .returned (.int .i64 (zar xs ys)) /\ Below w.heap.size w w' := by
 obtain ⟨A, c, rfl, hc, ha⟩ := h
 obtain ⟨A2, c2, rfl, hc2, hb⟩ := h2
 go_enter Tryz.func170, Tryz.ntmps170
 go_wp2_with (fail)
 go_loopw [5] (fun i wr => ∃ k : Nat, k <= xs.length /\ k <= ys.length /\ i = .int .i64 k /\ zcW xs ys k /\ Below w.heap.size w wr) (fun i _ => xs.length - (intOf i).toNat)
 case atStart => exact ⟨0, Nat.zero_le _, Nat.zero_le _, rfl, rfl, Below.refl _ _⟩
 case round =>
  obtain ⟨k, hk, hk2, rfl, hs, hbe⟩ := hrel
  by_cases hlt : k < xs.length
  ·have hd : decide ((k : Int) < (xs.length : Int)) = true := by simp; omega
   by_cases hlt2 : k < ys.length
   ·obtain ⟨b, o, rfl, hbB, hx⟩ := ha (by omega)
    obtain ⟨b2, o2, rfl, hbB2, hx2⟩ := hb (by omega)
    have hck : wr.cell? ⟨b, o + k, none⟩ = some (.int .i64 xs[k]) := (hbe.cell (p := ⟨b, o + k, none⟩) hbB).trans (hx k hlt)
    have hck2 : wr.cell? ⟨b2, o2 + k, none⟩ = some (.int .i64 ys[k]) := (hbe.cell (p := ⟨b2, o2 + k, none⟩) hbB2).trans (hx2 k hlt2)
    clear hx hx2 ha hb
    by_cases he : xs[k] = ys[k]
    ·have HS := Lib.hid (show zcW xs ys (k + 1) by unfold zcW at hs ⊢; rw [hs, zfP hlt hlt2, if_pos he])
     have h0 : (xs[k] != ys[k]) = false := by simp [he]
     clear he hs
     go_wp2_with (fail)
     go_quiet (fail)
     go_wp2_with (fail)
     go_roundw
     case rel => exact ⟨k + 1, by omega, by omega, by go_num, HS.out, zX hbe _⟩
     case measure => simp [intOf]; omega
    ·have HS := Lib.hid (show zar xs ys = zbl xs[k] ys[k] by unfold zcW at hs; rw [hs, zfP hlt hlt2, if_neg he])
     have h0 : (xs[k] != ys[k]) = true := by simp [he]
     clear he hs
     go_wp2_with (fail)
     go_quiet (fail)
     go_wp2_with (fail)
     go_quiet ((go_at_call 115; exact zfq (zc3 _ _ _)))
     go_wp2_with (fail)
     go_ret
     exact ⟨zT HS.out.symm, zX (zX hbe _) _⟩
   ·have HS := Lib.hid (show zar xs ys = zbl xs.length ys.length by
     unfold zcW at hs
     rw [hs, zhr hlt (by omega), zbl, if_neg (by omega), if_pos (by omega)])
    clear hs ha hb
    go_wp2_with (go_at_call 115; refine (zc3 _ _ _).mono ?_; rintro e w' ⟨rfl, rfl⟩)
    go_ret
    exact ⟨zT HS.out.symm, hbe⟩
  ·have hd : decide ((k : Int) < (xs.length : Int)) = false := by simp; omega
   have HS := Lib.hid (show zar xs ys = zbl xs.length ys.length by
    unfold zcW at hs
    by_cases h3 : xs.length < ys.length
    ·rw [hs, zgg (by omega) (by omega), zbl, if_pos (by omega)]
    ·rw [hs, zg0 (by omega) (by omega), zbl, if_neg (by omega), if_neg (by omega)])
   clear hs ha hb
   go_wp2_with (go_at_call 115; refine (zc3 _ _ _).mono ?_; rintro e w' ⟨rfl, rfl⟩)
   go_ret
   exact ⟨zT HS.out.symm, hbe⟩
set_option maxHeartbeats 1000000 in
theorem zmg (w : World) :
 Calls Tryz.prog 141 #[] w fun e w' => ∃ A' c', e = .returned (.slice A' 4 c') /\ zg w' w.heap.size w'.heap.size (.slice A' 4 c') za8 /\ Below w.heap.size w w' := by
 obtain ⟨i0, hi0, hz0, hz1, hz2⟩ := info_parts Tryz.infoInt
 have C0 := Lib.hid (zjh.empty (Below.refl w.heap.size w))
 go_enter Tryz.func141, Tryz.ntmps141
 go_wp2_with (fail)
 go_loopw [1, 2] (fun o i wr => ∃ (k : Nat) (A' : Option Addr) (c' : Nat), k <= 4 /\ i = .int .i64 k /\ o = .slice A' (List.replicate k (-1 : Int)).length c' /\ zjh w wr (List.replicate k (-1)) A' c') (fun _ i _ => 4 - (intOf i).toNat)
 case atStart => exact ⟨0, _, 0, Nat.zero_le _, rfl, rfl, C0.out⟩
 case round =>
  obtain ⟨k, A', c', hk, rfl, rfl, hr'⟩ := hrel
  by_cases hlt : k < 4
  ·have HS := Lib.hid (show List.replicate (k + 1) (-1 : Int) = List.replicate k (-1) ++ [-1] from List.replicate_succ')
   have HP := Lib.hid hr'
   clear hr'
   obtain ⟨zs, hzs⟩ : ∃ zs, zs = List.replicate k (-1 : Int) := ⟨_, rfl⟩
   have hln : zs.length <= 4 := by rw [hzs]; simp; omega
   have HZ := Lib.hid hzs
   rw [<- hzs] at HP ⊢
   clear hzs
   go_wp2_with (at_builtin; refine wpList_append_lies _ rfl (.tmp 8) (.tmp 9) 23 rfl w.heap.size 3 i0 (.int .i64 0) 1 8 Tryz.underlying23 hi0 hz0 hz1 hz2 rfl (by decide) (.slice A' zs.length c') zs.length (zs.map (Value.int .i64)) rfl ?c1 ⟨_, 0, none⟩ 1 1 [.int .i64 (-1)] rfl rfl (zeR _ _ _ _ (by simp)) ?c2 (by omega) (by unfold maxLen; omega) (by omega) ?c3 _ rfl ?_)
   case c1 => exact HP.out.own.1.alloc _
   case c2 => first | rfl | (intro u hu; simp at hu; subst hu; rfl)
   case c3 => have := HP.out.below.size; simp; omega
   intro g cap w4 hown hg _ _
   have hcol := HP.out.push (Below.refl _ _) hg hown
   rw [HZ.out, <- HS.out] at hcol
   have hlen : zs.length + 1 = (List.replicate (k + 1) (-1 : Int)).length := by rw [HZ.out]; simp
   rw [hlen]
   have HC := Lib.hid hcol
   clear hcol hlen hown hg
   go_wp2_with (fail)
   go_roundw
   case rel => exact ⟨k + 1, _, _, by omega, by go_num, rfl, HC.out⟩
   case measure => simp [intOf]; omega
  ·have hkn : k = 4 := by omega
   subst hkn
   have HP := Lib.hid hr'
   clear hr'
   go_wp2_with (fail)
   go_ret
   exact ⟨_, _, rfl, HP.out.own, HP.out.below⟩
set_option maxHeartbeats 1000000 in
theorem znp (v0 v v3 : Value) (fs : List zd) (ls : List zC) (bs : List Int) (R : Bool) (hR : R = ls.all fun l => zM fs l bs) (w : World) (h1 : zu w w.heap.size v0 fs) (h2 : za6 w w.heap.size v ls) (h3 : zv w w.heap.size v3 bs)
 (hb : bs.length = 4) (ht : ∀ l ∈ ls, l.2.2.all zz = true) (hn : fs.length <= 1048576) (htt : tot fs <= 1048576) (hl : ls.length <= 1048576) (hr : zbB ls <= 1048576) :
 Calls Tryz.prog 143 #[v0, v, v3] w fun e w' => e = .returned (.bool R) /\ Below w.heap.size w w' := by
 have H1 := Lib.hid h1
 have H2 := Lib.hid h2
 have H3 := Lib.hid h3
 have HT := Lib.hid ht
 have HB := Lib.hid hb
 have HR := Lib.hid hR
 obtain ⟨A1, c1, rfl, hc1, _⟩ := h1
 obtain ⟨A, c, rfl, hc, _⟩ := h2
 obtain ⟨A3, c3, rfl, hc3, _⟩ := h3
 clear hR ht hb
 go_enter Tryz.func143, Tryz.ntmps143
 go_wp2_with (fail)
 go_loopw [7] (fun i wr => ∃ k : Nat, k <= ls.length /\ i = .int .i64 k /\ (∀ j (h : j < ls.length), j < k -> zM fs ls[j] bs = true) /\ Below w.heap.size w wr) (fun i _ => ls.length - (intOf i).toNat)
 case atStart => exact ⟨0, Nat.zero_le _, rfl, fun j _ h => absurd h (by omega), Below.refl _ _⟩
 case round =>
  obtain ⟨k, hk, rfl, hs, hbe⟩ := hrel
  by_cases hlt : k < ls.length
  ·obtain ⟨b, o, u0, u1, u2, rfl, hbB, k0, k1, k2, rfl, rfl, p3⟩ := (H2.out.on hbe).get hlt
   have hln := za3 ls k hlt
   have hlen : ls[k].2.2.length <= 1048576 := by omega
   have htk := HT.out _ (List.getElem_mem hlt)
   have hRL : zf2 wr wr.heap.size (.agg #[.int .i64 ls[k].1, .int .i64 ls[k].2.1, u2]) ls[k] := ⟨_, rfl, p3⟩
   obtain ⟨A4, c4, rfl, hc4, _⟩ := p3
   have CH := Lib.hid (zlg _ _ _ fs ls[k] bs wr (H1.out.on hbe) hRL (H3.out.on hbe) HB.out htk hn htt hlen)
   have HS := Lib.hid hs
   have HBE := Lib.hid hbe
   clear hRL hs hbe htk
   cases hh : zM fs ls[k] bs
   ·rw [hh] at CH
    have HE := Lib.hid (show R = false by
     rw [HR.out, List.all_eq_false]
     exact ⟨ls[k], List.getElem_mem hlt, by rw [hh]; simp⟩)
    go_wp2_with (go_at_call 169; refine CH.out.mono ?_; rintro e w2 ⟨rfl, hb2⟩; have HB2 := Lib.hid hb2; clear hb2)
    go_ret
    exact ⟨zi HE.out.symm, zf HBE.out HB2.out⟩
   ·rw [hh] at CH
    have HH := Lib.hid hh
    clear hh
    go_wp2_with (go_at_call 169; refine CH.out.mono ?_; rintro e w2 ⟨rfl, hb2⟩; have HB2 := Lib.hid hb2; clear hb2)
    go_roundw
    case rel => exact ⟨k + 1, by omega, by go_num, fun j h hj => by
     by_cases e : j = k
     ·subst e; exact HH.out
     ·exact HS.out j h (by omega), zf HBE.out HB2.out⟩
    case measure => simp [intOf]; omega
  ·have HE := Lib.hid (show R = true by
    rw [HR.out, List.all_eq_true]
    intro l hl
    obtain ⟨j, hj, rfl⟩ := List.getElem_of_mem hl
    exact hs j hj (by omega))
   have HBE := Lib.hid hbe
   clear hs hbe
   go_wp2_with (fail)
   go_ret
   exact ⟨zi HE.out.symm, HBE.out⟩
open Go.RowKit
theorem zbN.onM {w w' : World} {v : Value} {bs : List Nat} (h : zbN w w.heap.size v bs) (hb : Below w.heap.size w w') : zbN w' w'.heap.size v bs := by
 obtain ⟨A, c, rfl, hc, hx⟩ := h.off (w' := w') (fun k hk => hb.block k hk)
 refine ⟨A, c, rfl, hc, fun hn => ?_⟩
 obtain ⟨b, o, rfl, hlt, hk⟩ := hx hn
 exact ⟨b, o, rfl, by have := hb.size; omega, hk⟩
section
variable {w w0 wr w' w4 : World} {g bf base q : Nat} {bs : List Nat} {p : Int} {A : Option Addr} {c : Nat} {zs : List Int}
end
open Go.RowKit
theorem zpc {ar : List Int} {es : List Ent} (h : zg9 ar es) : szP (ar, es.map (·.1)) <= 100 := by
 obtain ⟨_, h2, _, _, h5, h6⟩ := h
 have hr : ∀ l : List Ent, (∀ e ∈ l, e.1.1.2.length <= 3 /\ e.1.2.length <= 4 /\ zbB e.1.2 <= 8 /\ zaL e.1.2) -> zgm (l.map (·.1)) <= l.length * 15 := fun l => by
  induction l with
  | nil => intro _; simp [zgm]
  | cons e l ih =>
   intro h
   have h1 := ih fun x hx => h x (List.mem_cons_of_mem _ hx)
   obtain ⟨h2, h3, h4, _⟩ := h e (List.mem_cons_self ..)
   have e1 : zgm ((e :: l).map (·.1)) = szR e.1 + zgm (l.map (·.1)) := by simp [zgm]
   rw [e1, List.length_cons]
   unfold szR
   omega
 have := hr es h6
 unfold szP
 rw [List.length_map]
 show ar.length + (es.length + zgm (es.map (·.1))) <= 100
 omega
open Go.RowKit
def zaE (lo : Nat) (w : World) (v : Value) (p : zal) : Prop :=
 ∃ (A Ar : Option Addr) (c cr B : Nat) (es : List Ent), v = .agg #[.slice A p.1.length c, .slice Ar es.length cr] /\ es.map (·.1) = p.2 /\ zg9 p.1 es /\ lo <= B /\ B <= w.heap.size /\ zg w lo B (.slice A p.1.length c) p.1 /\ zdl B w es Ar cr
section
variable {lo lo' : Nat} {w w' : World} {v : Value} {p : zal}
theorem zaE.keep (h : zaE lo w v p) (hs : w.heap.size <= w'.heap.size) (hk : ∀ k, lo <= k -> k < w.heap.size -> w'.heap[k]? = w.heap[k]?) : zaE lo w' v p := by
 obtain ⟨A, Ar, c, cr, B, es, e1, e2, e3, e4, e5, e6, e7⟩ := h
 exact ⟨A, Ar, c, cr, B, es, e1, e2, e3, e4, Nat.le_trans e5 hs, e6.keep fun k k1 k2 => hk k k1 (by omega), e7.keep hs fun k k1 k2 => hk k (by omega) k2⟩
theorem zaE.mono (h : zaE lo w v p) (hl : lo' <= lo) : zaE lo' w v p := by
 obtain ⟨A, Ar, c, cr, B, es, e1, e2, e3, e4, e5, e6, e7⟩ := h
 exact ⟨A, Ar, c, cr, B, es, e1, e2, e3, Nat.le_trans hl e4, e5, e6.mono hl (Nat.le_refl _), e7⟩
theorem zaE.sz (h : zaE lo w v p) : szP p <= 100 := by
 obtain ⟨A, Ar, c, cr, B, es, e1, e2, e3, _⟩ := h
 have := zpc e3
 rw [e2] at this
 exact this
theorem zaE.kinds (h : zaE lo w v p) : ∀ r ∈ p.2, zaL r.2 := by
 obtain ⟨A, Ar, c, cr, B, es, e1, e2, e3, _⟩ := h
 intro r hr
 rw [<- e2] at hr
 obtain ⟨e, he, rfl⟩ := List.mem_map.1 hr
 exact (e3.2.2.2.2.2 e he).2.2.2
theorem zaE.rd (h : zaE lo w v p) : ∃ (A A2 : Option Addr) (c c2 : Nat), v = .agg #[.slice A p.1.length c, .slice A2 p.2.length c2] /\ zv w w.heap.size (.slice A p.1.length c) p.1 /\ zbp w w.heap.size (.slice A2 p.2.length c2) p.2 := by
 obtain ⟨A, Ar, c, cr, B, es, e1, e2, e3, e4, e5, e6, e7⟩ := h
 have hl : es.length = p.2.length := by rw [<- e2]; simp
 refine ⟨A, Ar, c, cr, by rw [e1, hl], (e6.mono (Nat.le_refl _) e5).rd, ?_⟩
 have := e7.rules.rd
 rw [e2, hl] at this
 exact this
end
open Go.RowKit
set_option maxHeartbeats 400000 in
theorem zdM (v v2 : Value) (ar : List Int) (f : zd) (w : World) (h : zv w w.heap.size v ar) (h2 : zU w w.heap.size v2 f) (hr : ar.length <= 1048576) (hn : f.2.length <= 1048576) :
 Calls Tryz.prog 79 #[v, v2] w fun e w' => e = .returned (.bool (zb4 ar f)) /\ Below w.heap.size w w' := by
 have H := Lib.hid h
 have H2 := Lib.hid h2
 obtain ⟨pp, xs⟩ := f
 obtain ⟨A, c, rfl, hc, h⟩ := h
 obtain ⟨a, rfl, A2, c2, rfl, hc2, h2⟩ := h2
 by_cases ha : zr ar = true
 ·have CA : ∀ W, Below w.heap.size w W -> Calls Tryz.prog 60 #[.slice A ar.length c] W fun e w' => e = .returned (.bool true) /\ w' = W := fun W hW =>
   (zaU _ ar W (H.out.on hW) (by omega)).mono fun e w' ⟨he, hw⟩ => ⟨by rw [he, ha], hw.symm⟩
  have HCA := Lib.hid CA
  have HA := Lib.hid ha
  clear CA ha
  by_cases hp : 0 <= pp /\ pp <= (ar.length : Int) - 1
  ·have HCL := Lib.hid (zb1 hp)
   obtain ⟨p, rfl⟩ := Int.eq_ofNat_of_zero_le hp.1
   have hlt : p < ar.length := by omega
   have hltI : (p : Int) < (ar.length : Int) := by omega
   obtain ⟨b, o, rfl, hbB, hx⟩ := h (by omega)
   have hck : ∀ O, (w.alloc O).cell? ⟨b, o + p, none⟩ = some (.int .i64 ar[p]) := fun O => (World.cell?_alloc_lt w O ⟨b, o + p, none⟩ hbB).trans (hx p hlt)
   clear hp
   by_cases h3 : (xs.length : Int) = ar[p]
   ·have hd3 : ((xs.length : Int) != ar[p]) = false := by simp [h3]
    have H3 := Lib.hid (show zb4 ar ((p : Int), xs) = xs.all zt by simp [zb4, HA.out, zE, hlt, h3])
    clear h3 hx h
    go_enter Tryz.func79, Tryz.ntmps79
    go_wp2_with (fail)
    go_quiet (first | (go_at_call 60; exact Calls.quiet_of_same (HCA.out _ (zX (ze _ _) _))) | (go_at_call 96; exact zaH (HCL.out _)))
    go_wp2_with (fail)
    obtain ⟨w1, hw1⟩ : ∃ w1, w1 = (w.alloc (Obj.cells #[Value.int IntKind.i64 ↑p, Value.slice A2 xs.length c2] 39)).drewN nq := ⟨_, rfl⟩
    rw [<- hw1]
    have hbe : Below w.heap.size w w1 := by rw [hw1]; exact zX (ze _ _) _
    have hblk : Blk w1 w.heap.size 39 #[.int .i64 p, .slice A2 xs.length c2] := by rw [hw1]; exact (Blk.new w _ _).drewN _
    have hc1 : w1.cell? ⟨w.heap.size, 1, none⟩ = some (.slice A2 xs.length c2) := hblk.cell 1
    clear hw1 hck
    go_loop [5] (fun i => ∃ k : Nat, k <= xs.length /\ i = .int .i64 k /\ zcV xs k) (fun i => xs.length - (intOf i).toNat)
    case atStart => exact ⟨0, Nat.zero_le _, rfl, fun j hj => absurd hj (by omega)⟩
    case round =>
     obtain ⟨k, hk, rfl, hs⟩ := hrel
     by_cases hlk : k < xs.length
     ·obtain ⟨b2, o2, rfl, hbB2, hx2⟩ := h2 (by show 0 < xs.length; omega)
      have hck2 : w1.cell? ⟨b2, o2 + k, none⟩ = some (.int .i64 xs[k]) := (hbe.cell (p := ⟨b2, o2 + k, none⟩) hbB2).trans (hx2 k hlk)
      clear hx2 h2
      by_cases he : 0 <= xs[k] /\ xs[k] <= 5
      ·have HS := Lib.hid (hs.step (by simpa [hlk, zt] using he))
       have HK := Lib.hid (zb1 he)
       clear hs he
       go_wp2_with (go_at_call 96; refine (HK.out _).mono ?_; rintro e w' ⟨rfl, rfl⟩)
       go_round
       case rel => exact ⟨k + 1, by omega, by go_num, HS.out⟩
       case measure => simp [intOf]; omega
      ·have HE := Lib.hid (zgd hlk (by simpa [zt] using he))
       have HK := Lib.hid (zeW he)
       clear hs he
       go_wp2_with (go_at_call 96; refine (HK.out _).mono ?_; rintro e w' ⟨rfl, rfl⟩)
       go_ret
       exact ⟨zi (by rw [H3.out, HE.out]), hbe⟩
     ·have hkn : k = xs.length := by omega
      have HE := Lib.hid (show xs.all zt = true from zcV.all (by rw [<- hkn]; exact hs))
      clear hkn hs h2
      go_wp2_with (fail)
      go_ret
      exact ⟨zi (by rw [H3.out, HE.out]), hbe⟩
   ·have hd3 : ((xs.length : Int) != ar[p]) = true := by simp [h3]
    have HE := Lib.hid (show zb4 ar ((p : Int), xs) = false by simp [zb4, zE, hlt, h3])
    clear h3 hx h
    go_enter Tryz.func79, Tryz.ntmps79
    go_wp2_with (fail)
    go_quiet (first | (go_at_call 60; exact Calls.quiet_of_same (HCA.out _ (zX (ze _ _) _))) | (go_at_call 96; exact zaH (HCL.out _)))
    go_wp2_with (fail)
    go_ret
    exact ⟨zi HE.out.symm, zX (ze _ _) _⟩
  ·have HCL := Lib.hid (zeW hp)
   have HE := Lib.hid (show zb4 ar (pp, xs) = false by simp [zb4, zE]; omega)
   clear hp
   go_enter Tryz.func79, Tryz.ntmps79
   go_wp2_with (fail)
   go_quiet (first | (go_at_call 60; exact Calls.quiet_of_same (HCA.out _ (zX (ze _ _) _))) | (go_at_call 96; exact zaH (HCL.out _)))
   go_wp2_with (fail)
   go_ret
   exact ⟨zi HE.out.symm, zX (ze _ _) _⟩
 ·have CA : ∀ W, Below w.heap.size w W -> Calls Tryz.prog 60 #[.slice A ar.length c] W fun e w' => e = .returned (.bool false) /\ w' = W := fun W hW =>
   (zaU _ ar W (H.out.on hW) (by omega)).mono fun e w' ⟨he, hw⟩ => ⟨by rw [he, show zr ar = false by simpa using ha], hw.symm⟩
  have HCA := Lib.hid CA
  have HE := Lib.hid (show zb4 ar (pp, xs) = false by simp [zb4, ha])
  clear CA ha
  go_enter Tryz.func79, Tryz.ntmps79
  go_wp2_with (fail)
  go_quiet (first | (go_at_call 60; exact Calls.quiet_of_same (HCA.out _ (zX (ze _ _) _))))
  go_wp2_with (fail)
  go_ret
  exact ⟨zi HE.out.symm, zX (ze _ _) _⟩
open Go.RowKit
theorem zcy {ops : Array Oper} {rest : List Oper} {op : Oper} {a : Act} {Q : Exit -> Act -> World -> Prop} (hgd : op.guard = none) (s x : Operand)
 (ho : op.op = .call { callee := .builtin .append, args := #[s, x], argTypes := #[27, 27] })
 {w wr w2 : World} {gs : List zd} {A A4 : Option Addr} {c c4 : Nat} {av : List Value} {f : zd} (h : zbq w wr gs A c av) (hb : Below wr.heap.size wr w2) (ha : zg w2 wr.heap.size w2.heap.size (.slice A4 f.2.length c4) f.2)
 {n : Nat} (hnl : n = gs.length) (hs : a.eval s = .slice A n c) (hx : a.eval x = .slice (some ⟨w2.heap.size, 0, none⟩) 1 1) (hn : gs.length <= 1073741824)
 (K : ∀ g cap w4 av', zbq w w4 (gs ++ [f]) (some ⟨g, 0, none⟩) cap av' -> w2.grownBy w4 (Value.slice A gs.length c).ownBlock -> wpList Tryz.prog ops Q rest (a.put op.dst (.slice (some ⟨g, 0, none⟩) (n + 1) cap)) w4) :
 wpList Tryz.prog ops Q (op :: rest) a (w2.alloc (.cells #[.int .i64 f.1, .slice A4 f.2.length c4] 39)) := by
 subst hnl
 obtain ⟨i0, hi0, hz0, hz1, hz2⟩ := info_parts Tryz.infoFact
 refine wpList_append_lies _ hgd s x 27 ho w.heap.size 39 i0 (.agg #[.int .i64 0, .slice none 0 0]) 2 32 Tryz.underlying27 hi0 hz0 hz1 hz2 rfl (by decide) (.slice A gs.length c) gs.length (zaP gs av) hs ?_ ⟨w2.heap.size, 0, none⟩ 1 1 [.int .i64 f.1, .slice A4 f.2.length c4] hx rfl (zmS _ _ _ _) ?_ (by omega) (by unfold maxLen; omega) (by omega) ?_ _ rfl ?_
 ·exact (zaB h.own.row h.own.lt hb (Nat.le_refl _)).alloc _
 ·intro u hu
  simp at hu
  rcases hu with rfl | rfl <;> rfl
 ·have := h.below.size
  have := hb.size
  simp
  omega
 intro g cap w4 hown hg _ _
 obtain ⟨av', hcol, _⟩ := h.push rfl hb ha hg hown
 exact K g cap w4 av' hcol (zy hg)
def zab (f : zd) (s : List zd × Bool) (g : zd) : List zd × Bool :=
 ((if s.2 = false /\ zk f g <= 0 then s.1 ++ [f] else s.1) ++ (if zk f g = 0 then [] else [g]), s.2 || decide (zk f g <= 0))
def zbQ (fs : List zd) (f : zd) (k : Nat) : List zd × Bool := (fs.take k).foldl (zab f) ([], false)
def zQ (fs : List zd) (f : zd) : List zd := if (zbQ fs f fs.length).2 then (zbQ fs f fs.length).1 else (zbQ fs f fs.length).1 ++ [f]
theorem zhA {fs : List zd} {f : zd} {k : Nat} (h : k < fs.length) : zbQ fs f (k + 1) = zab f (zbQ fs f k) fs[k] := by
 unfold zbQ
 rw [zH fs k h, List.foldl_append]
 rfl
theorem zeK (fs : List zd) (f : zd) : ∀ k, k <= fs.length -> (zbQ fs f k).1.length <= k + (if (zbQ fs f k).2 then 1 else 0) /\ tot (zbQ fs f k).1 <= tot (fs.take k) + (if (zbQ fs f k).2 then f.2.length else 0)
 | 0, _ => by simp [zbQ, tot]
 | k + 1, hk => by
  have ih := zeK fs f k (by omega)
  rw [zhA (by omega), zkN fs k (by omega)]
  obtain ⟨h1, h2⟩ := ih
  unfold zab
  cases hp : (zbQ fs f k).2 <;> by_cases h0 : zk f fs[k] = 0 <;> by_cases hle : zk f fs[k] <= 0 <;> simp [hp, h0, hle, zdJ, zdc] at h1 h2 ⊢ <;> simp [tot] at h2 ⊢ <;> omega
theorem zdk (fs : List zd) (f : zd) : (zQ fs f).length <= fs.length + 1 /\ tot (zQ fs f) <= tot fs + f.2.length := by
 have h := zeK fs f fs.length (Nat.le_refl _)
 rw [List.take_length] at h
 unfold zQ
 cases hp : (zbQ fs f fs.length).2 <;> simp [hp, zdJ, zdc] at h ⊢ <;> simp [tot] at h ⊢ <;> omega
open Go.RowKit
structure zo2 (w1 wr : World) (fs : List zd) (f : zd) (k : Nat) (st : List zd × Bool) (A : Option Addr) (c : Nat) (av : List Value) : Prop where
 col : zbq w1 wr st.1 A c av
 st : st = zbQ fs f k
theorem With.next {fs : List zd} {f : zd} {k : Nat} {st st' : List zd × Bool} (h : st = zbQ fs f k) (hk : k < fs.length) (e : st' = zab f st fs[k]) : st' = zbQ fs f (k + 1) := by rw [zhA hk, <- h, e]
set_option maxHeartbeats 2000000 in
theorem zbu (v v2 : Value) (fs : List zd) (f : zd) (w : World) (h : zu w w.heap.size v fs) (h2 : zU w w.heap.size v2 f) (hn : fs.length <= 1048576) (ht : tot fs <= 1048576) (hf : f.2.length <= 1048576) :
 Calls Tryz.prog 98 #[v, v2] w fun e w' => ∃ A' c', e = .returned (.slice A' (zQ fs f).length c') /\ zq w' w.heap.size w'.heap.size (.slice A' (zQ fs f).length c') (zQ fs f) /\ Below w.heap.size w w' := by
 have H := Lib.hid h
 have H2 := Lib.hid h2
 obtain ⟨A, c, rfl, hc, _⟩ := h
 obtain ⟨a, rfl, A2, c2, rfl, hc2, _⟩ := h2
 go_enter Tryz.func98, Tryz.ntmps98
 go_wp2_with (fail)
 obtain ⟨w1, hw1⟩ : ∃ w1, w1 = (w.alloc (Obj.cells #[Value.int IntKind.i64 f.1, Value.slice A2 f.2.length c2] 39)) := ⟨_, rfl⟩
 have B1 : Below w.heap.size w w1 := by rw [hw1]; exact ze _ _
 have k0 : Blk w1 w.heap.size 39 #[.int .i64 f.1, .slice A2 f.2.length c2] := by rw [hw1]; exact Blk.new w _ _
 have hz1 : w.heap.size + 1 = w1.heap.size := by rw [hw1]; simp
 rw [<- hw1]
 clear hw1
 simp only [hz1]
 have HZ := Lib.hid hz1
 clear hz1
 go_loopw [5, 6, 7, 8] (fun o p i _ wr => ∃ (k : Nat) (st : List zd × Bool) (A' : Option Addr) (c' : Nat) (av : List Value), k <= fs.length /\ i = .int .i64 k /\ p = .bool st.2 /\ o = .slice A' st.1.length c' /\ zo2 w1 wr fs f k st A' c' av) (fun _ _ i _ _ => fs.length - (intOf i).toNat)
 case atStart => exact ⟨0, ([], false), _, 0, [], Nat.zero_le _, rfl, rfl, rfl, zbq.empty w1, rfl⟩
 case round =>
  obtain ⟨k, ⟨gs, pb⟩, A', c', av, hk, rfl, rfl, rfl, hcol, hst⟩ := hrel
  have hbd := zeK fs f k hk
  rw [<- hst] at hbd
  have hgl : gs.length <= 2097152 := by have := hbd.1; simp only at this; split at this <;> omega
  clear hbd
  have HST := Lib.hid hst
  clear hst
  by_cases hlt : k < fs.length
  ·obtain ⟨b, o, A3, c3, rfl, hbB, k1, k2, k3⟩ := H.out.get hlt
   have hln := zaz fs k hlt
   have K3 := Lib.hid (show zU w w.heap.size (.agg #[.int .i64 fs[k].1, .slice A3 fs[k].2.length c3]) fs[k] from ⟨_, rfl, k3⟩)
   have M1 : ∀ W, Below w.heap.size w W -> W.cell? ⟨b, o + k * 2, none⟩ = some (.int .i64 fs[k].1) := fun W hW => (hW.cell (p := ⟨b, o + k * 2, none⟩) hbB).trans k1
   have M2 : ∀ W, Below w.heap.size w W -> W.cell? ⟨b, o + k * 2 + 1, none⟩ = some (.slice A3 fs[k].2.length c3) := fun W hW => (hW.cell (p := ⟨b, o + k * 2 + 1, none⟩) hbB).trans k2
   have N1 : ∀ W, Below w1.heap.size w1 W -> W.cell? ⟨w.heap.size, 0, none⟩ = some (.int .i64 f.1) := fun W hW => (k0.below hW k0.lt).cell 0
   have N2 : ∀ W, Below w1.heap.size w1 W -> W.cell? ⟨w.heap.size, 1, none⟩ = some (.slice A2 f.2.length c2) := fun W hW => (k0.below hW k0.lt).cell 1
   have hB := zf B1 hcol.below
   have L1 := zx (M1 _ hB)
   have L2 := zx (M2 _ hB)
   have L3 := zx (N1 _ hcol.below)
   have L4 := zx (N2 _ hcol.below)
   obtain ⟨q, hq⟩ : ∃ q, q = zk f fs[k] := ⟨_, rfl⟩
   have CO := Lib.hid (fun x : zbG wr => (zcF _ _ f fs[k] x.val ((H2.out.on hB).on x.2) ((K3.out.on hB).on x.2) hf (by omega)).mono fun e w' (hh : e = .returned (.int .i64 (zk f fs[k])) /\ Below x.val.heap.size x.val w') => (⟨by rw [hh.1, hq], hh.2⟩ : e = .returned (.int .i64 q) /\ Below x.val.heap.size x.val w'))
   have HQ := Lib.hid hq
   have HC := Lib.hid hcol
   have HM := Lib.hid (And.intro M1 (And.intro M2 (And.intro N1 N2)))
   clear hq hcol k1 k2 k3 M1 M2 N1 N2
   go_wp2_with (fail)
   refine zD (by kernel_rfl) (by kernel_rfl) ?_
   repeat (go_big_quiet_step ((go_at_call 80; exact zaq (CO.out _))))
   refine wpQuiet_nil ?_
   rintro _ ⟨xq, rfl⟩
   obtain ⟨w2, hw2⟩ : ∃ w2, w2 = xq.val := ⟨_, rfl⟩
   have hb2 : Below wr.heap.size wr w2 := by rw [hw2]; exact xq.2
   rw [<- hw2]
   have HC2 := Lib.hid (HC.out.on hb2)
   clear hw2 L1 L2 L3 L4 CO
   obtain ⟨M1, M2, N1, N2⟩ := HM.out
   have P2 := HC2.out.below
   have hB2 := zf B1 P2
   have m1 := M1 _ hB2
   have m2 := M2 _ hB2
   have n1 := N1 _ P2
   have n2 := N2 _ P2
   clear M1 M2 N1 N2
   cases pb with
   | true =>
    by_cases hq0 : q = 0
    ·have t1 : (q != 0) = false := by simp [hq0]
     have HS := Lib.hid (show ((gs, true) : List zd × Bool) = zab f (gs, true) fs[k] by simp [zab, <- HQ.out, hq0])
     clear hq0
     go_wp2_with (fail)
     go_roundw
     case rel => exact ⟨k + 1, (gs, true), _, _, _, by omega, by go_num, rfl, rfl, ⟨HC2.out, With.next HST.out hlt HS.out⟩⟩
     case measure => simp [intOf]; omega
    ·have t1 : (q != 0) = true := by simp [hq0]
     have HS := Lib.hid (show ((gs ++ [fs[k]], true) : List zd × Bool) = zab f (gs, true) fs[k] by simp [zab, <- HQ.out, hq0])
     clear hq0
     go_wp2_with (fail)
     refine (zcs _ fs[k] _ (K3.out.on hB2) (by omega)).mono ?_
     rintro e w3 ⟨A4, c4, rfl, ho4, hb4⟩
     go_wp2_with (at_builtin; refine zcy rfl (.tmp 35) (.tmp 41) rfl HC2.out hb4 ho4 rfl rfl rfl (by omega) ?_; intro g4 cap4 w4 av4 hcol4 hgr4)
     have HC4 := Lib.hid hcol4
     clear hcol4 hgr4
     go_roundw
     case rel => exact ⟨k + 1, (gs ++ [fs[k]], true), _, _, _, by omega, by go_num, rfl, by simp, ⟨HC4.out, With.next HST.out hlt HS.out⟩⟩
     case measure => simp [intOf]; omega
   | false =>
    rcases Int.lt_trichotomy q 0 with hq0 | hq0 | hq0
    ·have t1 : (q != 0) = true := by simp; omega
     have t2 : decide (q <= 0) = true := by simp; omega
     have HS := Lib.hid (show (((gs ++ [f]) ++ [fs[k]], true) : List zd × Bool) = zab f (gs, false) fs[k] by
      have e1 : q ≠ 0 := by omega
      have e2 : q <= 0 := by omega
      simp [zab, <- HQ.out, e1, e2])
     clear hq0
     go_wp2_with (fail)
     refine (zcs _ f _ (H2.out.on hB2) (by omega)).mono ?_
     rintro e w3 ⟨A4, c4, rfl, ho4, hb4⟩
     go_wp2_with (at_builtin; refine zcy rfl (.tmp 28) (.tmp 31) rfl HC2.out hb4 ho4 rfl rfl rfl (by omega) ?_; intro g4 cap4 w4 av4 hcol4 hgr4; have m3 := HM.out.1 _ (zf B1 hcol4.below); have m4 := HM.out.2.1 _ (zf B1 hcol4.below); have HC4 := Lib.hid hcol4; clear hcol4 hgr4)
     refine (zcs _ fs[k] _ (K3.out.on (zf B1 HC4.out.below)) (by omega)).mono ?_
     rintro e w5 ⟨A6, c6, rfl, ho6, hb6⟩
     go_wp2_with (at_builtin; refine zcy rfl (.tmp 35) (.tmp 41) rfl HC4.out hb6 ho6 (by simp) rfl rfl (by simp; omega) ?_; intro g6 cap6 w6 av6 hcol6 hgr6; have HC6 := Lib.hid hcol6; clear hcol6 hgr6)
     go_roundw
     case rel => exact ⟨k + 1, ((gs ++ [f]) ++ [fs[k]], true), _, _, _, by omega, by go_num, rfl, by simp, ⟨HC6.out, With.next HST.out hlt HS.out⟩⟩
     case measure => simp [intOf]; omega
    ·have t1 : (q != 0) = false := by simp [hq0]
     have t2 : decide (q <= 0) = true := by simp; omega
     have HS := Lib.hid (show ((gs ++ [f], true) : List zd × Bool) = zab f (gs, false) fs[k] by simp [zab, <- HQ.out, hq0])
     clear hq0
     go_wp2_with (fail)
     refine (zcs _ f _ (H2.out.on hB2) (by omega)).mono ?_
     rintro e w3 ⟨A4, c4, rfl, ho4, hb4⟩
     go_wp2_with (at_builtin; refine zcy rfl (.tmp 28) (.tmp 31) rfl HC2.out hb4 ho4 rfl rfl rfl (by omega) ?_; intro g4 cap4 w4 av4 hcol4 hgr4; have HC4 := Lib.hid hcol4; clear hcol4 hgr4)
     go_roundw
     case rel => exact ⟨k + 1, (gs ++ [f], true), _, _, _, by omega, by go_num, rfl, by simp, ⟨HC4.out, With.next HST.out hlt HS.out⟩⟩
     case measure => simp [intOf]; omega
    ·have t1 : (q != 0) = true := by simp; omega
     have t2 : decide (q <= 0) = false := by simp; omega
     have HS := Lib.hid (show ((gs ++ [fs[k]], false) : List zd × Bool) = zab f (gs, false) fs[k] by
      have e1 : q ≠ 0 := by omega
      have e2 : ¬ q <= 0 := by omega
      simp [zab, <- HQ.out, e1, e2])
     clear hq0
     go_wp2_with (fail)
     refine (zcs _ fs[k] _ (K3.out.on hB2) (by omega)).mono ?_
     rintro e w3 ⟨A4, c4, rfl, ho4, hb4⟩
     go_wp2_with (at_builtin; refine zcy rfl (.tmp 35) (.tmp 41) rfl HC2.out hb4 ho4 rfl rfl rfl (by omega) ?_; intro g4 cap4 w4 av4 hcol4 hgr4; have HC4 := Lib.hid hcol4; clear hcol4 hgr4)
     go_roundw
     case rel => exact ⟨k + 1, (gs ++ [fs[k]], false), _, _, _, by omega, by go_num, rfl, by simp, ⟨HC4.out, With.next HST.out hlt HS.out⟩⟩
     case measure => simp [intOf]; omega
  ·have hkn : fs.length = k := by omega
   have HB := Lib.hid (zf B1 hcol.below)
   have hz1 : w.heap.size <= w1.heap.size := B1.size
   have n1 : wr.cell? ⟨w.heap.size, 0, none⟩ = some (.int .i64 f.1) := (k0.below hcol.below k0.lt).cell 0
   have n2 : wr.cell? ⟨w.heap.size, 1, none⟩ = some (.slice A2 f.2.length c2) := (k0.below hcol.below k0.lt).cell 1
   have HC := Lib.hid hcol
   cases pb with
   | true =>
    have HE := Lib.hid (show zQ fs f = gs by unfold zQ; rw [hkn, <- HST.out]; rfl)
    clear hcol hkn
    go_wp2_with (fail)
    go_ret
    rw [HE.out]
    exact ⟨_, _, rfl, HC.out.own.own.mono hz1 (Nat.le_refl _), HB.out⟩
   | false =>
    have HE := Lib.hid (show zQ fs f = gs ++ [f] by unfold zQ; rw [hkn, <- HST.out]; rfl)
    clear hcol hkn
    go_wp2_with (fail)
    refine (zcs _ f _ (H2.out.on HB.out) (by omega)).mono ?_
    rintro e w3 ⟨A4, c4, rfl, ho4, hb4⟩
    go_wp2_with (at_builtin; refine zcy rfl (.tmp 45) (.tmp 48) rfl HC.out hb4 ho4 rfl rfl rfl (by omega) ?_; intro g4 cap4 w4 av4 hcol4 hgr4; have HC4 := Lib.hid hcol4; clear hcol4 hgr4)
    go_ret
    rw [HE.out]
    exact ⟨some ⟨g4, 0, none⟩, cap4, by simp, HC4.out.own.own.mono hz1 (Nat.le_refl _), zf B1 HC4.out.below⟩
end Go.Proofs.YtofkcmihcgmmpaaGreatDoor
namespace Go.Proofs
open Go.Shelf
def Tryz.sortFact_ren : Go.Shelf.Ren := ⟨fun | 6 => 85 | 15 => 119 | 14 => 118 | 28 => 155 | 29 => 156 | 20 => 147 | 21 => 148 | 22 => 149 | 23 => 150 | 24 => 151 | 25 => 152 | 26 => 153 | 27 => 154 | 46 => 171 | 47 => 172 | 48 => 173 | 49 => 174 | 50 => 175 | 57 => 190 | n => n, fun | 22 => 27 | 24 => 39 | 25 => 61 | 3 => 3 | 39 => 128 | 0 => 0 | 53 => 101 | 55 => 52 | 4 => 4 | 46 => 165 | 45 => 164 | 50 => 114 | 5 => 5 | 9 => 9 | 66 => 179 | 70 => 183 | 76 => 197 | 77 => 198 | n => n, fun | n => n⟩
theorem Tryz.sortFact : Go.Proofs.SlLaysF0.n6 Tryz.prog Tryz.sortFact_ren := {
 mixed := by kernel_rfl
 f6 := ⟨Tryz.f85.name, by decide, Tryz.func85.trans (congrArg some (by kernel_rfl))⟩
 f14 := ⟨Tryz.f118.name, by decide, Tryz.func118.trans (congrArg some (by kernel_rfl))⟩
 f15 := Tryz.func119.trans (congrArg some (by kernel_rfl))
 f20 := ⟨Tryz.f147.name, by decide, Tryz.func147.trans (congrArg some (by kernel_rfl))⟩
 f21 := ⟨Tryz.f148.name, by decide, Tryz.func148.trans (congrArg some (by kernel_rfl))⟩
 f22 := ⟨Tryz.f149.name, by decide, Tryz.func149.trans (congrArg some (by kernel_rfl))⟩
 f23 := ⟨Tryz.f150.name, by decide, Tryz.func150.trans (congrArg some (by kernel_rfl))⟩
 f24 := ⟨Tryz.f151.name, by decide, Tryz.func151.trans (congrArg some (by kernel_rfl))⟩
 f25 := ⟨Tryz.f152.name, by decide, Tryz.func152.trans (congrArg some (by kernel_rfl))⟩
 f26 := ⟨Tryz.f153.name, by decide, Tryz.func153.trans (congrArg some (by kernel_rfl))⟩
 f27 := ⟨Tryz.f154.name, by decide, Tryz.func154.trans (congrArg some (by kernel_rfl))⟩
 f28 := Tryz.func155.trans (congrArg some (by kernel_rfl))
 f29 := Tryz.func156.trans (congrArg some (by kernel_rfl))
 f46 := ⟨Tryz.f171.name, by decide, Tryz.func171.trans (congrArg some (by kernel_rfl))⟩
 f47 := Tryz.func172.trans (congrArg some (by kernel_rfl))
 f48 := Tryz.func173.trans (congrArg some (by kernel_rfl))
 f49 := ⟨Tryz.f174.name, by decide, Tryz.func174.trans (congrArg some (by kernel_rfl))⟩
 f50 := ⟨Tryz.f175.name, by decide, Tryz.func175.trans (congrArg some (by kernel_rfl))⟩
 f57 := ⟨Tryz.f190.name, by decide, Tryz.func190.trans (congrArg some (by kernel_rfl))⟩
 t0 := Tryz.underlying0
 a0 := Tryz.isAgg0
 z0 := Tryz.sizeOf0
 v0 := Tryz.zeroValue0
 t3 := Tryz.underlying3
 a3 := Tryz.isAgg3
 z3 := Tryz.sizeOf3
 v3 := Tryz.zeroValue3
 t4 := Tryz.underlying4
 a4 := Tryz.isAgg4
 z4 := Tryz.sizeOf4
 v4 := Tryz.zeroValue4
 t5 := Tryz.underlying5
 a5 := Tryz.isAgg5
 z5 := Tryz.sizeOf5
 v5 := Tryz.zeroValue5
 t9 := Tryz.underlying9
 a9 := Tryz.isAgg9
 z9 := Tryz.sizeOf9
 v9 := Tryz.zeroValue9
 t22 := Tryz.underlying27
 a22 := Tryz.isAgg27
 z22 := Tryz.sizeOf27
 v22 := Tryz.zeroValue27
 t25 := Tryz.underlying61
 a25 := Tryz.isAgg61
 z25 := Tryz.sizeOf61
 v25 := Tryz.zeroValue61
 t39 := Tryz.underlying128
 a39 := Tryz.isAgg128
 z39 := Tryz.sizeOf128
 v39 := Tryz.zeroValue128
 t45 := Tryz.underlying164
 a45 := Tryz.isAgg164
 z45 := Tryz.sizeOf164
 v45 := Tryz.zeroValue164
 t46 := Tryz.underlying165
 a46 := Tryz.isAgg165
 z46 := Tryz.sizeOf165
 v46 := Tryz.zeroValue165
 t50 := Tryz.underlying114
 a50 := Tryz.isAgg114
 z50 := Tryz.sizeOf114
 v50 := Tryz.zeroValue114
 t53 := Tryz.underlying101
 a53 := Tryz.isAgg101
 z53 := Tryz.sizeOf101
 v53 := Tryz.zeroValue101
 t55 := Tryz.underlying52
 a55 := Tryz.isAgg52
 z55 := Tryz.sizeOf52
 v55 := Tryz.zeroValue52
 t66 := Tryz.underlying179
 a66 := Tryz.isAgg179
 z66 := Tryz.sizeOf179
 v66 := Tryz.zeroValue179
 t70 := Tryz.underlying183
 a70 := Tryz.isAgg183
 z70 := Tryz.sizeOf183
 v70 := Tryz.zeroValue183
 t76 := Tryz.underlying197
 a76 := Tryz.isAgg197
 z76 := Tryz.sizeOf197
 v76 := Tryz.zeroValue197
 t77 := Tryz.underlying198
 a77 := Tryz.isAgg198
 z77 := Tryz.sizeOf198
 v77 := Tryz.zeroValue198 }
end Go.Proofs
namespace Go.Proofs.YtofkcmihcgmmpaaGreatDoor
set_option maxRecDepth 100000
open Go.RowKit
def zay (w : World) (B : Nat) (av : List Value) (fs : List zd) : Prop := av.length = fs.length /\ ∀ k (_ : k < fs.length) (h' : k < av.length) (h : k < fs.length), zv w B av[k] fs[k].2
theorem zay.nil (w : World) (B : Nat) : zay w B [] [] := ⟨rfl, fun k h => absurd h (by simp)⟩
theorem zay.on {w w' : World} {av : List Value} {fs : List zd} (h : zay w w.heap.size av fs) (hb : Below w.heap.size w w') : zay w' w'.heap.size av fs := ⟨h.1, fun k h1 h2 h3 => (h.2 k h1 h2 h3).on hb⟩
theorem zay.append {w : World} {B : Nat} {av av2 : List Value} {fs fs2 : List zd} (h : zay w B av fs) (h2 : zay w B av2 fs2) : zay w B (av ++ av2) (fs ++ fs2) := by
 refine ⟨by simp [h.1, h2.1], fun k _ h' hk => ?_⟩
 by_cases e : k < fs.length
 ·have e' : k < av.length := by rw [h.1]; exact e
  rw [List.getElem_append_left e', List.getElem_append_left e]
  exact h.2 k e e' e
 ·have e' : ¬ k < av.length := by rw [h.1]; exact e
  have l1 := h.1
  simp only [List.length_append] at h' hk
  rw [List.getElem_append_right (by omega), List.getElem_append_right (by omega)]
  have := h2.2 (k - fs.length) (by omega) (by omega) (by omega)
  simpa [l1] using this
theorem zfz : ∀ (fs : List zd) (av : List Value) (_ : av.length = fs.length) (fs2 : List zd) (av2 : List Value), zaP (fs ++ fs2) (av ++ av2) = zaP fs av ++ zaP fs2 av2
 | [], [], _, _, _ => by simp [zaP]
 | [], _ :: _, h, _, _ => by simp at h
 | _ :: _, [], h, _, _ => by simp at h
 | f :: fs, a :: av, h, fs2, av2 => by simp [zaP, zfz fs av (by simpa using h) fs2 av2]
def ze2 (w : World) (A : Option Addr) (cs : List Value) : Prop := (A = none -> cs = []) /\ ∀ ad, A = some ad -> ∀ j u, cs[j]? = some u -> w.cell? (ad.add j) = some u
theorem zlp (fs : List zd) (av : List Value) (h : av.length = fs.length) (j : Nat) (u : Value) (hu : (zaP fs av)[j]? = some u) :
 ∃ k, ∃ (hk : k < fs.length) (hk' : k < av.length), (j = k * 2 /\ u = .int .i64 fs[k].1) \/ (j = k * 2 + 1 /\ u = av[k]) := by
 have hl := za4 fs av h
 have hj : j < fs.length * 2 := by
  rcases Nat.lt_or_ge j (fs.length * 2) with h1 | h1
  ·exact h1
  ·rw [List.getElem?_eq_none (by omega)] at hu
   cases hu
 have hk : j / 2 < fs.length := by omega
 obtain ⟨c0, c1⟩ := zcM fs av h (j / 2) hk (by omega)
 refine ⟨j / 2, hk, by omega, ?_⟩
 by_cases e : j % 2 = 0
 ·left
  have e1 : j = j / 2 * 2 := by omega
  refine ⟨e1, ?_⟩
  rw [e1, c0] at hu
  exact (Option.some.inj hu).symm
 ·right
  have e1 : j = j / 2 * 2 + 1 := by omega
  refine ⟨e1, ?_⟩
  rw [e1, c1] at hu
  exact (Option.some.inj hu).symm
theorem zu.heads {w : World} {B : Nat} {v : Value} {fs : List zd} (h : zu w B v fs) : ∃ A c av, v = .slice A fs.length c /\ zay w B av fs /\ ze2 w A (zaP fs av) := by
 obtain ⟨A, c, rfl, hc, h⟩ := h
 rcases Nat.eq_zero_or_pos fs.length with h0 | h0
 ·have : fs = [] := List.eq_nil_of_length_eq_zero h0
  subst this
  exact ⟨A, c, [], rfl, zay.nil _ _, fun _ => rfl, fun ad _ j u hu => by simp [zaP] at hu⟩
 ·obtain ⟨b, o, rfl, hb, hx⟩ := h h0
  let av : List Value := (List.finRange fs.length).map fun k => (hx k.1 k.2).choose
  have hl : av.length = fs.length := by simp [av]
  have hav : ∀ k (h : k < fs.length) (h' : k < av.length), av[k] = (hx k h).choose := fun k h h' => by simp [av]
  refine ⟨_, c, av, rfl, ⟨hl, fun k _ h' hk => ?_⟩, fun e => (by cases e), fun ad e j u hu => ?_⟩
  ·rw [hav k hk h']
   exact (hx k hk).choose_spec.2.2
  ·injection e with e
   subst e
   obtain ⟨k, hk, hk', h1⟩ := zlp fs av hl j u hu
   rw [Go.WideShapes.add_plain]
   rcases h1 with ⟨rfl, rfl⟩ | ⟨rfl, rfl⟩
   ·exact (hx k hk).choose_spec.1
   ·rw [hav k hk hk']
    exact (hx k hk).choose_spec.2.1
theorem zok (fs : List zd) (av : List Value) {w : World} {B : Nat} (h : zay w B av fs) : ∀ u ∈ zaP fs av, u.oneCell' = true := by
 intro u hu
 obtain ⟨j, hj, e⟩ := List.getElem_of_mem hu
 obtain ⟨k, hk, hk', h1⟩ := zlp fs av h.1 j u (by rw [List.getElem?_eq_getElem hj, e])
 rcases h1 with ⟨_, rfl⟩ | ⟨_, rfl⟩
 ·rfl
 ·obtain ⟨A, c, e, _⟩ := h.2 k hk hk' hk
  rw [e]
  rfl
theorem zhd {P : Program} (w : World) (base : Nat) (t ty e : TypeId) (i : TypeInfo) (z : Value) (bytes : Nat) (ht : P.underlying t = some (.slice e)) (hi : P.info? e = some i) (hz : i.zero = some z)
 (hsize : i.size = 2) (hby : i.bytes = bytes) (hzs : z.cells.size = 2)
 (v : Value) (n : Nat) (xs : List Value) (hown : w.ownsRow base e 2 v n xs) (A : Option Addr) (c : Nat) (fs : List zd) (av : List Value) (B : Nat) (ha : zay w B av fs) (hx : ze2 w A (zaP fs av))
 (h63 : n + fs.length <= maxLen) (hbytes : (n + fs.length) * bytes <= 140737488355328) (hbase : base <= w.heap.size) :
 ∃ A' c' w', (Builtin.append_ #[t, t] ty #[v, .slice A fs.length c]).run P w = .ok (.slice A' (n + fs.length) c') w' /\ w'.ownsRow base e 2 (.slice A' (n + fs.length) c') (n + fs.length) (xs ++ zaP fs av) /\ w.grownBy w' v.ownBlock /\
  ((Value.slice A' (n + fs.length) c').ownBlock = v.ownBlock \/ (Value.slice A' (n + fs.length) c').ownBlock = some w.heap.size) := by
 have hform : ∀ {w' : World} {v' : Value} {m : Nat} {zs : List Value}, w'.ownsRow base e 2 v' m zs -> ∃ A c, v' = .slice A m c := by
  intro w' v' m zs h
  rcases h.2 with ⟨rfl, h0⟩ | ⟨g, cap, _, rfl, _⟩
  ·exact ⟨none, 0, by rw [h0]⟩
  ·exact ⟨_, _, rfl⟩
 rcases A with _ | ad
 ·have h0 := hx.1 rfl
  have hl := za4 fs av ha.1
  rw [h0] at hl
  have hfs : fs = [] := List.eq_nil_of_length_eq_zero (by simp at hl; omega)
  subst hfs
  obtain ⟨A', c', hv⟩ := hform hown
  refine ⟨A', c', w, ?_, by simpa [zaP, <- hv] using hown, World.grownBy.refl w _, .inl (by simp only [List.length_nil, Nat.add_zero]; rw [hv])⟩
  simp only [List.length_nil, Nat.add_zero]
  rw [<- hv]
  exact zcH w base t ty e i 2 ht hi v n xs hown c
 ·obtain ⟨v', w', hrun, h2, h3, _, h5⟩ := run_append_own_at (P := P) w base t ty e i z 2 bytes ht hi hz hsize hby hzs (by decide) v n xs hown ad fs.length c (zaP fs av) (za4 fs av ha.1) (hx.2 ad rfl)
   (zok fs av ha) h63 hbytes hbase
  obtain ⟨A', c', hv⟩ := hform h2
  subst hv
  exact ⟨A', c', w', hrun, h2, h3, h5⟩
theorem zcg {P : Program} {w : World} {ops : Array Oper} {rest : List Oper} {o : Oper} {a : Act} {Q : Exit -> Act -> World -> Prop} (hgd : o.guard = none) (s x : Operand) (t : TypeId)
 (ho : o.op = .call { callee := .builtin .append, args := #[s, x], argTypes := #[t, t] })
 (base : Nat) (e : TypeId) (i : TypeInfo) (z : Value) (bytes : Nat) (ht : P.underlying t = some (.slice e)) (hi : P.info? e = some i) (hz : i.zero = some z)
 (hsize : i.size = 2) (hby : i.bytes = bytes) (hzs : z.cells.size = 2)
 (v : Value) (n : Nat) (xs : List Value) (hs : a.eval s = v) (hown : w.ownsRow base e 2 v n xs) (A : Option Addr) (c : Nat) (fs : List zd) (av : List Value) (B : Nat) (hx : a.eval x = .slice A fs.length c) (ha : zay w B av fs) (hc : ze2 w A (zaP fs av))
 (h63 : n + fs.length <= maxLen) (hbytes : (n + fs.length) * bytes <= 140737488355328) (hbase : base <= w.heap.size)
 (h : ∀ A' c' w', w'.ownsRow base e 2 (.slice A' (n + fs.length) c') (n + fs.length) (xs ++ zaP fs av) -> w.grownBy w' v.ownBlock ->
   ((Value.slice A' (n + fs.length) c').ownBlock = v.ownBlock \/ (Value.slice A' (n + fs.length) c').ownBlock = some w.heap.size) -> wpList P ops Q rest (a.put o.dst (.slice A' (n + fs.length) c')) w') : wpList P ops Q (o :: rest) a w := by
 refine wpList_plain hgd fun _ hK => ?_
 obtain ⟨A', c', w', hrun, h2, h3, h4⟩ := zhd (P := P) w base t o.type e i z bytes ht hi hz hsize hby hzs v n xs hown A c fs av B ha hc h63 hbytes hbase
 unfold Oper.wp execOp
 simp only [ho, resolve, invoke, builtin, Sem.run_bind, Sem.run_pure, Result.andThen_ok, List.map_toArray, List.map_cons, List.map_nil, hs, hx, hrun]
 exact hK _ _ (h A' c' w' h2 h3 h4)
open Go.RowKit
theorem ze2.on {w w' : World} {A : Option Addr} {cs : List Value} (h : ze2 w A cs) (hb : Below w.heap.size w w') : ze2 w' A cs :=
 ⟨h.1, fun ad e j u hu => (hb.cell (World.block_lt_of_cell? _ _ (h.2 ad e j u hu))).trans (h.2 ad e j u hu)⟩
structure zfd (w : World) (base : Nat) (A : Option Addr) (c : Nat) (fs : List zd) (av : List Value) : Prop where
 row : w.ownsRow base 39 2 (.slice A fs.length c) fs.length (zaP fs av)
 rd : zay w w.heap.size av fs
theorem zfd.on {w w' : World} {base : Nat} {A : Option Addr} {c : Nat} {fs : List zd} {av : List Value} (h : zfd w base A c fs av) (hb : Below w.heap.size w w') : zfd w' base A c fs av :=
 ⟨zaB h.row (fun g hg => (h.row.lt g hg).2) hb (Nat.le_refl _), h.rd.on hb⟩
theorem zfd.mono {w : World} {base base' : Nat} {A : Option Addr} {c : Nat} {fs : List zd} {av : List Value} (h : zfd w base A c fs av) (hb : base' <= base) : zfd w base' A c fs av := ⟨zcI h.row hb, h.rd⟩
theorem zfd.facts {w : World} {base : Nat} {A : Option Addr} {c : Nat} {fs : List zd} {av : List Value} (h : zfd w base A c fs av) : zu w w.heap.size (.slice A fs.length c) fs := by
 have hcells := @World.ownsRow.cells w base 39 2 (.slice A fs.length c) fs.length (zaP fs av) h.row
 have hlt := h.row.lt
 have hl := h.rd.1
 rcases h.row.2 with ⟨e, h0⟩ | ⟨g, cap, cur, e, hb, hgg, hn, _⟩
 ·injection e with e1 _ e3
  subst e1
  subst e3
  exact ⟨none, 0, rfl, by omega, fun hp => by omega⟩
 ·injection e with e1 _ e3
  subst e1
  subst e3
  refine ⟨_, _, rfl, hn, fun _ => ⟨g, 0, rfl, (hlt g rfl).2, fun k hk => ?_⟩⟩
  obtain ⟨c0, c1⟩ := zcM fs av hl k hk (by omega)
  have d0 := hcells (g := g) rfl _ _ c0
  have d1 := hcells (g := g) rfl _ _ c1
  rw [Go.WideShapes.add_plain] at d0 d1
  exact ⟨_, d0, d1, h.rd.2 k hk (by omega) hk⟩
theorem zjv (ad : Addr) (n c : Nat) (w : World) : (binOp .eql 27 (.slice (some ad) n c) (.slice none 0 0)).run Tryz.prog w = .ok (.bool false) w := by kernel_rfl
theorem zku (n c : Nat) (w : World) : (binOp .eql 27 (.slice none n c) (.slice none 0 0)).run Tryz.prog w = .ok (.bool true) w := by kernel_rfl
open Go.RowKit
theorem zdN (n : Nat) : (Builtin.zeroCells #[Value.int IntKind.i64 0, Value.slice none 0 0] n).size = n * 2 := by simp [Builtin.zeroCells]
set_option maxHeartbeats 1000000 in
theorem zlm (n : Nat) (w : World) (hn : n <= 4194304) :
 Calls Tryz.prog 88 #[.slice none 0 0, .int .i64 n] w fun e w' => ∃ A c, e = .returned (.slice A 0 c) /\ zfd w' w.heap.size A c [] [] /\ Below w.heap.size w w' := by
 obtain ⟨i0, hi0, hz0, hz1, hz2⟩ := info_parts Tryz.infoFact
 by_cases h0 : n = 0
 ·subst h0
  go_enter Tryz.func88, Tryz.ntmps88
  go_wp2_with (fail)
  go_ret
  exact ⟨none, 0, rfl, ⟨World.ownsRow_nil _ _ _ _, zay.nil _ _⟩, Below.refl _ _⟩
 ·have h1 : ¬ ((n : Int) < 0) := by omega
  have h4 : (n : Int) > 0 := by omega
  have hold : (Builtin.firstCells i0.size 0 (.slice none 0 0)).run Tryz.prog w.drew = .ok (#[] : Array Value) w.drew := run_firstCells_none w.drew i0.size 0 0 0
  have hrz : ∀ ty, (Builtin.append_ #[27, 3] ty #[.slice none 0 0, .int .i64 (n : Int)]).run Tryz.prog w =
   .ok (.slice (some ⟨w.heap.size, 0, none⟩) n (grownCap w n 0 39)) (w.drew.alloc (.cells (Builtin.zeroCells #[.int .i64 0, .slice none 0 0] n ++ Builtin.zeroCells #[.int .i64 0, .slice none 0 0] (grownCap w n 0 39 - n)) 39)) := fun ty => by
   have h := Lib.run_append_grow_zeros w 27 3 ty 39 i0 (.agg #[.int .i64 0, .slice none 0 0]) .i64 .i64 Tryz.underlying27 Tryz.underlying3 hi0 hz0 none 0 0 [] hold n (by omega) (by omega) (by omega) (by omega) (by rw [hz2]; omega)
    (growslice_fits (by omega) (by rw [hz2]; omega))
   simpa [Value.cells] using h
  have hGn : n <= grownCap w n 0 39 := grownCap_ge w _ _ _
  have hGm : grownCap w n 0 39 <= maxLen := grownCap_le_maxLen w n 0 39 (by unfold maxLen; omega)
  obtain ⟨G, hG⟩ : ∃ G, G = grownCap w n 0 39 := ⟨_, rfl⟩
  rw [<- hG] at hrz hGn hGm
  have hG63 : G <= 9223372036854775807 := by unfold maxLen at hGm; omega
  have hsz : (Builtin.zeroCells #[Value.int IntKind.i64 0, Value.slice none 0 0] n ++ Builtin.zeroCells #[Value.int IntKind.i64 0, Value.slice none 0 0] (G - n)).size = G * 2 := by
   rw [Array.size_append, zdN, zdN]
   omega
  obtain ⟨zc, hzc⟩ : ∃ zc, zc = (Builtin.zeroCells #[Value.int IntKind.i64 0, Value.slice none 0 0] n ++ Builtin.zeroCells #[Value.int IntKind.i64 0, Value.slice none 0 0] (G - n)) := ⟨_, rfl⟩
  rw [<- hzc] at hrz hsz
  have HS := Lib.hid hsz
  clear hold hG hzc hsz h0
  go_enter Tryz.func88, Tryz.ntmps88
  go_wp2_with (at_builtin; refine Lib.wpList_append_run _ rfl _ _ _ _ rfl _ _ rfl rfl _ _ (hrz _) ?_)
  go_ret
  refine ⟨_, _, rfl, ⟨?_, zay.nil _ _⟩, (Below.refl _ _).drew.alloc (Nat.le_refl _) _⟩
  exact World.ownsRow_made w.drew zc G (Nat.le_refl _) hGm HS.out
set_option maxHeartbeats 400000 in
theorem zot (A : Option Addr) (c : Nat) (fs : List zd) (av : List Value) (w : World) (ha : zay w w.heap.size av fs) (hc : ze2 w A (zaP fs av)) (hl : fs.length <= 4194304) :
 Calls Tryz.prog 84 #[.slice A fs.length c] w fun e w' => ∃ A' c', e = .returned (.slice A' fs.length c') /\ zfd w' w.heap.size A' c' fs av /\ Below w.heap.size w w' := by
 obtain ⟨i0, hi0, hz0, hz1, hz2⟩ := info_parts Tryz.infoFact
 have hE := zjv
 have hN := zku
 rcases A with _ | ad
 ·have h0 := hc.1 rfl
  have hfl := za4 fs av ha.1
  rw [h0] at hfl
  have hfs : fs = [] := List.eq_nil_of_length_eq_zero (by simp at hfl; omega)
  have hav : av = [] := List.eq_nil_of_length_eq_zero (by rw [ha.1, hfs]; rfl)
  subst hfs hav
  clear hfl h0 ha hc
  go_enter Tryz.func84, Tryz.ntmps84
  go_wp2_with (fail)
  go_ret
  exact ⟨none, 0, rfl, ⟨World.ownsRow_nil _ _ _ _, zay.nil _ _⟩, Below.refl _ _⟩
 ·have HA := Lib.hid ha
  have HC := Lib.hid hc
  clear ha hc
  go_enter Tryz.func84, Tryz.ntmps84
  go_wp2_with (at_builtin; refine zcg rfl (.tmp 5) (.tmp 6) 27 rfl w.heap.size 39 i0 (.agg #[.int .i64 0, .slice none 0 0]) 32 Tryz.underlying27 hi0 hz0 hz1 hz2 rfl (.slice (some ⟨w.heap.size, 0, none⟩) 0 0) 0 [] rfl ?c1 (some ad) c fs av _ rfl (HA.out.on (ze _ _)) ?c2 (by unfold maxLen; omega) (by omega) (by simp) ?_)
  case c1 => exact World.ownsRow_made w #[] 0 (Nat.le_refl _) (by decide) rfl
  case c2 => exact HC.out.on (ze _ _)
  intro A' c' w' hown hgr hob
  have hB : Below w.heap.size w w' := (ze w _).grown hgr (by simp) (fun b hb => by simp [Value.ownBlock] at hb; omega)
  have HR := Lib.hid (show zfd w' w.heap.size A' c' fs av from ⟨hown, HA.out.on hB⟩)
  have HB := Lib.hid hB
  clear hown hgr hob hB
  go_wp2_with (fail)
  go_ret
  exact ⟨A', c', rfl, HR.out, HB.out⟩
def zde (xs ys : List zd) (k : Nat) : List zd := if k = 0 then [] else if k = 1 then xs else xs ++ ys
def zhS (xs ys : List Value) (k : Nat) : List Value := if k = 0 then [] else if k = 1 then xs else xs ++ ys
def zjM (n m k : Nat) : Nat := if k = 0 then 0 else if k = 1 then n else n + m
set_option maxHeartbeats 2000000 in
theorem zmz (g c : Nat) (v v2 : Value) (xs ys : List zd) (w : World) (k0 : w.cell? ⟨g, 0, none⟩ = some v) (k1 : w.cell? ⟨g, 1, none⟩ = some v2) (h : zu w w.heap.size v xs) (h2 : zu w w.heap.size v2 ys) (hn : xs.length + ys.length <= 2097152) :
 Calls Tryz.prog 49 #[.slice (some ⟨g, 0, none⟩) 2 c] w fun e w' => ∃ A' c' av, e = .returned (.slice A' (xs ++ ys).length c') /\ zfd w' w.heap.size A' c' (xs ++ ys) av /\ Below w.heap.size w w' := by
 obtain ⟨i0, hi0, hz0, hz1, hz2⟩ := info_parts Tryz.infoFact
 obtain ⟨A1, c1, av1, rfl, ha1, hc1⟩ := h.heads
 obtain ⟨A2, c2, av2, rfl, ha2, hc2⟩ := h2.heads
 have HA1 := Lib.hid (And.intro ha1 hc1)
 have HA2 := Lib.hid (And.intro ha2 hc2)
 clear h h2 ha1 ha2 hc1 hc2
 go_enter Tryz.func49, Tryz.ntmps49
 go_wp2_with (fail)
 go_loop [3, 5, 11] (fun s _ i => ∃ k : Nat, k <= 2 /\ i = .int .i64 k /\ s = .int .i64 (zjM xs.length ys.length k : Nat)) (fun _ _ i => 2 - (intOf i).toNat)
 case atStart => exact ⟨0, by omega, rfl, rfl⟩
 case round =>
  obtain ⟨k, hk, rfl, rfl⟩ := hrel
  rcases (show k = 0 \/ k = 1 \/ k = 2 by omega) with rfl | rfl | rfl
  ·have hj : zjM xs.length ys.length 0 = 0 := rfl
   rw [hj]
   go_wp2_with (fail)
   go_round
   case rel => exact ⟨1, by omega, rfl, by simp [zjM]⟩
   case measure => simp [intOf]
  ·have hj : zjM xs.length ys.length 1 = xs.length := rfl
   rw [hj]
   go_wp2_with (fail)
   go_round
   case rel => exact ⟨2, by omega, rfl, by simp [zjM]⟩
   case measure => simp [intOf]
  ·have hj : zjM xs.length ys.length 2 = xs.length + ys.length := rfl
   rw [hj]
   go_wp2_with (fail)
   refine (zlm (xs.length + ys.length) w (by omega)).mono ?_
   rintro e w2 ⟨A', c', rfl, hrow, hb⟩
   have k02 : w2.cell? ⟨g, 0, none⟩ = some (.slice A1 xs.length c1) := (hb.cell (World.block_lt_of_cell? _ _ k0)).trans k0
   have k12 : w2.cell? ⟨g, 1, none⟩ = some (.slice A2 ys.length c2) := (hb.cell (World.block_lt_of_cell? _ _ k1)).trans k1
   have HG := Lib.hid (And.intro (World.block_lt_of_cell? _ _ k0) (And.intro k0 k1))
   clear k0 k1 hj
   go_wp2_with (fail)
   go_loopw [6, 8, 27] (fun r _ i wr => ∃ (k : Nat) (B : Option Addr) (d : Nat), k <= 2 /\ i = .int .i64 k /\ r = .slice B (zde xs ys k).length d /\ zfd wr w.heap.size B d (zde xs ys k) (zhS av1 av2 k) /\ Below w.heap.size w wr) (fun _ _ i _ => 2 - (intOf i).toNat)
   case atStart => exact ⟨0, A', c', by omega, rfl, rfl, hrow, hb⟩
   case round =>
    obtain ⟨k, B, d, hk, rfl, rfl, hr, hbe⟩ := hrel
    have q0 : wr.cell? ⟨g, 0, none⟩ = some (.slice A1 xs.length c1) := (hbe.cell HG.out.1).trans HG.out.2.1
    have q1 : wr.cell? ⟨g, 1, none⟩ = some (.slice A2 ys.length c2) := (hbe.cell HG.out.1).trans HG.out.2.2
    have HR := Lib.hid (And.intro hr hbe)
    clear hr hbe k02 k12
    rcases (show k = 0 \/ k = 1 \/ k = 2 by omega) with rfl | rfl | rfl
    ·have hjl : (zde xs ys 0).length = 0 := rfl
     rw [hjl]
     go_wp2_with (at_builtin; refine zcg rfl (.tmp 31) (.tmp 32) 27 rfl w.heap.size 39 i0 (.agg #[.int .i64 0, .slice none 0 0]) 32 Tryz.underlying27 hi0 hz0 hz1 hz2 rfl (.slice B 0 d) 0 [] rfl ?c1 A1 c1 xs av1 _ rfl (HA1.out.1.on HR.out.2) ?c2 (by unfold maxLen; omega) (by omega) (HR.out.2.size) ?_)
     case c1 => exact HR.out.1.row
     case c2 => exact HA1.out.2.on HR.out.2
     intro A4 c4 w4 hown hgr hob
     have hlt := HR.out.1.row.lt
     have hB : Below w.heap.size w w4 := HR.out.2.grown hgr HR.out.2.size (fun b hb => (hlt b hb).1)
     have HQ := Lib.hid (show zfd w4 w.heap.size A4 c4 (zde xs ys 1) (zhS av1 av2 1) /\ Below w.heap.size w w4 from ⟨⟨by simpa [zde, zhS] using hown, by simpa [zde, zhS] using HA1.out.1.on hB⟩, hB⟩)
     have HL := Lib.hid (show 0 + xs.length = (zde xs ys 1).length by simp [zde])
     clear hown hgr hob hB hlt
     try rw [HL.out]
     go_wp2_with (fail)
     go_roundw
     case rel => exact ⟨1, _, _, by omega, rfl, by simp [zde], HQ.out.1, HQ.out.2⟩
     case measure => simp [intOf]
    ·have hjl : (zde xs ys 1).length = xs.length := rfl
     rw [hjl]
     go_wp2_with (at_builtin; refine zcg rfl (.tmp 31) (.tmp 32) 27 rfl w.heap.size 39 i0 (.agg #[.int .i64 0, .slice none 0 0]) 32 Tryz.underlying27 hi0 hz0 hz1 hz2 rfl (.slice B xs.length d) xs.length (zaP xs av1) rfl ?c1 A2 c2 ys av2 _ rfl (HA2.out.1.on HR.out.2) ?c2 (by unfold maxLen; omega) (by omega) (HR.out.2.size) ?_)
     case c1 => exact HR.out.1.row
     case c2 => exact HA2.out.2.on HR.out.2
     intro A4 c4 w4 hown hgr hob
     have hlt := HR.out.1.row.lt
     have hB : Below w.heap.size w w4 := HR.out.2.grown hgr HR.out.2.size (fun b hb => (hlt b hb).1)
     have HQ := Lib.hid (show zfd w4 w.heap.size A4 c4 (zde xs ys 2) (zhS av1 av2 2) /\ Below w.heap.size w w4 from ⟨⟨by
      rw [<- zfz xs av1 HA1.out.1.1 ys av2] at hown
      simpa [zde, zhS] using hown, by simpa [zde, zhS] using (HA1.out.1.on hB).append (HA2.out.1.on hB)⟩, hB⟩)
     have HL := Lib.hid (show xs.length + ys.length = (zde xs ys 2).length by simp [zde])
     clear hown hgr hob hB hlt
     try rw [HL.out]
     go_wp2_with (fail)
     go_roundw
     case rel => exact ⟨2, _, _, by omega, rfl, by simp [zde], HQ.out.1, HQ.out.2⟩
     case measure => simp [intOf]
    ·have HJ := Lib.hid (show zde xs ys 2 = xs ++ ys from rfl)
     go_wp2_with (fail)
     go_ret
     exact ⟨B, d, zhS av1 av2 2, rfl, HR.out.1, HR.out.2⟩
open Go.RowKit Go.Sort
def Gr (w W : World) : Prop := ∃ q os, W = grow (w.drewN q) os
theorem Gr.refl (w : World) : Gr w w := ⟨0, #[], by simp [grow, World.drewN]⟩
theorem Gr.alloc {w W : World} (h : Gr w W) (o : Obj) : Gr w (W.alloc o) := by
 obtain ⟨q, os, rfl⟩ := h
 exact ⟨q, os.push o, by simp [grow, World.alloc]⟩
theorem Gr.drew {w W : World} (h : Gr w W) : Gr w W.drew := by
 obtain ⟨q, os, rfl⟩ := h
 exact ⟨q + 1, os, rfl⟩
theorem Gr.drewN {w W : World} (h : Gr w W) (n : Nat) : Gr w (W.drewN n) := by
 obtain ⟨q, os, rfl⟩ := h
 exact ⟨q + n, os, by simp [grow, World.drewN, Nat.add_assoc]⟩
theorem Gr.trans {w w1 W : World} (h : Gr w w1) (k : Gr w1 W) : Gr w W := by
 obtain ⟨q, os, rfl⟩ := h
 obtain ⟨q', os', rfl⟩ := k
 exact ⟨q + q', os ++ os', by simp [grow, World.drewN, Nat.add_assoc, Array.append_assoc]⟩
theorem Gr.below {w W : World} (h : Gr w W) : Below w.heap.size w W := by
 obtain ⟨q, os, rfl⟩ := h
 exact ⟨rfl, rfl, rfl, by simp [grow, World.drewN], fun k hk => by simp [grow, World.drewN, Array.getElem?_append, hk]⟩
set_option maxHeartbeats 400000 in
theorem zdS (v v2 : Value) (f g : zd) (w : World) (h : zU w w.heap.size v f) (h2 : zU w w.heap.size v2 g) (hn : f.2.length <= 1048576) (hn2 : g.2.length <= 1048576) :
 Calls Tryz.prog 32 #[v, v2] w fun e w' => e = .returned (.int .i64 (zk f g)) /\ Gr w w' := by
 obtain ⟨a, rfl, h⟩ := h
 have H := Lib.hid h
 obtain ⟨A, c, rfl, hc, _⟩ := h
 obtain ⟨a, rfl, h2⟩ := h2
 have H2 := Lib.hid h2
 obtain ⟨A2, c2, rfl, hc2, _⟩ := h2
 have HF := Lib.hid (zgW f g)
 go_enter Tryz.func32, Tryz.ntmps32
 go_wp2_with (fail)
 obtain ⟨w1, hw1⟩ : ∃ w1, w1 = ((w.alloc (Obj.cells #[Value.int IntKind.i64 f.1, Value.slice A f.2.length c] 39)).alloc (Obj.cells #[Value.int IntKind.i64 g.1, Value.slice A2 g.2.length c2] 39)) := ⟨_, rfl⟩
 have B1 : Gr w w1 := by rw [hw1]; exact ((Gr.refl _).alloc _).alloc _
 have k0 : Blk w1 w.heap.size 39 #[.int .i64 f.1, .slice A f.2.length c] := by rw [hw1]; exact (Blk.new w _ _).alloc _
 have k1 : Blk w1 (w.heap.size + 1) 39 #[.int .i64 g.1, .slice A2 g.2.length c2] := by rw [hw1]; simpa using Blk.new (w.alloc (Obj.cells #[Value.int IntKind.i64 f.1, Value.slice A f.2.length c] 39)) 39 #[.int .i64 g.1, .slice A2 g.2.length c2]
 rw [<- hw1]
 clear hw1
 have HS0 := Lib.hid (show ∀ W, Gr w1 W -> (Gr w1 W /\ W.cell? ⟨w.heap.size, 0, none⟩ = some (.int .i64 f.1) /\ W.cell? ⟨w.heap.size, 1, none⟩ = some (.slice A f.2.length c) /\ W.cell? ⟨w.heap.size + 1, 0, none⟩ = some (.int .i64 g.1) /\ W.cell? ⟨w.heap.size + 1, 1, none⟩ = some (.slice A2 g.2.length c2)) from
  fun W hW => ⟨hW, (k0.below hW.below k0.lt).cell 0, (k0.below hW.below k0.lt).cell 1, (k1.below hW.below k1.lt).cell 0, (k1.below hW.below k1.lt).cell 1⟩)
 go_region_held3 (fun W => Gr w1 W /\ W.cell? ⟨w.heap.size, 0, none⟩ = some (.int .i64 f.1) /\ W.cell? ⟨w.heap.size, 1, none⟩ = some (.slice A f.2.length c) /\ W.cell? ⟨w.heap.size + 1, 0, none⟩ = some (.int .i64 g.1) /\ W.cell? ⟨w.heap.size + 1, 1, none⟩ = some (.slice A2 g.2.length c2))
  (first | assumption | exact HS0.out _ (Gr.refl _) | exact HS0.out _ ((Gr.refl _).alloc _).drew | exact HS0.out _ (Gr.refl _).drew | exact HS0.out _ ((And.left (by assumption) : Gr w1 _).alloc _) | exact HS0.out _ (And.left (by assumption) : Gr w1 _).drew | (refine HS0.out _ ?_; go_goals; fail))
  (first
    | (go_at_call 69; refine (zcQ _ _ _).mono ?_; rintro e w' ⟨rfl, rfl⟩)
    | (go_at_call 70; refine (zd5 _ _ f.2 g.2 _ ?_ ?_ (by omega) (by omega)).mono ?_; exact H.out.on (zf B1.below (And.left (by assumption) : Gr w1 _).below); exact H2.out.on (zf B1.below (And.left (by assumption) : Gr w1 _).below); rintro e w' ⟨rfl, rfl⟩)
    | (go_at_call 68; refine (zjW _ (zbl f.1 g.1) (zar f.2 g.2) _ ?_).mono ?_; exact zhK _ _ _; rintro e w' ⟨rfl, rfl⟩))
 all_goals
  go_wp2_with (fail)
  go_ret
  exact ⟨zT HF.out, B1.trans (And.left (by assumption))⟩
theorem zb5 {a b : Int} : zbl a b < 0 <-> a < b := by
 unfold zbl
 split
 ·simp; assumption
 ·split <;> simp <;> omega
theorem zlD {a b : Int} : 0 < zbl a b <-> b < a := by
 unfold zbl
 split
 ·simp; omega
 ·split <;> simp <;> omega
theorem zij : ∀ {xs ys : List Int}, zar xs ys = 0 -> xs = ys
 | [], [], _ => rfl
 | [], _ :: _, h => by simp [zar] at h
 | _ :: _, [], h => by simp [zar] at h
 | x :: xs, y :: ys, h => by
  unfold zar at h
  split at h
  ·rename_i e
   rw [e, zij h]
  ·exact absurd (zjX h) (by assumption)
theorem zeD : ∀ xs : List Int, zar xs xs = 0
 | [] => rfl
 | x :: xs => by simp [zar, zeD xs]
theorem zhs : ∀ {xs ys : List Int}, zar xs ys < 0 <-> 0 < zar ys xs
 | [], [] => by simp [zar]
 | [], _ :: _ => by simp [zar]
 | _ :: _, [] => by simp [zar]
 | x :: xs, y :: ys => by
  unfold zar
  by_cases e : x = y
  ·subst e
   simpa using zhs
  ·rw [if_neg e, if_neg (fun h => e h.symm), zb5, zlD]
theorem zeE : ∀ {xs ys zs : List Int}, zar xs ys < 0 -> zar ys zs < 0 -> zar xs zs < 0
 | [], [], _, h, _ => by simp [zar] at h
 | [], _ :: _, [], _, h => by simp [zar] at h
 | [], _ :: _, _ :: _, _, _ => by simp [zar]
 | _ :: _, [], _, h, _ => by simp [zar] at h
 | _ :: _, _ :: _, [], _, h => by simp [zar] at h
 | x :: xs, y :: ys, z :: zs, h1, h2 => by
  unfold zar at h1 h2 ⊢
  by_cases e1 : x = y
  ·subst e1
   by_cases e2 : x = z
   ·simp only [e2, if_true] at h1 h2 ⊢
    exact zeE h1 h2
   ·simpa [e2] using h2
  ·by_cases e2 : y = z
   ·subst e2
    simpa [e1] using h1
   ·rw [if_neg e1] at h1
    rw [if_neg e2] at h2
    rw [zb5] at h1 h2
    rw [if_neg (by omega), zb5]
    omega
theorem zbO {f g : zd} (h : zk f g = 0) : f = g := by
 unfold zk at h
 split at h
 ·exact Prod.ext (by assumption) (zij h)
 ·exact absurd (zjX h) (by assumption)
theorem zaZ (f : zd) : zk f f = 0 := by simp [zk, zeD]
theorem ziB {f g : zd} : zk f g < 0 <-> 0 < zk g f := by
 unfold zk
 by_cases e : f.1 = g.1
 ·rw [if_pos e, if_pos e.symm]
  exact zhs
 ·rw [if_neg e, if_neg (fun h => e h.symm), zb5, zlD]
theorem zcr {f g h : zd} (h1 : zk f g < 0) (h2 : zk g h < 0) : zk f h < 0 := by
 unfold zk at h1 h2 ⊢
 by_cases e1 : f.1 = g.1
 ·by_cases e2 : g.1 = h.1
  ·rw [if_pos e1] at h1
   rw [if_pos e2] at h2
   rw [if_pos (e1.trans e2)]
   exact zeE h1 h2
  ·rw [if_neg e2] at h2
   rw [if_neg (fun e => e2 (e1.symm.trans e)), e1]
   exact h2
 ·by_cases e2 : g.1 = h.1
  ·rw [if_neg e1] at h1
   rw [if_neg (fun e => e1 (e.trans e2.symm)), <- e2]
   exact h1
  ·rw [if_neg e1, zb5] at h1
   rw [if_neg e2, zb5] at h2
   rw [if_neg (by omega), zb5]
   omega
theorem zhL (f g : zd) : zk f g < 0 \/ f = g \/ zk g f < 0 := by
 rcases Int.lt_trichotomy (zk f g) 0 with h | h | h
 ·exact .inl h
 ·exact .inr (.inl (zbO h))
 ·exact .inr (.inr (ziB.2 h))
def Asc (l : List zd) : Prop := l.Pairwise fun f g => zk f g < 0
theorem Asc.unique : ∀ {l m : List zd}, Asc l -> Asc m -> (∀ f, f ∈ l <-> f ∈ m) -> l = m
 | [], [], _, _, _ => rfl
 | [], g :: m, _, _, h => absurd ((h g).2 (List.mem_cons_self ..)) (by simp)
 | f :: l, [], _, _, h => absurd ((h f).1 (List.mem_cons_self ..)) (by simp)
 | f :: l, g :: m, hl, hm, h => by
  have hl' := List.pairwise_cons.1 hl
  have hm' := List.pairwise_cons.1 hm
  have e : f = g := by
   rcases List.mem_cons.1 ((h f).1 (List.mem_cons_self ..)) with e | e
   ·exact e
   rcases List.mem_cons.1 ((h g).2 (List.mem_cons_self ..)) with e' | e'
   ·exact e'.symm
   have h1 := hm'.1 f e
   have h2 := hl'.1 g e'
   have := zcr h1 h2
   rw [zaZ] at this
   omega
  subst e
  refine congrArg (f :: ·) (Asc.unique hl'.2 hm'.2 fun x => ⟨fun hx => ?_, fun hx => ?_⟩)
  ·rcases List.mem_cons.1 ((h x).1 (List.mem_cons_of_mem _ hx)) with e | e
   ·subst e
    have := hl'.1 x hx
    rw [zaZ] at this
    omega
   ·exact e
  ·rcases List.mem_cons.1 ((h x).2 (List.mem_cons_of_mem _ hx)) with e | e
   ·subst e
    have := hm'.1 x hx
    rw [zaZ] at this
    omega
   ·exact e
def ins (f : zd) : List zd -> List zd
 | [] => [f]
 | g :: l => if zk f g < 0 then f :: g :: l else if zk f g = 0 then f :: l else g :: ins f l
theorem zko (f : zd) : ∀ (l : List zd) (x : zd), x ∈ ins f l <-> x = f \/ x ∈ l
 | [], x => by simp [ins]
 | g :: l, x => by
  unfold ins
  split
  ·simp
  ·split
   ·have e := zbO (by assumption : zk f g = 0)
    subst e
    simp
   ·simp [zko f l x]
    constructor
    ·rintro (h | h | h) <;> simp [h]
    ·rintro (h | h | h) <;> simp [h]
theorem Asc.ins {f : zd} : ∀ {l : List zd}, Asc l -> Asc (ins f l)
 | [], _ => by simp [Go.Proofs.YtofkcmihcgmmpaaGreatDoor.ins, Asc]
 | g :: l, h => by
  have h' := List.pairwise_cons.1 h
  unfold Go.Proofs.YtofkcmihcgmmpaaGreatDoor.ins
  split
  ·rename_i hlt
   refine List.pairwise_cons.2 ⟨fun x hx => ?_, h⟩
   rcases List.mem_cons.1 hx with e | e
   ·rw [e]; exact hlt
   ·exact zcr hlt (h'.1 x e)
  ·split
   ·have e := zbO (by assumption : zk f g = 0)
    subst e
    exact h
   ·refine List.pairwise_cons.2 ⟨fun x hx => ?_, Asc.ins h'.2⟩
    rcases (zko f l x).1 hx with e | e
    ·subst e
     rcases zhL x g with h1 | h1 | h1
     ·exact absurd h1 (by assumption)
     ·subst h1
      exact absurd (zaZ x) (by assumption)
     ·exact h1
    ·exact h'.1 x e
theorem zdj (f : zd) : ∀ (l : List zd) (out : List zd), (∀ g ∈ l, zk f g ≠ 0) -> l.foldl (zab f) (out, true) = (out ++ l, true)
 | [], out, _ => by simp
 | g :: l, out, h => by
  have h0 := h g (List.mem_cons_self ..)
  simp only [List.foldl_cons, zab]
  simp [h0]
  rw [zdj f l (out ++ [g]) fun x hx => h x (List.mem_cons_of_mem _ hx)]
  simp
def zkw (f : zd) (s : List zd × Bool) : List zd := if s.2 then s.1 else s.1 ++ [f]
theorem zfV (f : zd) : ∀ (l : List zd) (out : List zd), Asc l -> zkw f (l.foldl (zab f) (out, false)) = out ++ ins f l
 | [], out, _ => by simp [ins, zkw]
 | g :: l, out, h => by
  have h' := List.pairwise_cons.1 h
  simp only [List.foldl_cons]
  rcases Int.lt_trichotomy (zk f g) 0 with h1 | h1 | h1
  ·have e : zab f (out, false) g = (out ++ [f] ++ [g], true) := by
    simp [zab, show zk f g <= 0 by omega, show zk f g ≠ 0 by omega]
   rw [e, zdj f l _ fun x hx => by have := zcr h1 (h'.1 x hx); omega]
   simp [ins, h1, zkw]
  ·have e : zab f (out, false) g = (out ++ [f], true) := by
    simp [zab, h1]
   have e2 := zbO h1
   subst e2
   rw [e, zdj f l _ fun x hx => by have := h'.1 x hx; omega]
   simp [ins, zaZ, zkw]
  ·have e : zab f (out, false) g = (out ++ [g], false) := by
    simp [zab, show ¬ zk f g <= 0 by omega, show zk f g ≠ 0 by omega]
   rw [e, zfV f l _ h'.2]
   simp [ins, show ¬ zk f g < 0 by omega, show zk f g ≠ 0 by omega]
theorem Asc.with_ {l : List zd} (h : Asc l) (f : zd) : zQ l f = Go.Proofs.YtofkcmihcgmmpaaGreatDoor.ins f l := by
 have := zfV f l [] h
 unfold zkw at this
 unfold zQ zbQ
 rw [List.take_length]
 simpa using this
def zG (l : List zd) : List zd := l.foldl zQ []
theorem zgN : ∀ (l : List zd) (out : List zd), Asc out -> Asc (l.foldl zQ out) /\ ∀ x, x ∈ l.foldl zQ out <-> x ∈ out \/ x ∈ l
 | [], out, h => by simpa using h
 | f :: l, out, h => by
  have h1 : Asc (zQ out f) := by rw [h.with_ f]; exact h.ins
  obtain ⟨h2, h3⟩ := zgN l _ h1
  refine ⟨h2, fun x => ?_⟩
  rw [List.foldl_cons, h3 x, h.with_ f, zko]
  simp only [List.mem_cons]
  constructor
  ·rintro ((h | h) | h) <;> simp [h]
  ·rintro (h | h | h) <;> simp [h]
theorem zaT (l : List zd) : Asc (zG l) := (zgN l [] List.Pairwise.nil).1
theorem zao (l : List zd) (x : zd) : x ∈ zG l <-> x ∈ l := by
 rw [zG, (zgN l [] List.Pairwise.nil).2 x]
 simp
def Up (l : List zd) : Prop := l.Pairwise fun f g => zk f g <= 0
def zI : List zd -> List zd
 | [] => []
 | [f] => [f]
 | f :: g :: l => if zk f g = 0 then zI (g :: l) else f :: zI (g :: l)
theorem zdz : ∀ (l : List zd) (x : zd), x ∈ zI l <-> x ∈ l
 | [], x => by simp [zI]
 | [f], x => by simp [zI]
 | f :: g :: l, x => by
  unfold zI
  split
  ·have e := zbO (by assumption : zk f g = 0)
   subst e
   rw [zdz (f :: l) x]
   simp
  ·rw [List.mem_cons, zdz (g :: l) x]
   simp
theorem Up.asc : ∀ {l : List zd}, Up l -> Asc (zI l)
 | [], _ => List.Pairwise.nil
 | [f], _ => by simp [zI, Asc]
 | f :: g :: l, h => by
  have h' := List.pairwise_cons.1 h
  unfold zI
  split
  ·exact Up.asc h'.2
  ·refine List.pairwise_cons.2 ⟨fun x hx => ?_, Up.asc h'.2⟩
   rw [zdz] at hx
   have hfg : zk f g < 0 := by
    have := h'.1 g (List.mem_cons_self ..)
    omega
   rcases List.mem_cons.1 hx with e | e
   ·rw [e]; exact hfg
   ·have h2 := (List.pairwise_cons.1 h'.2).1 x e
    rcases Int.lt_trichotomy (zk g x) 0 with h3 | h3 | h3
    ·exact zcr hfg h3
    ·rw [<- zbO h3]; exact hfg
    ·omega
theorem zjx {s l : List zd} (h : Up s) (hm : ∀ x, x ∈ s <-> x ∈ l) : zI s = zG l :=
 h.asc.unique (zaT l) fun x => by rw [zdz, zao, hm]
end Go.Proofs.YtofkcmihcgmmpaaGreatDoor
