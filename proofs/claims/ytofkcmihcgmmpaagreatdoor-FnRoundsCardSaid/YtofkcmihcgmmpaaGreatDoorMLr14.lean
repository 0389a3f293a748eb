/-
  Texts that the claim's last one imports, laid together: part 14 of 16. No condition of its own.
-/
import Derived.Test.YtofkcmihcgmmpaaGreatDoorMLr1
import Derived.Test.YtofkcmihcgmmpaaGreatDoorMLr2
import Derived.Test.YtofkcmihcgmmpaaGreatDoorMLr8
import Derived.Test.YtofkcmihcgmmpaaGreatDoorMLr10
import Derived.Test.YtofkcmihcgmmpaaGreatDoorMLr11
import Derived.Test.YtofkcmihcgmmpaaGreatDoorMLr12
import Derived.Test.YtofkcmihcgmmpaaGreatDoorMLr13
namespace Go.Proofs.YtofkcmihcgmmpaaGreatDoor
set_option maxRecDepth 100000
open Go.RowKit
theorem zka {P : Program} (w : World) (base : Nat) (t ty e : TypeId) (i : TypeInfo) (z : Value) (bytes : Nat) (ht : P.underlying t = some (.slice e)) (hi : P.info? e = some i) (hz : i.zero = some z)
 (hsize : i.size = 1) (hby : i.bytes = bytes) (hzs : z.cells.size = 1)
 (v : Value) (n : Nat) (xs : List Value) (hown : w.ownsRow base e 1 v n xs) (B : Nat) (x : Value) (ys : List (List Int)) (hr : RdW w B x ys)
 (h63 : n + ys.length <= maxLen) (hbytes : (n + ys.length) * bytes <= 140737488355328) (hbase : base <= w.heap.size) :
 ∃ A' c' w', (Builtin.append_ #[t, t] ty #[v, x]).run P w = .ok (.slice A' (n + ys.length) c') w' /\ w'.ownsRow base e 1 (.slice A' (n + ys.length) c') (n + ys.length) (xs ++ ys.map wd) /\ w.grownBy w' v.ownBlock /\
  ((Value.slice A' (n + ys.length) c').ownBlock = v.ownBlock \/ (Value.slice A' (n + ys.length) c').ownBlock = some w.heap.size) := by
 have hform : ∀ {w' : World} {v' : Value} {m : Nat} {zs : List Value}, w'.ownsRow base e 1 v' m zs -> ∃ A c, v' = .slice A m c := by
  intro w' v' m zs h
  rcases h.2 with ⟨rfl, h0⟩ | ⟨g, cap, _, rfl, _⟩
  ·exact ⟨none, 0, by rw [h0]⟩
  ·exact ⟨_, _, rfl⟩
 obtain ⟨A, c, rfl, hc, hcell⟩ := hr
 rcases A with _ | ad
 ·have h0 : ys.length = 0 := by
   rcases Nat.eq_zero_or_pos ys.length with h0 | h0
   ·exact h0
   ·obtain ⟨b, o, e, _⟩ := hcell h0
    cases e
  have hys : ys = [] := List.eq_nil_of_length_eq_zero h0
  subst hys
  obtain ⟨A', c', hv⟩ := hform hown
  refine ⟨A', c', w, ?_, by simpa [<- hv] using hown, World.grownBy.refl w _, .inl (by rw [hv]; rfl)⟩
  simp only [List.length_nil, Nat.add_zero]
  rw [<- hv]
  exact zcH w base t ty e i 1 ht hi v n xs hown c
 ·have hnews : ∀ j u, (ys.map wd)[j]? = some u -> w.cell? (ad.add j) = some u := by
   intro j u hu
   have hj : j < ys.length := by
    rcases Nat.lt_or_ge j ys.length with h | h
    ·exact h
    ·rw [List.getElem?_eq_none (by simpa using h)] at hu; cases hu
   obtain ⟨b, o, e, _, hx⟩ := hcell (by omega)
   injection e with e
   subst e
   rw [Go.WideShapes.add_plain, hx j hj]
   rw [List.getElem?_map, List.getElem?_eq_getElem hj] at hu
   exact hu
  obtain ⟨v', w', hrun, h2, h3, _, h5⟩ := run_append_own_at (P := P) w base t ty e i z 1 bytes ht hi hz hsize hby hzs (by decide) v n xs hown ad ys.length c (ys.map wd) (by simp) hnews
   (fun u hu => by simp at hu; obtain ⟨q, _, rfl⟩ := hu; rfl) h63 hbytes hbase
  obtain ⟨A', c', hv⟩ := hform h2
  subst hv
  exact ⟨A', c', w', hrun, h2, h3, h5⟩
theorem zh4 {P : Program} {w : World} {ops : Array Oper} {rest : List Oper} {o : Oper} {a : Act} {Q : Exit -> Act -> World -> Prop} (hgd : o.guard = none) (s x : Operand) (t : TypeId)
 (ho : o.op = .call { callee := .builtin .append, args := #[s, x], argTypes := #[t, t] })
 (base : Nat) (e : TypeId) (i : TypeInfo) (z : Value) (bytes : Nat) (ht : P.underlying t = some (.slice e)) (hi : P.info? e = some i) (hz : i.zero = some z)
 (hsize : i.size = 1) (hby : i.bytes = bytes) (hzs : z.cells.size = 1)
 (v : Value) (n : Nat) (xs : List Value) (hs : a.eval s = v) (hown : w.ownsRow base e 1 v n xs) (B : Nat) (xv : Value) (ys : List (List Int)) (hx : a.eval x = xv) (hr : RdW w B xv ys)
 (h63 : n + ys.length <= maxLen) (hbytes : (n + ys.length) * bytes <= 140737488355328) (hbase : base <= w.heap.size)
 (h : ∀ A' c' w', w'.ownsRow base e 1 (.slice A' (n + ys.length) c') (n + ys.length) (xs ++ ys.map wd) -> w.grownBy w' v.ownBlock ->
   ((Value.slice A' (n + ys.length) c').ownBlock = v.ownBlock \/ (Value.slice A' (n + ys.length) c').ownBlock = some w.heap.size) -> wpList P ops Q rest (a.put o.dst (.slice A' (n + ys.length) c')) w') : wpList P ops Q (o :: rest) a w := by
 refine wpList_plain hgd fun _ hK => ?_
 obtain ⟨A', c', w', hrun, h2, h3, h4⟩ := zka (P := P) w base t o.type e i z bytes ht hi hz hsize hby hzs v n xs hown B xv ys hr h63 hbytes hbase
 unfold Oper.wp execOp
 simp only [ho, resolve, invoke, builtin, Sem.run_bind, Sem.run_pure, Result.andThen_ok, List.map_toArray, List.map_cons, List.map_nil, hs, hx, hrun]
 exact hK _ _ (h A' c' w' h2 h3 h4)
open Go.RowKit
theorem zkq {ls : List zC} {ag : List zcU} {k : Nat} {S S1 : List (List Int)} (h0 : (zba ls k).1 = 0) (h : ∀ b, b ∈ S <-> zbm ls ag k b) (h1 : ∀ b, b ∈ S1 <-> zp b = true /\ zlO ls b /\ zfQ ls ag k b) (b : List Int) : b ∈ S ++ S1 <-> zbm ls ag (k + 1) b := by
 rw [List.mem_append, h b, h1 b]
 unfold zbm
 constructor
 ·rintro (⟨a1, a2, i, hi, a3⟩ | ⟨a1, a2, a3⟩)
  ·exact ⟨a1, a2, i, by omega, a3⟩
  ·exact ⟨a1, a2, k, by omega, h0, a3⟩
 ·rintro ⟨a1, a2, i, hi, a3, a4⟩
  by_cases e : i = k
  ·subst e
   exact .inr ⟨a1, a2, a4⟩
  ·exact .inl ⟨a1, a2, i, by omega, a3, a4⟩
theorem zkr {ls : List zC} {ag : List zcU} {k : Nat} (h0 : ¬ ((zba ls k).1 = 0 /\ 0 < (zaD ag k).2.2.length)) (b : List Int) : zbm ls ag k b <-> zbm ls ag (k + 1) b := by
 unfold zbm
 constructor
 ·rintro ⟨a1, a2, i, hi, a3⟩
  exact ⟨a1, a2, i, by omega, a3⟩
 ·rintro ⟨a1, a2, i, hi, a3, a4⟩
  refine ⟨a1, a2, i, ?_, a3, a4⟩
  rcases Nat.lt_or_ge i k with h | h
  ·exact h
  ·obtain rfl : i = k := by omega
   have h5 := ((zb2 a3).1 a4.1).2
   exact absurd ⟨a3, List.length_pos_of_mem h5⟩ h0
set_option maxHeartbeats 4000000 in
theorem zir (ga ca : Nat) (ls : List zC) (ag : List zcU) (us : List AV) (v : Value) (w : World) (h : za6 w w.heap.size v ls) (h2 : AtA w ga ca us) (h3 : zb8 w w.heap.size us ag) (hal : ag.length = ls.length) (hs : zbV ls) (htl : zbB ls <= 1048576) (hok : ∀ a ∈ ag, zm1 a) :
 Calls Tryz.prog 102 #[v, .slice (some ⟨ga, 0, none⟩) ls.length ca] w fun e' w' =>
  ∃ (A : Option Addr) (c : Nat) (S : List (List Int)), e' = .returned (.slice A S.length c) /\ zbc w' w.heap.size w'.heap.size (.slice A S.length c) S /\ Below w.heap.size w w' /\ (∀ b, b ∈ S <-> zco ls ag b) /\ S.length <= 262144 /\ ((∀ j f, f ∈ (zaD ag j).2.1 -> f ∉ (zaD ag j).2.2) -> S.Nodup) := by
 obtain ⟨i0, hi0, hz0, hz1, hz2⟩ := info_parts Tryz.infoWord
 have hn := hs.few
 have HL := Lib.hid h
 have HA := Lib.hid h2
 have HR := Lib.hid h3
 have HAL := Lib.hid (And.intro hal h3.1)
 have HS := Lib.hid hs
 have HOK := Lib.hid hok
 obtain ⟨A, c, rfl, hc, _⟩ := h
 clear h2 h3 hal hs hok
 go_enter Tryz.func102, Tryz.ntmps102
 go_wp2_with fail
 go_loopw [5, 10] (fun q x wr => ∃ (k : Nat) (A' : Option Addr) (c' : Nat) (S : List (List Int)), k <= ls.length /\ x = .int .i64 k /\ q = .slice A' S.length c' /\ zbc wr w.heap.size wr.heap.size (.slice A' S.length c') S /\ Below w.heap.size w wr /\ (∀ b, b ∈ S <-> zbm ls ag k b) /\ S.length <= k * 65536 /\ ((∀ j f, f ∈ (zaD ag j).2.1 -> f ∉ (zaD ag j).2.2) -> S.Nodup)) (fun _ x _ => ls.length - (intOf x).toNat)
 case atStart => exact ⟨0, none, 0, [], Nat.zero_le _, rfl, rfl, ⟨World.ownsRow_nil _ _ _ _, fun g hg => by cases hg⟩, Below.refl _ _, fun b => by simp [zbm], by simp, fun _ => List.nodup_nil⟩
 case round =>
  obtain ⟨k, A', c', S, hk, rfl, rfl, how, hbe, hmem, hlen, hnd⟩ := hrel
  have HO := Lib.hid how
  have HBE := Lib.hid hbe
  have HM := Lib.hid hmem
  have HND := Lib.hid hnd
  clear how hmem hnd
  by_cases hlt : k < ls.length
  ·obtain ⟨b, o3, u0, u1, u2, rfl, hbB, k0, k1, k2, rfl, rfl, p3⟩ := (HL.out.below hbe (Nat.le_refl _)).get hlt
   obtain ⟨A4, c4, rfl, hc4, _⟩ := id p3
   obtain ⟨l, hle⟩ : ∃ l, l = zba ls k := ⟨_, rfl⟩
   have hli : l = ls[k] := by rw [hle, zda hlt]
   rw [<- hli] at k0 k1 k2 hc4
   have huk : k < us.length := by rw [HAL.out.2, HAL.out.1]; exact hlt
   have hak : k < ag.length := by rw [HAL.out.1]; exact hlt
   have hga : ga < w.heap.size := HA.out.lt
   have k3 := (hbe.cell (p := ⟨ga, k * 3 + 2, none⟩) hga).trans (HA.out.cells huk).2.2
   have hf3 := (HR.out.2 k huk hak).2.2
   rw [<- ze0 hak] at hf3
   obtain ⟨A5, c5, e5, _, _⟩ := hf3
   rw [e5] at k3
   obtain ⟨n5, hn5⟩ : ∃ n5, n5 = (zaD ag k).2.2.length := ⟨_, rfl⟩
   rw [<- hn5] at k3
   have HN5 := Lib.hid hn5
   have HLE := Lib.hid hle
   have k3' := (ze wr (Obj.cells #[Value.int IntKind.i64 l.1, Value.int IntKind.i64 l.2.1, Value.slice A4 l.2.2.length c4] 68)).cell (p := ⟨ga, k * 3 + 2, none⟩) (by have := hbe.size; show ga < _; omega)
   rw [k3] at k3'
   clear hle hli p3 hbe e5 hn5
   by_cases hcond : l.1 = 0 /\ 0 < n5
   ·obtain ⟨hc1, hc2⟩ := hcond
    have hd1 : (l.1 == 0) = true := by simpa using hc1
    have hd2 : decide (0 < n5) = true := decide_eq_true hc2
    have HC1 := Lib.hid hc1
    clear hc1
    obtain ⟨w2, hw2⟩ : ∃ w2, w2 = wr.alloc (Obj.cells #[Value.int IntKind.i64 l.1, Value.int IntKind.i64 l.2.1, Value.slice A4 l.2.2.length c4] 68) := ⟨_, rfl⟩
    have HB2 := Lib.hid (show Below wr.heap.size wr w2 by rw [hw2]; exact ze _ _)
    have HW2 := Lib.hid hw2
    clear hw2
    have CF := Lib.hid (zga ga ca k ls ag us (.slice (some ⟨b, o3, none⟩) ls.length c) w2 ((HL.out.on HBE.out).on HB2.out) ((HA.out.below HBE.out hga).below HB2.out (by have := HBE.out.size; omega)) ((HR.out.below HBE.out (Nat.le_refl _)).below HB2.out HBE.out.size |>.more (by have := HBE.out.size; have := HB2.out.size; omega)) HAL.out.1 hlt hn)
    go_upto_region 6 with fail
    rw [<- HW2.out]
    go_wp2_with (first
     | (go_at_call 126; refine CF.out.mono ?_; rintro e3 w3 ⟨g2, c2, us2, rfl, hg2, at3, rd3, b3⟩
        have CS := zhc g2 c2 w2.heap.size us2 (zac ls ag k ls.length) w3 at3 rd3 hg2 (by have := (zb3 ls ag k ls.length).1; omega) (znz hlt HAL.out.1 HS.out htl HOK.out) (zlo hlt HS.out)
        rw [(zb3 ls ag k ls.length).2.1 hlt] at CS
        have HCS := Lib.hid CS
        have H3 := Lib.hid (And.intro hg2 b3)
        clear CS hg2 at3 rd3 b3)
     | (go_at_call 74; refine HCS.out.mono ?_; rintro e4 w4 ⟨A6, c6, S1, rfl, own4, on4, is4⟩
        have H4 := Lib.hid (And.intro own4 (And.intro on4 is4))
        clear own4 on4 is4
        have hs3 := H3.out.2.size
        have hs2 := HB2.out.size
        have hs4 := H4.out.2.1.size
        have hg2 := H3.out.1
        have hl4 : S1.length <= 65536 := zce H4.out.2.2.1 H4.out.2.2.ok
        have hsr := HBE.out.size
        have B4 : Below wr.heap.size wr w4 := (zf HB2.out H3.out.2).trans (H4.out.2.1.below (by omega) (by omega))
        have HB4 := Lib.hid B4
        clear B4)
     | (at_builtin; refine zh4 rfl (.tmp 27) (.tmp 32) 97 rfl w.heap.size 102 i0 (.int .u32 0) 4 Tryz.underlying97 hi0 hz0 hz1 hz2 rfl (.slice A' S.length c') S.length (S.map wd) rfl (HO.out.below HB4.out (Nat.le_refl _)).1 w4.heap.size (.slice A6 S1.length c6) S1 rfl H4.out.1.rd (by unfold maxLen; omega) (by omega) (by omega) ?_))
    intro A7 c7 w5 hown hgr hat
    obtain ⟨_, hmm⟩ := znA hlt H4.out.2.2
    have HF := Lib.hid (show zbc w5 w.heap.size w5.heap.size (.slice A7 (S ++ S1).length c7) (S ++ S1) /\ Below w.heap.size w w5 /\ (∀ b, b ∈ S ++ S1 <-> zbm ls ag (k + 1) b) /\ (S ++ S1).length <= (k + 1) * 65536 /\ ((∀ j f, f ∈ (zaD ag j).2.1 -> f ∉ (zaD ag j).2.2) -> (S ++ S1).Nodup) from by
     refine ⟨⟨?_, fun g hg => ?_⟩, ?_, zkq (by rw [<- HLE.out]; exact HC1.out) HM.out hmm, by simp; omega, fun hd => ?_⟩
     ·rw [List.length_append, List.map_append]
      exact hown
     ·rw [List.length_append] at hg
      exact (hown.lt g hg).2
     ·refine (HBE.out.trans (HB4.out.mono hsr)).grown hgr (by omega) fun k hk => ?_
      exact ((HO.out.1).lt k hk).1
     ·rw [List.nodup_append]
      refine ⟨HND.out hd, H4.out.2.2.1, fun x hx y hy e => ?_⟩
      subst e
      obtain ⟨_, _, i, hi, h0, hf⟩ := (HM.out x).1 hx
      exact zln (show i < ls.length by omega) hi h0 (hd i) hf ((hmm x).1 hy).2.2)
    have hlen2 : S.length + S1.length = (S ++ S1).length := by simp
    rw [hlen2]
    have HF2 := Lib.hid (And.intro hlen2 HF.out)
    clear hlen2 hown hgr hat hmm
    go_wp2_with fail
    go_roundw
    case rel => exact ⟨k + 1, A7, c7, S ++ S1, by omega, by go_num, rfl, HF.out.1, HF.out.2.1, HF.out.2.2.1, HF.out.2.2.2.1, HF.out.2.2.2.2⟩
    case measure => simp [intOf]; omega
   ·have HNC := Lib.hid (show ∀ b, zbm ls ag k b <-> zbm ls ag (k + 1) b from zkr (by rw [<- HLE.out, <- HN5.out]; exact hcond))
    have hd : ((l.1 == 0) = true /\ decide (0 < n5) = false) \/ (l.1 == 0) = false := by
     by_cases e : l.1 = 0
     ·exact .inl ⟨by simpa using e, by
       exact decide_eq_false fun h => hcond ⟨e, h⟩⟩
     ·exact .inr (by simpa using e)
    clear hcond
    rcases hd with ⟨hd1, hd2⟩ | hd1
    all_goals
     go_wp2_with fail
     go_roundw
     case rel => exact ⟨k + 1, A', c', S, by omega, by go_num, rfl, (HO.out.below (ze _ _) (Nat.le_refl _)).mono (Nat.le_refl _) (ze _ _).size, zf HBE.out (ze _ _), fun b => (HM.out b).trans (HNC.out b), Nat.le_trans hlen (Nat.mul_le_mul_right _ (Nat.le_succ k)), HND.out⟩
     case measure => simp [intOf]; omega
  ·obtain rfl : k = ls.length := by omega
   clear hbe
   go_wp2_with fail
   go_ret
   exact ⟨A', c', S, rfl, HO.out, HBE.out, HM.out, by omega, HND.out⟩
open Go.RowKit
theorem zo4 (a b : Nat -> Nat) (k : Nat) : zcq (fun q => if q < k then a q else b q) k (a k) = fun q => if q < k + 1 then a q else b q := by
 funext q
 by_cases e : q = k
 ·subst e
  rw [zbg, if_pos (Nat.lt_succ_self _)]
 ·rw [zbn _ _ e]
  by_cases h : q < k
  ·rw [if_pos h, if_pos (by omega)]
  ·rw [if_neg h, if_neg (by omega)]
theorem zP.same {w : World} {g : Nat} {XL : List FV} {E : List Nat} {XP : Nat -> List FV} {O La O' La' : Nat -> Nat} {T : List Nat} {R : Nat -> Value} (h : zP w g XL E XP O La T R) (h1 : ∀ p, p < 24 -> O p = O' p) (h2 : ∀ p, p < 24 -> La p = La' p) : zP w g XL E XP O' La' T R := by
 obtain ⟨cs, g1, g2⟩ := h.blk
 exact ⟨⟨cs, g1, g2.size, g2.list, g2.ends, g2.tab, g2.pred, fun p hp => by rw [<- h1 p hp]; exact g2.old p hp, fun p hp => by rw [<- h2 p hp]; exact g2.lat p hp⟩, h.tl, h.tb, h.list, h.ends, h.pred, h.apart, h.argsL, h.argsP⟩
theorem Tryz.infoInt1 : (Tryz.prog.info? 3).map (fun i => (i.zero, i.size, i.bytes)) = some (some (.int .i64 0), 1, 8) := by kernel_rfl
set_option maxHeartbeats 4000000 in
theorem zgX (g : Nat) (X : List FV) (E : List Nat) (o e : Nat) (R : Nat -> Value) (w : World) (h : zaR w g X E o e R) (hn : X.length <= 1048576) (hE : E.length <= 1048576) :
 Calls Tryz.prog 99 #[.pointer (some ⟨g, 0, none⟩)] w fun e' w' =>
  e' = .returned (.tuple #[]) /\ ∃ R', zaR w' g X (E ++ [X.length]) e X.length R' /\ z8 g w R w' R' := by
 obtain ⟨i0, hi0, hz0, hz1, hz2⟩ := info_parts Tryz.infoInt1
 have HAT := Lib.hid h
 have hgl := h.lt
 clear h
 go_enter Tryz.func99, Tryz.ntmps99
 go_upto_region 0 with fail
 refine zB (fun W => W.cell? ⟨g, 0, none⟩ = some (R 0) /\ W.cell? ⟨g, 1, none⟩ = some (R 1)) 14 15 (by kernel_rfl) rfl ?_
 obtain ⟨wy, hwy⟩ : ∃ wy, wy = w.drew := ⟨_, rfl⟩
 have HG := Lib.hid (show zaR wy g X E o e R by rw [hwy]; exact HAT.out.drew)
 have HK := Lib.hid (show z8 g w R wy R by rw [hwy]; exact (z8.refl g w R).drew)
 rw [<- hwy]
 clear hwy
 obtain ⟨A0, c0, hv0⟩ := HG.out.raw.formL
 obtain ⟨A1, c1, hv1⟩ := HG.out.raw.formE
 obtain ⟨SS, hSS⟩ : ∃ SS : World -> Prop, SS = (fun W => W.cell? ⟨g, 0, none⟩ = some (R 0) /\ W.cell? ⟨g, 1, none⟩ = some (R 1)) := ⟨_, rfl⟩
 rw [<- hSS]
 have HB := Lib.hid (show ∀ W, SS W -> (W.cell? ⟨g, 0, none⟩ = some (.slice A0 X.length c0) /\ W.cell? ⟨g, 1, none⟩ = some (.slice A1 E.length c1)) from by rw [hSS, hv0, hv1]; exact fun W hW => hW)
 have HS := Lib.hid (show ∀ W : World, (∀ b, b < wy.heap.size -> (R 1).ownBlock ≠ some b -> W.heap[b]? = wy.heap[b]?) -> SS W from by
  rw [hSS]
  intro W hW
  have hg0 : W.heap[g]? = wy.heap[g]? := hW g HG.out.lt fun e => by have := HG.out.raw.rowLt (show 1 < 26 by omega) e; omega
  exact ⟨(World.cell?_of_block hg0).trans HG.out.raw.cellList, (World.cell?_of_block hg0).trans HG.out.raw.cellEnds⟩)
 have HFR := Lib.hid (show ∀ W : World, (∀ b, b < wy.heap.size -> (R 1).ownBlock ≠ some b -> W.heap[b]? = wy.heap[b]?) -> W.frozen? ⟨g, 1, none⟩ = false from fun W hW => by
  have hg0 : W.heap[g]? = wy.heap[g]? := hW g HG.out.lt fun e => by have := HG.out.raw.rowLt (show 1 < 26 by omega) e; omega
  exact (World.frozen?_of_block hg0).trans (HG.out.raw.free 1))
 have SB : SS wy := HS.out wy fun _ _ _ => rfl
 have HV1 := Lib.hid hv1
 clear hSS hv0 hv1
 refine za (i := 0) (oi := _) ?va0 rfl rfl (by kernel_rfl) (by decide) (fun _ _ _ h => h) rfl ?hya0 (fun _ => SB) ?resta0
 case hya0 => (intro W; go_simp; (try with_reducible rfl))
 try simp only [zs.a, zs.b, zs.c]
 refine za (i := 1) (oi := _) ?va1 rfl rfl (by kernel_rfl) (by decide) (fun _ _ _ h => h) rfl ?hya1 (fun _ => SB) ?resta1
 case hya1 => (intro W; go_simp; (try with_reducible rfl))
 try simp only [zs.a, zs.b, zs.c]
 refine za (i := 2) (oi := _) ?va2 rfl rfl (by kernel_rfl) (by decide) (fun _ _ _ h => h) rfl ?hya2 (fun _ => SB) ?resta2
 case hya2 => (intro W; go_simp; (try with_reducible rfl))
 try simp only [zs.a, zs.b, zs.c]
 refine za (i := 3) (oi := _) ?va3 rfl rfl (by kernel_rfl) (by decide) (fun _ _ _ h => h) rfl ?hya3 (fun _ => SB) ?resta3
 case hya3 => (intro W; go_simp; (try with_reducible rfl))
 try simp only [zs.a, zs.b, zs.c]
 refine zm (i := 4) (oi := _) ?va4 rfl rfl (by kernel_rfl) (fun _ _ _ h => h) rfl ?hya4 SB ?resta4
 case hya4 => (intro W hW; obtain ⟨E0, E1⟩ := HB.out W hW; go_simp; (try with_reducible rfl))
 try simp only [zs.a, zs.b, zs.c]
 refine za (i := 5) (oi := _) ?va5 rfl rfl (by kernel_rfl) (by decide) (fun _ _ _ h => h) rfl ?hya5 (fun _ => SB) ?resta5
 case hya5 => (intro W; go_simp; (try with_reducible rfl))
 try simp only [zs.a, zs.b, zs.c]
 refine za (i := 6) (oi := _) ?va6 rfl rfl (by kernel_rfl) (by decide) (fun _ _ _ h => h) rfl ?hya6 (fun _ => SB) ?resta6
 case hya6 => (intro W; go_simp; (try with_reducible rfl))
 try simp only [zs.a, zs.b, zs.c]
 refine za (i := 7) (oi := _) ?va7 rfl rfl (by kernel_rfl) (by decide) (fun _ _ _ h => h) rfl ?hya7 (fun _ => SB) ?resta7
 case hya7 => (intro W; go_simp; (try with_reducible rfl))
 try simp only [zs.a, zs.b, zs.c]
 refine zm (i := 8) (oi := _) ?va8 rfl rfl (by kernel_rfl) (fun _ _ _ h => h) rfl ?hya8 SB ?resta8
 case hya8 => (intro W hW; obtain ⟨E0, E1⟩ := HB.out W hW; go_simp; (try with_reducible rfl))
 try simp only [zs.a, zs.b, zs.c]
 refine za (i := 9) (oi := _) ?va9 rfl rfl (by kernel_rfl) (by decide) (fun _ _ _ h => h) rfl ?hya9 (fun _ => SB) ?resta9
 case hya9 => (intro W; go_simp; (try with_reducible rfl))
 try simp only [zs.a, zs.b, zs.c]
 refine zh (i := 10) (by kernel_rfl) rfl (fun K hK => ?_)
 try rw [if_pos (show Region.wanted _ _ = true from rfl)]
 go_simp
 have S6 : SS _ := HS.out (wy.alloc (Obj.cells #[Value.int IntKind.i64 (X.length : Int)] 3)) fun b hb _ => Below.heap_alloc _ _ _ hb
 refine hK.out _ _ (fun _ => S6) ?_
 clear hK K
 try simp only [zs.a, zs.b, zs.c, Act.put]
 refine zh (i := 11) (by kernel_rfl) rfl (fun K hK => ?_)
 refine step_append_lies _ rfl (.tmp 8) (.tmp 14) 23 rfl (g + 1) 3 i0 (.int .i64 0) 1 8 Tryz.underlying23 hi0 hz0 hz1 hz2 rfl (by decide) (.slice A1 E.length c1) E.length (E.map inN) rfl ?c1 ⟨wy.heap.size, 0, none⟩ 1 1 [.int .i64 (X.length : Int)] rfl rfl ?c4 ?c2 (by omega) (by unfold maxLen; omega) (by omega) ?c3 _ rfl ?c5
 case c1 => exact (HV1.out ▸ HG.out.raw.ends).alloc _
 case c4 => exact cell_one_new _ _ _
 case c2 => intro u hu; simp at hu; subst hu; rfl
 case c3 => have := HG.out.lt; simp; omega
 case c5 =>
 intro g2 cap w5 hown hgr hat _
 have HGW := Lib.hid (show zd1 wy g R 1 1 (.slice (some ⟨g2, 0, none⟩) (E.length + 1) cap) w5 from by
  have hgr' := zy hgr
  refine ⟨by rw [HV1.out]; exact hgr', fun b hb => ?_⟩
  have e : g2 = b := by simpa [Value.ownBlock] using hb
  subst e
  rw [HV1.out]
  rcases hat with hat | hat
  ·exact .inl hat
  ·exact .inr (by rw [hat]; simp))
 have HOW := Lib.hid hown
 have S5 : SS w5 := HS.out w5 fun b hb hne => HGW.out.grown.block b hb fun e => hne e.symm
 have f5 : w5.frozen? ⟨g, 1, none⟩ = false := HFR.out w5 fun b hb hne => HGW.out.grown.block b hb fun e => hne e.symm
 have c5 : w5.cell? ⟨g, 1, none⟩ = some (.slice A1 E.length c1) := (HB.out w5 S5).2
 clear hown hgr hat
 refine hK.out _ _ (fun _ => S5) ?_
 clear hK K
 try simp only [zs.a, zs.b, zs.c, Act.put]
 refine za (i := 12) (oi := _) ?va12 rfl rfl (by kernel_rfl) (by decide) (fun _ _ _ h => h) rfl ?hya12 (fun _ => S5) ?resta12
 case hya12 => (intro W; go_simp; (try with_reducible rfl))
 try simp only [zs.a, zs.b, zs.c]
 refine za (i := 13) (oi := _) ?va13 rfl rfl (by kernel_rfl) (by decide) (fun _ _ _ h => h) rfl ?hya13 (fun _ => S5) ?resta13
 case hya13 => (intro W; go_simp; (try with_reducible rfl))
 try simp only [zs.a, zs.b, zs.c]
 refine zh (i := 14) (by kernel_rfl) rfl (fun K hK => ?_)
 go_simp
 refine hK.out _ _ (fun hf => absurd hf (by decide)) ?_
 clear hK K
 refine zL (by kernel_rfl) ?_
 obtain ⟨R1, hR1⟩ : ∃ R1, R1 = zcq R 1 (.slice (some ⟨g2, 0, none⟩) (E.length + 1) cap) := ⟨_, rfl⟩
 obtain ⟨w6, hw6⟩ : ∃ w6, w6 = w5.setCell ⟨g, 1, none⟩ (.slice (some ⟨g2, 0, none⟩) (E.length + 1) cap) := ⟨_, rfl⟩
 have H6 := Lib.hid (show zP w6 g X (E ++ [X.length]) (ofX X) (cntX X o) (cntX X e) (zK zaa (zj X)) R1 /\ z8 g w R w6 R1 from by
  rw [hw6, hR1]
  have := HG.out.raw.growEnds HGW.out HOW.out
  exact ⟨this.1, HK.out.trans this.2⟩)
 rw [<- hw6]
 clear hw6 hR1 S5 f5 c5 SB S6
 go_wp2_with fail
 go_loopw [18] (fun i wr => ∃ k : Nat, k <= 24 /\ i = .int .i64 k /\ zP wr g X (E ++ [X.length]) (ofX X) (fun q => if q < k then cntX X e q else cntX X o q) (fun q => if q < k then cntX X X.length q else cntX X e q) (zK zaa (zj X)) R1 /\ z8 g w R wr R1) (fun i _ => 24 - (intOf i).toNat)
 case atStart => exact ⟨0, Nat.zero_le _, rfl, by simpa using H6.out.1, H6.out.2⟩
 case round =>
  obtain ⟨k, hk, rfl, hraw, hkp⟩ := hrel
  have HR := Lib.hid hraw
  have HKP := Lib.hid hkp
  clear hraw hkp
  by_cases hlt : k < 24
  ·have hki : (k : Int) < 24 := by omega
   go_upto_region 5 with fail
   refine zB (fun W => W.cell? ⟨g, 26 + k * 3, none⟩ = some (R1 (2 + k)) /\ W.cell? ⟨g, 26 + k * 3 + 2, none⟩ = some (inN (cntX X e k))) 16 17 (by kernel_rfl) rfl ?_
   obtain ⟨wz, hwz⟩ : ∃ wz, wz = wr.drew := ⟨_, rfl⟩
   have HG2 := Lib.hid (show zP wz g X (E ++ [X.length]) (ofX X) (fun q => if q < k then cntX X e q else cntX X o q) (fun q => if q < k then cntX X X.length q else cntX X e q) (zK zaa (zj X)) R1 by rw [hwz]; exact HR.out.drew)
   have HK2 := Lib.hid (show z8 g w R wz R1 by rw [hwz]; exact HKP.out.drew)
   rw [<- hwz]
   clear hwz
   obtain ⟨A2, c2, hv2⟩ := HG2.out.formP hlt
   obtain ⟨S2, hS2⟩ : ∃ S2 : World -> Prop, S2 = (fun W => W.cell? ⟨g, 26 + k * 3, none⟩ = some (R1 (2 + k)) /\ W.cell? ⟨g, 26 + k * 3 + 2, none⟩ = some (inN (cntX X e k))) := ⟨_, rfl⟩
   rw [<- hS2]
   clear HB
   have HB := Lib.hid (show ∀ W, S2 W -> (W.cell? ⟨g, 26 + k * 3, none⟩ = some (.slice A2 (ofX X k).length c2) /\ W.cell? ⟨g, 26 + k * 3 + 2, none⟩ = some (.int .i64 ((cntX X e k : Nat) : Int))) from by rw [hS2, hv2]; exact fun W hW => hW)
   have SB : S2 wz := by
    rw [hS2]
    refine ⟨HG2.out.cellPred hlt, ?_⟩
    have := HG2.out.cellLat hlt
    rw [if_neg (Nat.lt_irrefl k)] at this
    exact this
   have hx1 : wz.cell? ⟨g, 26 + k * 3 + 1, none⟩ = some (inN (cntX X o k)) := by
    have := HG2.out.cellOld hlt
    rw [if_neg (Nat.lt_irrefl k)] at this
    exact this
   have hf1 : wz.frozen? ⟨g, 26 + k * 3 + 1, none⟩ = false := HG2.out.free _
   have hx2 := (HB.out wz SB).2
   have hf2 : wz.frozen? ⟨g, 26 + k * 3 + 2, none⟩ = false := HG2.out.free _
   have HS2 := Lib.hid (show S2 (wz.setCell ⟨g, 26 + k * 3 + 1, none⟩ (.int .i64 ((cntX X e k : Nat) : Int))) from by
    have := HG2.out.setOld hlt (cntX X e k)
    rw [hS2]
    refine ⟨this.cellPred hlt, ?_⟩
    have := this.cellLat hlt
    rw [if_neg (Nat.lt_irrefl k)] at this
    exact this)
   clear hS2 hv2
   unfold inN at hx1
   refine za (i := 0) (oi := _) ?vb0 rfl rfl (by kernel_rfl) (by decide) (fun _ _ _ h => h) rfl ?hyb0 (fun _ => SB) ?restb0
   case hyb0 => (intro W; go_simp; (try with_reducible rfl))
   try simp only [zs.a, zs.b, zs.c]
   refine za (i := 1) (oi := _) ?vb1 rfl rfl (by kernel_rfl) (by decide) (fun _ _ _ h => h) rfl ?hyb1 (fun _ => SB) ?restb1
   case hyb1 => (intro W; go_simp; (try with_reducible rfl))
   try simp only [zs.a, zs.b, zs.c]
   refine za (i := 2) (oi := _) ?vb2 rfl rfl (by kernel_rfl) (by decide) (fun _ _ _ h => h) rfl ?hyb2 (fun _ => SB) ?restb2
   case hyb2 => (intro W; go_simp; (try with_reducible rfl))
   try simp only [zs.a, zs.b, zs.c]
   refine za (i := 3) (oi := _) ?vb3 rfl rfl (by kernel_rfl) (by decide) (fun _ _ _ h => h) rfl ?hyb3 (fun _ => SB) ?restb3
   case hyb3 => (intro W; go_simp; (try with_reducible rfl))
   try simp only [zs.a, zs.b, zs.c]
   refine za (i := 4) (oi := _) ?vb4 rfl rfl (by kernel_rfl) (by decide) (fun _ _ _ h => h) rfl ?hyb4 (fun _ => SB) ?restb4
   case hyb4 => (intro W; go_simp; (try with_reducible rfl))
   try simp only [zs.a, zs.b, zs.c]
   refine zm (i := 5) (oi := _) ?vb5 rfl rfl (by kernel_rfl) (fun _ _ _ h => h) rfl ?hyb5 SB ?restb5
   case hyb5 => (intro W hW; obtain ⟨E0, E1⟩ := HB.out W hW; go_simp; (try with_reducible rfl))
   try simp only [zs.a, zs.b, zs.c]
   refine za (i := 6) (oi := _) ?vb6 rfl rfl (by kernel_rfl) (by decide) (fun _ _ _ h => h) rfl ?hyb6 (fun _ => SB) ?restb6
   case hyb6 => (intro W; go_simp; (try with_reducible rfl))
   try simp only [zs.a, zs.b, zs.c]
   refine za (i := 7) (oi := _) ?vb7 rfl rfl (by kernel_rfl) (by decide) (fun _ _ _ h => h) rfl ?hyb7 (fun _ => SB) ?restb7
   case hyb7 => (intro W; go_simp; (try with_reducible rfl))
   try simp only [zs.a, zs.b, zs.c]
   refine za (i := 8) (oi := _) ?vb8 rfl rfl (by kernel_rfl) (by decide) (fun _ _ _ h => h) rfl ?hyb8 (fun _ => SB) ?restb8
   case hyb8 => (intro W; go_simp; (try with_reducible rfl))
   try simp only [zs.a, zs.b, zs.c]
   refine zm (i := 9) (oi := _) ?vb9 rfl rfl (by kernel_rfl) (fun _ _ _ h => h) rfl ?hyb9 SB ?restb9
   case hyb9 => (intro W hW; obtain ⟨E0, E1⟩ := HB.out W hW; go_simp; (try with_reducible rfl))
   try simp only [zs.a, zs.b, zs.c]
   refine za (i := 10) (oi := _) ?vb10 rfl rfl (by kernel_rfl) (by decide) (fun _ _ _ h => h) rfl ?hyb10 (fun _ => SB) ?restb10
   case hyb10 => (intro W; go_simp; (try with_reducible rfl))
   try simp only [zs.a, zs.b, zs.c]
   refine za (i := 11) (oi := _) ?vb11 rfl rfl (by kernel_rfl) (by decide) (fun _ _ _ h => h) rfl ?hyb11 (fun _ => SB) ?restb11
   case hyb11 => (intro W; go_simp; (try with_reducible rfl))
   try simp only [zs.a, zs.b, zs.c]
   refine za (i := 12) (oi := _) ?vb12 rfl rfl (by kernel_rfl) (by decide) (fun _ _ _ h => h) rfl ?hyb12 (fun _ => SB) ?restb12
   case hyb12 => (intro W; go_simp; (try with_reducible rfl))
   try simp only [zs.a, zs.b, zs.c]
   refine zh (i := 13) (by kernel_rfl) rfl (fun K hK => ?_)
   try rw [if_pos (show Region.wanted _ _ = true from rfl)]
   go_simp
   have S3 := HS2.out
   refine hK.out _ _ (fun _ => S3) ?_
   clear hK K
   try simp only [zs.a, zs.b, zs.c, Act.put]
   refine za (i := 14) (oi := _) ?vb14 rfl rfl (by kernel_rfl) (by decide) (fun _ _ _ h => h) rfl ?hyb14 (fun _ => S3) ?restb14
   case hyb14 => (intro W; go_simp; (try with_reducible rfl))
   try simp only [zs.a, zs.b, zs.c]
   refine za (i := 15) (oi := _) ?vb15 rfl rfl (by kernel_rfl) (by decide) (fun _ _ _ h => h) rfl ?hyb15 (fun _ => S3) ?restb15
   case hyb15 => (intro W; go_simp; (try with_reducible rfl))
   try simp only [zs.a, zs.b, zs.c]
   refine zh (i := 16) (by kernel_rfl) rfl (fun K hK => ?_)
   go_simp
   refine hK.out _ _ (fun hf => absurd hf (by decide)) ?_
   clear hK K
   refine zL (by kernel_rfl) ?_
   have HN := Lib.hid (show ∀ W, W = (wz.setCell ⟨g, 26 + k * 3 + 1, none⟩ (.int .i64 ((cntX X e k : Nat) : Int))).setCell ⟨g, 26 + k * 3 + 2, none⟩ (.int .i64 (((ofX X k).length : Nat) : Int)) -> zP W g X (E ++ [X.length]) (ofX X) (fun q => if q < k + 1 then cntX X e q else cntX X o q) (fun q => if q < k + 1 then cntX X X.length q else cntX X e q) (zK zaa (zj X)) R1 /\ z8 g w R W R1 from fun W hW => by
    subst hW
    have h1 := (HG2.out.setOld hlt (cntX X e k)).setLat hlt (ofX X k).length
    have h2 : zcq (fun q => if q < k then cntX X X.length q else cntX X e q) k (ofX X k).length = fun q => if q < k + 1 then cntX X X.length q else cntX X e q := by rw [<- zos X k]; exact zo4 _ _ _
    rw [zo4, h2] at h1
    exact ⟨h1, (HK2.out.setG _ _).setG _ _⟩)
   have HN2 := Lib.hid (HN.out _ rfl)
   clear hx1 hx2 hf1 hf2 S3 SB
   go_wp2_with fail
   go_roundw
   case rel => exact ⟨k + 1, by omega, by go_num, HN2.out.1, HN2.out.2⟩
   case measure => simp [intOf]; omega
  ·obtain rfl : k = 24 := by omega
   go_wp2_with fail
   go_end0
   exact ⟨rfl, R1, ⟨HR.out.same (fun p hp => by rw [if_pos hp]) (fun p hp => by rw [if_pos hp]), HAT.out.eL, Nat.le_refl _⟩, HKP.out⟩
open Go.RowKit
def zob (g : Nat) (w : World) : Nat := match w.cell? ⟨g, 1, none⟩ with
 | some (.slice _ n _) => 2000 - n
 | _ => 0
theorem zaR.meas {w : World} {g o e : Nat} {X : List FV} {E : List Nat} {R : Nat -> Value} (h : zaR w g X E o e R) : zob g w = 2000 - E.length := by
 obtain ⟨A, c, hv⟩ := h.raw.formE
 unfold zob
 rw [h.raw.cellEnds, hv]
theorem zaR.lastEnd {w : World} {g o e m : Nat} {X : List FV} {E : List Nat} {R : Nat -> Value} (h : zaR w g X E o e R) (hm : E.length = m + 1) (hl : E.getLastD 0 = e) : ∃ b c, R 1 = .slice (some ⟨b, 0, none⟩) (m + 1) c /\ w.cell? ⟨b, m, none⟩ = some (.int .i64 (e : Int)) /\ m + 1 <= c := by
 have hcells := @World.ownsRow.cells w (g + 1) 3 1 _ E.length (E.map inN) h.raw.ends
 rcases h.raw.ends.2 with ⟨e1, e0⟩ | ⟨b, cap, cur, e1, hb, hg, hc, _⟩
 ·omega
 ·refine ⟨b, cap, by rw [e1, hm], ?_, by omega⟩
  have hget : (E.map inN)[m]? = some (.int .i64 (e : Int)) := by
   rw [List.getElem?_map]
   have : E[m]? = some e := by
    rw [<- hl, List.getLastD_eq_getLast?, List.getLast?_eq_getElem?, hm]
    simp [show m < E.length by omega]
   rw [this]
   rfl
  have := hcells (g := b) (by rw [e1]; rfl) m _ hget
  rw [Go.WideShapes.add_plain, Nat.zero_add] at this
  exact this
theorem zh3.new {w w' : World} {g : Nat} {XL : List FV} {E : List Nat} {XP : Nat -> List FV} {O La : Nat -> Nat} {T : List Nat} {R : Nat -> Value} {v : Value} {S : List (List Int)} (h : zP w g XL E XP O La T R) (hr : zbc w' w.heap.size w'.heap.size v S) : zh3 w' g R v S := by
 refine ⟨hr.rd, fun _ b hb => ?_⟩
 have h1 := hr.1.lt b hb
 have h2 := h.lt
 exact ⟨by omega, fun ⟨r, hr, e⟩ => by have := h.rowLt hr e; omega⟩
set_option maxHeartbeats 8000000 in
theorem zmt (g : Nat) (ar : List Int) (har : zr ar = true) (rs : List zJ) (hfit : ∀ r ∈ rs, zA ar r = true) (hsz : zgm rs <= 1048576) (hrl : rs.length <= 1048576) (X0 : List FV) (E0 : List Nat) (o0 e0 : Nat) (R0 : Nat -> Value) (v2 : Value) (w : World)
 (h : zaR w g X0 E0 o0 e0 R0) (hX : zaI ar (zj X0)) (hr : zbp w g v2 rs) (hl : E0.getLastD 0 = e0) (hne : E0 ≠ []) (hu : E0.Pairwise (· < ·)) (hub : ∀ x ∈ E0, x <= e0) (hh : ∀ f, f ∈ zR rs ((zj X0).take e0) -> f ∈ zj X0) :
 Calls Tryz.prog 64 #[.pointer (some ⟨g, 0, none⟩), v2] w fun e' w' =>
  e' = .returned (.tuple #[]) /\ ∃ X E o R m, zaR w' g X E o X.length R /\ z8 g w R0 w' R /\ zmL ar rs (zj X0) E0 (zj X) E m := by
 have H0 := Lib.hid h
 have HX := Lib.hid hX
 have HR := Lib.hid hr
 have HAR := Lib.hid har
 have HFIT := Lib.hid hfit
 have HNE := Lib.hid hne
 have HI := Lib.hid (zf3.start hX hl (by rw [zae]; exact h.eL) hh hu hub)
 have hgl := h.lt
 obtain ⟨A, c, rfl, hc, _⟩ := hr
 clear h hX har hfit hl hne hu hub hh
 go_enter Tryz.func64, Tryz.ntmps64
 go_wp2_with fail
 go_loopw [] (fun wr => ∃ (X : List FV) (E : List Nat) (o e : Nat) (R : Nat -> Value) (j : Nat), zaR wr g X E o e R /\ z8 g w R0 wr R /\ zf3 ar rs (zj X0) E0 (zj X) E e j) (fun wr => zob g wr)
 case atStart => exact ⟨X0, E0, o0, e0, R0, 0, H0.out, z8.refl _ _ _, HI.out⟩
 case round =>
  obtain ⟨X, E, o, e, R, j, hat, hkp, hinv⟩ := hrel
  have HAT := Lib.hid hat
  have HKP := Lib.hid hkp
  have HINV := Lib.hid hinv
  have hglr := hat.lt
  have hXle : X.length <= 1536 := hat.few HAR.out hinv.fit
  have hEle : E.length <= 1537 := by
   have h1 := zol hinv.up hinv.ub
   have h2 := hinv.le
   rw [zae] at h2
   omega
  have hEpos : 0 < E.length := by
   obtain ⟨M, e1, _⟩ := hinv.ends
   have := List.length_pos_iff.2 HNE.out
   rw [e1, List.length_append]
   omega
  obtain ⟨m, hm⟩ : ∃ m, E.length = m + 1 := ⟨E.length - 1, by omega⟩
  obtain ⟨A0, c0, hv0⟩ := hat.raw.formL
  obtain ⟨b1, c1, hv1, hce, hc1⟩ := hat.lastEnd hm hinv.last
  have q0 : wr.cell? ⟨g, 0, none⟩ = some (.slice A0 X.length c0) := by rw [<- hv0]; exact hat.raw.cellList
  have q1 : wr.cell? ⟨g, 1, none⟩ = some (.slice (some ⟨b1, 0, none⟩) (m + 1) c1) := by rw [<- hv1]; exact hat.raw.cellEnds
  have d0 : wr.drew.cell? ⟨g, 0, none⟩ = some (.slice A0 X.length c0) := q0
  have d1 : wr.drew.cell? ⟨g, 1, none⟩ = some (.slice (some ⟨b1, 0, none⟩) (m + 1) c1) := q1
  have d2 : wr.drew.cell? ⟨b1, m, none⟩ = some (.int .i64 (e : Int)) := hce
  have HMM := Lib.hid hm
  have hm5 : m <= 1536 := by omega
  have hm6 : (m : Int) <= 1536 := by omega
  have hm7 : (m : Int) < (m : Int) + 1 := by omega
  clear hat hkp hinv hv0 hv1 hm
  by_cases hlt : e < X.length
  ·have hdl : decide (e < X.length) = true := decide_eq_true hlt
   go_upto_region 0 with fail
   go_big_region
   obtain ⟨wo, rfl⟩ : ∃ wo, wo = wr := ⟨_, rfl⟩
   have CE := Lib.hid (zgX g X E o e R wo.drew HAT.out.drew (by omega) (by omega))
   have HAL := Lib.hid (show ∀ k (hk : k < rs.length), ((0 <= rs[k].1.1 /\ rs[k].1.1 < 24) /\ rs[k].1.2.all zz = true /\ rs[k].1.2.length <= 2 /\ rs[k].2.length <= 4 /\ ∀ l ∈ rs[k].2, 0 <= l.2.1 /\ l.2.1 < 24) /\ zbV rs[k].2 /\ zbB rs[k].2 <= 1048576 from fun k hk => by
    have h1 := HFIT.out _ (List.getElem_mem hk)
    have h2 := zbZ rs k hk
    unfold szR at h2
    exact ⟨ziw HAR.out h1, zbV.of (zcC h1), by omega⟩)
   clear q0 q1 d0 d1 d2
   go_wp2_with (go_at_call 99; refine CE.out.mono ?_; rintro e1 w2 ⟨rfl, R1, h1, k1⟩; have H1 := Lib.hid (And.intro h1 k1); clear h1 k1)
   have hg2 : g < w2.heap.size := H1.out.1.lt
   go_loopw [28] (fun i wr => ∃ (k : Nat) (X2 : List FV) (R2 : Nat -> Value), k <= rs.length /\ i = .int .i64 k /\ zaR wr g X2 (E ++ [X.length]) e X.length R2 /\ z8 g w2 R1 wr R2 /\ zas (zj X) (fun f => ∃ r ∈ rs.take k, ∃ b, zco r.2 (zaw (zj X) e X.length r.2) b /\ f = zdU r b) (zj X2)) (fun i _ => rs.length - (intOf i).toNat)
   case atStart => exact ⟨0, X, R1, Nat.zero_le _, rfl, H1.out.1, z8.refl _ _ _, zas.refl HINV.out.fit.nodup fun f hf => by obtain ⟨r, hr, _⟩ := hf; simp at hr⟩
   case round =>
    obtain ⟨k, X2, R2, hk, rfl, hat, hkp, hbr⟩ := hrel
    have HAT2 := Lib.hid hat
    have HKP2 := Lib.hid (show z8 g w2 R1 wr R2 from hkp)
    have HBR := Lib.hid hbr
    have hfold : z8 g w R0 wr R2 := (HKP.out.drew.trans H1.out.2).trans hkp
    have HFOLD := Lib.hid hfold
    have hglr2 := hat.lt
    have HFX := Lib.hid (show zaI ar (zj X2) from hbr.fit HINV.out.fit fun f ⟨r, hr, b, hb, e2⟩ => by
     rw [e2]
     have hfr := HFIT.out r (List.mem_of_mem_take hr)
     exact zgr HAR.out hfr (HINV.out.fit.take X.length) ((zdu (L := zj X) HAT.out.eL (zbV.of (zcC hfr))).2 hb))
    have HAGE := Lib.hid (show ∀ ls, zaw (zj X2) e X.length ls = zaw (zj X) e X.length ls from fun ls => by
     obtain ⟨⟨N, e2⟩, _⟩ := hbr
     rw [e2]
     exact zmE (by rw [zae]; exact HAT.out.eL) (by rw [zae]; exact Nat.le_refl _) ls)
    have hX2le : X2.length <= 1536 := hat.few HAR.out HFX.out
    clear hat hkp hbr hfold
    by_cases hltk : k < rs.length
    ·obtain ⟨b, o3, u0, u1, u2, rfl, hbB, k0, k1, k2, rfl, q1, q2⟩ := (HR.out.below HFOLD.out.below (Nat.le_refl _)).get hltk
     obtain ⟨A3, c3, rfl, hc3, _⟩ := id q1
     obtain ⟨A4, c4, rfl, hc4, _⟩ := id q2
     have hall := HAL.out k hltk
     have HTK := Lib.hid (zH rs k hltk)
     obtain ⟨r, hre⟩ : ∃ r, r = rs[k] := ⟨_, rfl⟩
     have HRF := Lib.hid (show zA ar r = true by rw [hre]; exact HFIT.out _ (List.getElem_mem hltk))
     rw [<- hre] at k0 k1 k2 hc3 hc4 q1 q2 hall HTK
     obtain ⟨⟨⟨hp0, hp1⟩, htm, hal2, hlen4, hpl⟩, hsafe, htotl⟩ := hall
     obtain ⟨p, hpe⟩ : ∃ p : Nat, r.1.1 = (p : Int) := ⟨r.1.1.toNat, by omega⟩
     rw [hpe] at k0
     have HQ1 := Lib.hid q1
     have HQ2 := Lib.hid q2
     have HPE := Lib.hid hpe
     have HSF := Lib.hid (And.intro htm (And.intro hpl hsafe))
     clear hre q1 q2 hpe htm hpl hsafe hp0 hp1
     go_upto_region 5 with fail
     obtain ⟨bx, hbx⟩ : ∃ bx, bx = wr.heap.size := ⟨_, rfl⟩
     obtain ⟨wv, hwv⟩ : ∃ wv, wv = wr.alloc (Obj.cells #[Value.int IntKind.i64 (p : Int), Value.slice A3 r.1.2.length c3, Value.slice A4 r.2.length c4] 66) := ⟨_, rfl⟩
     have bv : Below wr.heap.size wr wv := by rw [hwv]; exact ze _ _
     have z7 : Blk wv bx 66 #[.int .i64 p, .slice A3 r.1.2.length c3, .slice A4 r.2.length c4] := by rw [hwv, hbx]; exact Blk.new _ _ _
     have HBV := Lib.hid bv
     have hgv : g < wv.heap.size := Nat.lt_of_lt_of_le hglr2 bv.size
     rw [<- hwv]
     rw [show (wr.heap.size : Nat) = bx from hbx.symm]
     have q0 : wv.cell? ⟨bx, 0, none⟩ = some (.int .i64 p) := z7.cell 0
     have q1 : wv.cell? ⟨bx, 1, none⟩ = some (.slice A3 r.1.2.length c3) := z7.cell 1
     have q2 : wv.cell? ⟨bx, 2, none⟩ = some (.slice A4 r.2.length c4) := z7.cell 2
     clear hwv k0 k1 k2 bv z7 hbx
     obtain ⟨SS, hSS⟩ : ∃ SS : World -> Prop, SS = (fun W => W.cell? ⟨bx, 0, none⟩ = some (.int .i64 p) /\ W.cell? ⟨bx, 1, none⟩ = some (.slice A3 r.1.2.length c3) /\ W.cell? ⟨bx, 2, none⟩ = some (.slice A4 r.2.length c4)) := ⟨_, rfl⟩
     have HB := Lib.hid (show ∀ W, SS W -> (W.cell? ⟨bx, 0, none⟩ = some (.int .i64 p) /\ W.cell? ⟨bx, 1, none⟩ = some (.slice A3 r.1.2.length c3) /\ W.cell? ⟨bx, 2, none⟩ = some (.slice A4 r.2.length c4)) from by rw [hSS]; exact fun W hW => hW)
     have HS := Lib.hid (show ∀ W, Below wv.heap.size wv W -> SS W from by
      rw [hSS]
      exact fun W hW => ⟨(hW.cell (World.block_lt_of_cell? _ _ q0)).trans q0, (hW.cell (World.block_lt_of_cell? _ _ q1)).trans q1, (hW.cell (World.block_lt_of_cell? _ _ q2)).trans q2⟩)
     clear hSS
     have BB : Below wv.heap.size wv wv.drew := (Below.refl _ _).drew
     have SB := HS.out _ BB
     have HGV := Lib.hid (show zaR wv.drew g X2 (E ++ [X.length]) e X.length R2 from (HAT2.out.on HBV.out).drew)
     have HRL := Lib.hid (show za6 wv.drew g (.slice A4 r.2.length c4) r.2 from (HQ2.out.below HBV.out (Nat.le_of_lt hglr2)).below BB (Nat.le_of_lt hgv))
     have HRI := Lib.hid (show zv wv.drew g (.slice A3 r.1.2.length c3) r.1.2 from (HQ1.out.below HBV.out (Nat.le_of_lt hglr2)).below BB (Nat.le_of_lt hgv))
     clear q0 q1 q2
     refine zB SS 10 11 (by kernel_rfl) rfl ?_
     refine za (i := 0) (oi := _) ?va0 rfl rfl (by kernel_rfl) (by decide) (fun _ _ _ h => h) rfl ?hya0 (fun _ => SB) ?resta0
     case hya0 => (intro W; go_simp; (try with_reducible rfl))
     try simp only [zs.a, zs.b, zs.c]
     refine za (i := 1) (oi := _) ?va1 rfl rfl (by kernel_rfl) (by decide) (fun _ _ _ h => h) rfl ?hya1 (fun _ => SB) ?resta1
     case hya1 => (intro W; go_simp; (try with_reducible rfl))
     try simp only [zs.a, zs.b, zs.c]
     refine zm (i := 2) (oi := _) ?va2 rfl rfl (by kernel_rfl) (fun _ _ _ h => h) rfl ?hya2 SB ?resta2
     case hya2 => (intro W hW; obtain ⟨E0, E1, E2⟩ := HB.out W hW; go_simp; (try with_reducible rfl))
     try simp only [zs.a, zs.b, zs.c]
     refine za (i := 3) (oi := _) ?va3 rfl rfl (by kernel_rfl) (by decide) (fun _ _ _ h => h) rfl ?hya3 (fun _ => SB) ?resta3
     case hya3 => (intro W; go_simp; (try with_reducible rfl))
     try simp only [zs.a, zs.b, zs.c]
     refine zm (i := 4) (oi := _) ?va4 rfl rfl (by kernel_rfl) (fun _ _ _ h => h) rfl ?hya4 SB ?resta4
     case hya4 => (intro W hW; obtain ⟨E0, E1, E2⟩ := HB.out W hW; go_simp; (try with_reducible rfl))
     try simp only [zs.a, zs.b, zs.c]
     refine za (i := 5) (oi := _) ?va5 rfl rfl (by kernel_rfl) (by decide) (fun _ _ _ h => h) rfl ?hya5 (fun _ => SB) ?resta5
     case hya5 => (intro W; go_simp; (try with_reducible rfl))
     try simp only [zs.a, zs.b, zs.c]
     refine za (i := 6) (oi := _) ?va6 rfl rfl (by kernel_rfl) (by decide) (fun _ _ _ h => h) rfl ?hya6 (fun _ => SB) ?resta6
     case hya6 => (intro W; go_simp; (try with_reducible rfl))
     try simp only [zs.a, zs.b, zs.c]
     refine zm (i := 7) (oi := _) ?va7 rfl rfl (by kernel_rfl) (fun _ _ _ h => h) rfl ?hya7 SB ?resta7
     case hya7 => (intro W hW; obtain ⟨E0, E1, E2⟩ := HB.out W hW; go_simp; (try with_reducible rfl))
     try simp only [zs.a, zs.b, zs.c]
     refine zh (i := 8) (by kernel_rfl) rfl (fun K hK => ?_)
     try rw [if_pos (show Region.wanted _ _ = true from rfl)]
     go_simp
     refine (znI g X2 (E ++ [X.length]) e X.length R2 (.slice A4 r.2.length c4) r.2 wv.drew HGV.out (HRL.out.more (Nat.le_of_lt hgv)) HSF.out.2.1 (by omega) (by omega)).mono ?_
     rintro e8 W8 ⟨g8, us8, rfl, hg8, at8, rd8, b8⟩
     have H8 := Lib.hid (And.intro at8 (And.intro rd8 b8))
     clear at8 rd8 b8
     have S8 := HS.out W8 (zf BB H8.out.2.2)
     refine hK.out _ _ (fun _ => S8) ?_
     clear hK K
     try simp only [zs.a, zs.b, zs.c, Act.put]
     refine zh (i := 9) (by kernel_rfl) rfl (fun K hK => ?_)
     try rw [if_pos (show Region.wanted _ _ = true from rfl)]
     go_simp
     have hz8 : wv.drew.heap.size <= W8.heap.size := H8.out.2.2.size
     refine (zir g8 r.2.length r.2 (zaw (zj X2) e X.length r.2) us8 (.slice A4 r.2.length c4) W8 ((HRL.out.below H8.out.2.2 (Nat.le_of_lt hgv)).more (Nat.le_trans (Nat.le_of_lt hgv) hz8)) H8.out.1 (H8.out.2.1.more hz8) (zmF _ _ _ _) HSF.out.2.2 htotl (znM (HFX.out.fewL HAR.out))).mono ?_
     rintro e9 W9 ⟨A9, c9, S, rfl, ow9, b9, mem9, len9, _⟩
     have H9 := Lib.hid (And.intro ow9 (And.intro b9 mem9))
     clear ow9 b9 mem9
     have BB9 : Below wv.drew.heap.size wv.drew W9 := zf H8.out.2.2 H9.out.2.1
     have S9 := HS.out W9 (zf BB BB9)
     refine hK.out _ _ (fun _ => S9) ?_
     clear hK K
     try simp only [zs.a, zs.b, zs.c, Act.put]
     refine zh (i := 10) (by kernel_rfl) rfl (fun K hK => ?_)
     try rw [if_pos (show Region.wanted _ _ = true from rfl)]
     go_simp
     have HSOL := Lib.hid (show ∀ b, b ∈ S -> zc0 ((zj X).take X.length) r.2 b /\ zco r.2 (zaw (zj X) e X.length r.2) b from fun b hb => by
      have h1 := (H9.out.2.2 b).1 hb
      rw [HAGE.out] at h1
      exact ⟨(zdu (L := zj X) HAT.out.eL HSF.out.2.2).2 h1, h1⟩)
     refine (zfD g ar HAR.out X2 (E ++ [X.length]) e X.length R2 p r.1.2 (.slice A3 r.1.2.length c3) (.slice A9 S.length c9) S W9 (HGV.out.on BB9) HFX.out (HRI.out.below BB9 (Nat.le_of_lt hgv)) HSF.out.1 hal2 (zh3.new (HGV.out.on H8.out.2.2).raw H9.out.1) (fun b hb => (HSOL.out b hb).1.1) (fun b hb => by
      have h1 := zgr HAR.out HRF.out (HINV.out.fit.take X.length) (HSOL.out b hb).1
      unfold zdU at h1
      rw [HPE.out] at h1
      exact h1) (by omega)).mono ?_
     rintro e10 W10 ⟨rfl, X3, R3, g10, k10, br10⟩
     have H10 := Lib.hid (And.intro g10 (And.intro k10 br10))
     clear g10 k10 br10
     refine hK.out _ _ (fun hf => absurd hf (by decide)) ?_
     clear hK K
     try simp only [zs.a, zs.b, zs.c, Act.put]
     refine zL (by kernel_rfl) ?_
     have HFIN := Lib.hid (show z8 g w2 R1 W10 R3 /\ zas (zj X) (fun f => ∃ r ∈ rs.take (k + 1), ∃ b, zco r.2 (zaw (zj X) e X.length r.2) b /\ f = zdU r b) (zj X3) from by
      refine ⟨(HKP2.out.trans (z8.of_below (zf HBV.out (zf BB BB9)) (Nat.le_of_lt hglr2))).trans H10.out.2.1, HBR.out.trans H10.out.2.2 fun f => ?_⟩
      rw [HTK.out]
      constructor
      ·rintro ⟨r', hr', b', hb', e'⟩
       rcases List.mem_append.1 hr' with hr' | hr'
       ·exact .inl ⟨r', hr', b', hb', e'⟩
       ·rw [List.mem_singleton.1 hr'] at hb' e'
        refine .inr ⟨b', (H9.out.2.2 b').2 (by rw [HAGE.out]; exact hb'), ?_⟩
        rw [e']
        unfold zdU
        rw [HPE.out]
      ·rintro (⟨r', hr', b', hb', e'⟩ | ⟨b', hb', e'⟩)
       ·exact ⟨r', List.mem_append_left _ hr', b', hb', e'⟩
       ·refine ⟨r, List.mem_append_right _ (List.mem_singleton_self _), b', (HSOL.out b' hb').2, ?_⟩
        rw [e']
        unfold zdU
        rw [HPE.out])
     clear S9 S8 SB HB HS BB BB9
     go_wp2_with fail
     go_roundw
     case rel => exact ⟨k + 1, X3, R3, by omega, by go_num, H10.out.1, HFIN.out.1, HFIN.out.2⟩
     case measure => simp [intOf]; omega
    ·obtain rfl : k = rs.length := by omega
     have HFIN := Lib.hid (show zf3 ar rs (zj X0) E0 (zj X2) (E ++ [X.length]) X.length (j + 1) from by
      have h1 := HBR.out
      rw [List.take_length] at h1
      have h2 := HINV.out.step HFIT.out HX.out (by rw [zae]; exact hlt) HFX.out (by rw [zae]; exact h1)
      rw [zae] at h2
      exact h2)
     go_wp2_with fail
     go_roundw
     case rel => exact ⟨X2, E ++ [X.length], e, X.length, R2, j + 1, HAT2.out, HFOLD.out, HFIN.out⟩
     case measure =>
      rw [HAT2.out.meas, HAT.out.meas, List.length_append, List.length_singleton]
      omega
  ·have hdl : decide (e < X.length) = false := decide_eq_false hlt
   go_upto_region 0 with fail
   go_big_region
   go_wp2_with fail
   go_end0
   have he : e = X.length := by have := HAT.out.eL; omega
   obtain ⟨mm, hmm⟩ := HINV.out.done HFIT.out HX.out (by rw [zae]; exact he)
   exact ⟨rfl, X, E, o, R, mm, by rw [<- he]; exact HAT.out.drew, HKP.out.drew, hmm⟩
open Go.RowKit
theorem zou {L N : List zd} {e : Nat} (he : e <= L.length) (ls : List zC) : zd0 (L ++ N) e ls = zd0 L e ls := by
 unfold zd0
 rw [List.take_append_of_le_length he]
theorem zlK (L : List zd) (e : Nat) (ls : List zC) : (zd0 L e ls).length = ls.length := by simp [zd0]
set_option maxHeartbeats 8000000 in
theorem zmu (g : Nat) (ar : List Int) (har : zr ar = true) (rs : List zJ) (hfit : ∀ r ∈ rs, zA ar r = true) (hsz : zgm rs <= 1048576) (hrl : rs.length <= 1048576) (X0 : List FV) (E0 : List Nat) (o0 : Nat) (R0 : Nat -> Value) (v2 : Value) (w : World)
 (h : zaR w g X0 E0 o0 X0.length R0) (hX : zaI ar (zj X0)) (hr : zbp w g v2 rs) (hl : E0.getLastD 0 = X0.length) (hne : E0 ≠ []) (hu : E0.Pairwise (· < ·)) (hub : ∀ x ∈ E0, x <= X0.length) :
 Calls Tryz.prog 66 #[.pointer (some ⟨g, 0, none⟩), v2] w fun e' w' =>
  e' = .returned (.tuple #[]) /\ ∃ X E o R m, zaR w' g X E o X.length R /\ z8 g w R0 w' R /\ zjf ar rs (zj X0) E0 (zj X) E m := by
 have H0 := Lib.hid h
 have HX := Lib.hid hX
 have HR := Lib.hid hr
 have HAR := Lib.hid har
 have HFIT := Lib.hid hfit
 have HE := Lib.hid (And.intro hl (And.intro hne (And.intro hu hub)))
 have hgl := h.lt
 have HAL := Lib.hid (show ∀ k (hk : k < rs.length), ((0 <= rs[k].1.1 /\ rs[k].1.1 < 24) /\ rs[k].1.2.all zz = true /\ rs[k].1.2.length <= 2 /\ rs[k].2.length <= 4 /\ ∀ l ∈ rs[k].2, 0 <= l.2.1 /\ l.2.1 < 24) /\ zbV rs[k].2 /\ zbB rs[k].2 <= 1048576 from fun k hk => by
  have h1 := hfit _ (List.getElem_mem hk)
  have h2 := zbZ rs k hk
  unfold szR at h2
  exact ⟨ziw har h1, zbV.of (zcC h1), by omega⟩)
 obtain ⟨A, c, rfl, hc, _⟩ := hr
 have hX0le : X0.length <= 1536 := h.few har hX
 clear h hX har hfit hl hne hu hub
 go_enter Tryz.func66, Tryz.ntmps66
 go_wp2_with fail
 go_loopw [8] (fun i wr => ∃ (k : Nat) (X2 : List FV) (R2 : Nat -> Value), k <= rs.length /\ i = .int .i64 k /\ zaR wr g X2 E0 o0 X0.length R2 /\ z8 g w R0 wr R2 /\ zas (zj X0) (fun f => ∃ r ∈ rs.take k, ∃ b, zc0 (zj X0) r.2 b /\ f = zdU r b) (zj X2)) (fun i _ => rs.length - (intOf i).toNat)
 case atStart => exact ⟨0, X0, R0, Nat.zero_le _, rfl, H0.out, z8.refl _ _ _, zas.refl HX.out.nodup fun f hf => by obtain ⟨r, hr, _⟩ := hf; simp at hr⟩
 case round =>
  obtain ⟨k, X2, R2, hk, rfl, hat, hkp, hbr⟩ := hrel
  have HAT2 := Lib.hid hat
  have HKP2 := Lib.hid (show z8 g w R0 wr R2 from hkp)
  have HBR := Lib.hid hbr
  have hglr2 := hat.lt
  have HFX := Lib.hid (show zaI ar (zj X2) from hbr.fit HX.out fun f ⟨r, hr, b, hb, e2⟩ => by
   rw [e2]
   exact zgr HAR.out (HFIT.out r (List.mem_of_mem_take hr)) HX.out hb)
  have HAGE := Lib.hid (show ∀ ls, zd0 (zj X2) X0.length ls = zd0 (zj X0) X0.length ls from fun ls => by
   obtain ⟨⟨N, e2⟩, _⟩ := hbr
   rw [e2]
   exact zou (by rw [zae]; exact Nat.le_refl _) ls)
  have hX2le : X2.length <= 1536 := hat.few HAR.out HFX.out
  clear hat hkp hbr
  by_cases hltk : k < rs.length
  ·obtain ⟨b, o3, u0, u1, u2, rfl, hbB, k0, k1, k2, rfl, q1, q2⟩ := (HR.out.below HKP2.out.below (Nat.le_refl _)).get hltk
   obtain ⟨A3, c3, rfl, hc3, _⟩ := id q1
   obtain ⟨A4, c4, rfl, hc4, _⟩ := id q2
   have hall := HAL.out k hltk
   have HTK := Lib.hid (zH rs k hltk)
   obtain ⟨r, hre⟩ : ∃ r, r = rs[k] := ⟨_, rfl⟩
   have HRF := Lib.hid (show zA ar r = true by rw [hre]; exact HFIT.out _ (List.getElem_mem hltk))
   rw [<- hre] at k0 k1 k2 hc3 hc4 q1 q2 hall HTK
   obtain ⟨⟨⟨hp0, hp1⟩, htm, hal2, hlen4, hpl⟩, hsafe, htotl⟩ := hall
   obtain ⟨p, hpe⟩ : ∃ p : Nat, r.1.1 = (p : Int) := ⟨r.1.1.toNat, by omega⟩
   rw [hpe] at k0
   have HQ1 := Lib.hid q1
   have HQ2 := Lib.hid q2
   have HPE := Lib.hid hpe
   have HSF := Lib.hid (And.intro htm (And.intro hpl hsafe))
   clear hre q1 q2 hpe htm hpl hsafe hp0 hp1
   go_upto_region 3 with fail
   obtain ⟨bx, hbx⟩ : ∃ bx, bx = wr.heap.size := ⟨_, rfl⟩
   obtain ⟨wv, hwv⟩ : ∃ wv, wv = wr.alloc (Obj.cells #[Value.int IntKind.i64 (p : Int), Value.slice A3 r.1.2.length c3, Value.slice A4 r.2.length c4] 66) := ⟨_, rfl⟩
   have bv : Below wr.heap.size wr wv := by rw [hwv]; exact ze _ _
   have z7 : Blk wv bx 66 #[.int .i64 p, .slice A3 r.1.2.length c3, .slice A4 r.2.length c4] := by rw [hwv, hbx]; exact Blk.new _ _ _
   have HBV := Lib.hid bv
   have hgv : g < wv.heap.size := Nat.lt_of_lt_of_le hglr2 bv.size
   rw [<- hwv]
   rw [show (wr.heap.size : Nat) = bx from hbx.symm]
   have q0 : wv.cell? ⟨bx, 0, none⟩ = some (.int .i64 p) := z7.cell 0
   have q1 : wv.cell? ⟨bx, 1, none⟩ = some (.slice A3 r.1.2.length c3) := z7.cell 1
   have q2 : wv.cell? ⟨bx, 2, none⟩ = some (.slice A4 r.2.length c4) := z7.cell 2
   clear hwv k0 k1 k2 bv z7 hbx
   obtain ⟨SS, hSS⟩ : ∃ SS : World -> Prop, SS = (fun W => W.cell? ⟨bx, 0, none⟩ = some (.int .i64 p) /\ W.cell? ⟨bx, 1, none⟩ = some (.slice A3 r.1.2.length c3) /\ W.cell? ⟨bx, 2, none⟩ = some (.slice A4 r.2.length c4)) := ⟨_, rfl⟩
   have HB := Lib.hid (show ∀ W, SS W -> (W.cell? ⟨bx, 0, none⟩ = some (.int .i64 p) /\ W.cell? ⟨bx, 1, none⟩ = some (.slice A3 r.1.2.length c3) /\ W.cell? ⟨bx, 2, none⟩ = some (.slice A4 r.2.length c4)) from by rw [hSS]; exact fun W hW => hW)
   have HS := Lib.hid (show ∀ W, Below wv.heap.size wv W -> SS W from by
    rw [hSS]
    exact fun W hW => ⟨(hW.cell (World.block_lt_of_cell? _ _ q0)).trans q0, (hW.cell (World.block_lt_of_cell? _ _ q1)).trans q1, (hW.cell (World.block_lt_of_cell? _ _ q2)).trans q2⟩)
   clear hSS
   have BB : Below wv.heap.size wv wv.drew := (Below.refl _ _).drew
   have SB := HS.out _ BB
   have HGV := Lib.hid (show zaR wv.drew g X2 E0 o0 X0.length R2 from (HAT2.out.on HBV.out).drew)
   have HRL := Lib.hid (show za6 wv.drew g (.slice A4 r.2.length c4) r.2 from (HQ2.out.below HBV.out (Nat.le_of_lt hglr2)).below BB (Nat.le_of_lt hgv))
   have HRI := Lib.hid (show zv wv.drew g (.slice A3 r.1.2.length c3) r.1.2 from (HQ1.out.below HBV.out (Nat.le_of_lt hglr2)).below BB (Nat.le_of_lt hgv))
   clear q0 q1 q2
   refine zB SS 8 9 (by kernel_rfl) rfl ?_
   refine za (i := 0) (oi := _) ?va0 rfl rfl (by kernel_rfl) (by decide) (fun _ _ _ h => h) rfl ?hya0 (fun _ => SB) ?resta0
   case hya0 => (intro W; go_simp; (try with_reducible rfl))
   try simp only [zs.a, zs.b, zs.c]
   refine za (i := 1) (oi := _) ?va1 rfl rfl (by kernel_rfl) (by decide) (fun _ _ _ h => h) rfl ?hya1 (fun _ => SB) ?resta1
   case hya1 => (intro W; go_simp; (try with_reducible rfl))
   try simp only [zs.a, zs.b, zs.c]
   refine zm (i := 2) (oi := _) ?va2 rfl rfl (by kernel_rfl) (fun _ _ _ h => h) rfl ?hya2 SB ?resta2
   case hya2 => (intro W hW; obtain ⟨E0', E1, E2⟩ := HB.out W hW; go_simp; (try with_reducible rfl))
   try simp only [zs.a, zs.b, zs.c]
   refine za (i := 3) (oi := _) ?va3 rfl rfl (by kernel_rfl) (by decide) (fun _ _ _ h => h) rfl ?hya3 (fun _ => SB) ?resta3
   case hya3 => (intro W; go_simp; (try with_reducible rfl))
   try simp only [zs.a, zs.b, zs.c]
   refine za (i := 4) (oi := _) ?va4 rfl rfl (by kernel_rfl) (by decide) (fun _ _ _ h => h) rfl ?hya4 (fun _ => SB) ?resta4
   case hya4 => (intro W; go_simp; (try with_reducible rfl))
   try simp only [zs.a, zs.b, zs.c]
   refine zm (i := 5) (oi := _) ?va5 rfl rfl (by kernel_rfl) (fun _ _ _ h => h) rfl ?hya5 SB ?resta5
   case hya5 => (intro W hW; obtain ⟨E0', E1, E2⟩ := HB.out W hW; go_simp; (try with_reducible rfl))
   try simp only [zs.a, zs.b, zs.c]
   refine zh (i := 6) (by kernel_rfl) rfl (fun K hK => ?_)
   try rw [if_pos (show Region.wanted _ _ = true from rfl)]
   go_simp
   refine (zhw g X2 E0 o0 X0.length R2 (.slice A4 r.2.length c4) r.2 wv.drew HGV.out (HRL.out.more (Nat.le_of_lt hgv)) HSF.out.2.1 (by omega) (by omega)).mono ?_
   rintro e8 W8 ⟨g8, us8, rfl, hg8, at8, rd8, b8⟩
   have H8 := Lib.hid (And.intro at8 (And.intro rd8 (And.intro b8 hg8)))
   clear at8 rd8 b8 hg8
   have S8 := HS.out W8 (zf BB H8.out.2.2.1)
   refine hK.out _ _ (fun _ => S8) ?_
   clear hK K
   try simp only [zs.a, zs.b, zs.c, Act.put]
   refine zh (i := 7) (by kernel_rfl) rfl (fun K hK => ?_)
   try rw [if_pos (show Region.wanted _ _ = true from rfl)]
   go_simp
   have hz8 : wv.drew.heap.size <= W8.heap.size := H8.out.2.2.1.size
   have CS := zhc g8 r.2.length wv.drew.heap.size us8 (zd0 (zj X2) X0.length r.2) W8 H8.out.1 H8.out.2.1 H8.out.2.2.2 (by rw [zlK]; omega) (zoZ HSF.out.2.2 (HFX.out.fewL HAR.out) htotl) (znL HSF.out.2.2)
   rw [zlK] at CS
   refine CS.mono ?_
   clear CS
   rintro e9 W9 ⟨A9, c9, S, rfl, ow9, on9, is9⟩
   have hl9 : S.length <= 65536 := zce is9.1 is9.ok
   have H9 := Lib.hid (And.intro ow9 (And.intro on9 is9))
   clear ow9 on9 is9
   have BB9 : Below wv.drew.heap.size wv.drew W9 := zl.then_ H8.out.2.2.1 H9.out.2.1 H8.out.2.2.2
   have S9 := HS.out W9 (zf BB BB9)
   refine hK.out _ _ (fun _ => S9) ?_
   clear hK K
   try simp only [zs.a, zs.b, zs.c, Act.put]
   refine zh (i := 8) (by kernel_rfl) rfl (fun K hK => ?_)
   try rw [if_pos (show Region.wanted _ _ = true from rfl)]
   go_simp
   have HSOL := Lib.hid (show ∀ b, b ∈ S <-> zc0 (zj X0) r.2 b from fun b => by
    have h1 := (zo0 (by rw [<- HAGE.out]; exact H9.out.2.2)).2 b
    rw [List.take_of_length_le (by rw [zae]; exact Nat.le_refl _)] at h1
    exact h1)
   refine (zfD g ar HAR.out X2 E0 o0 X0.length R2 p r.1.2 (.slice A3 r.1.2.length c3) (.slice A9 S.length c9) S W9 (HGV.out.on BB9) HFX.out (HRI.out.below BB9 (Nat.le_of_lt hgv)) HSF.out.1 hal2 (zh3.new (HGV.out.on H8.out.2.2.1).raw H9.out.1) (fun b hb => ((HSOL.out b).1 hb).1) (fun b hb => by
    have h1 := zgr HAR.out HRF.out HX.out ((HSOL.out b).1 hb)
    unfold zdU at h1
    rw [HPE.out] at h1
    exact h1) (by omega)).mono ?_
   rintro e10 W10 ⟨rfl, X3, R3, g10, k10, br10⟩
   have H10 := Lib.hid (And.intro g10 (And.intro k10 br10))
   clear g10 k10 br10
   refine hK.out _ _ (fun hf => absurd hf (by decide)) ?_
   clear hK K
   try simp only [zs.a, zs.b, zs.c, Act.put]
   refine zL (by kernel_rfl) ?_
   have HFIN := Lib.hid (show z8 g w R0 W10 R3 /\ zas (zj X0) (fun f => ∃ r ∈ rs.take (k + 1), ∃ b, zc0 (zj X0) r.2 b /\ f = zdU r b) (zj X3) from by
    refine ⟨(HKP2.out.trans (z8.of_below (zf HBV.out (zf BB BB9)) (Nat.le_of_lt hglr2))).trans H10.out.2.1, HBR.out.trans H10.out.2.2 fun f => ?_⟩
    rw [HTK.out]
    constructor
    ·rintro ⟨r', hr', b', hb', e'⟩
     rcases List.mem_append.1 hr' with hr' | hr'
     ·exact .inl ⟨r', hr', b', hb', e'⟩
     ·rw [List.mem_singleton.1 hr'] at hb' e'
      refine .inr ⟨b', (HSOL.out b').2 hb', ?_⟩
      rw [e']
      unfold zdU
      rw [HPE.out]
    ·rintro (⟨r', hr', b', hb', e'⟩ | ⟨b', hb', e'⟩)
     ·exact ⟨r', List.mem_append_left _ hr', b', hb', e'⟩
     ·refine ⟨r, List.mem_append_right _ (List.mem_singleton_self _), b', (HSOL.out b').1 hb', ?_⟩
      rw [e']
      unfold zdU
      rw [HPE.out])
   clear S9 S8 SB HB HS BB BB9
   go_wp2_with fail
   go_roundw
   case rel => exact ⟨k + 1, X3, R3, by omega, by go_num, H10.out.1, HFIN.out.1, HFIN.out.2⟩
   case measure => simp [intOf]; omega
  ·obtain rfl : k = rs.length := by omega
   have HBT := Lib.hid (show zas (zj X0) (fun f => f ∈ zR rs (zj X0)) (zj X2) from by
    have h1 := HBR.out
    rw [List.take_length] at h1
    exact h1.cast fun f => (zcL HFIT.out HX.out.consts HX.out.nodup f).symm)
   have CO := Lib.hid (zmt g ar HAR.out rs HFIT.out hsz hrl X2 E0 o0 X0.length R2 _ wr HAT2.out HFX.out (HR.out.below HKP2.out.below (Nat.le_refl _)) HE.out.1 HE.out.2.1 HE.out.2.2.1 HE.out.2.2.2 (fun f hf => by
    have h1 := (zja HBT.out).1
    rw [zae] at h1
    rw [h1] at hf
    exact (HBT.out.2.2 f).2 (.inr hf)))
   go_wp2_with (go_at_call 64; refine CO.out.mono ?_; rintro e1 w2 ⟨rfl, X, E, o, R, m, h1, k1, gr1⟩; have H1 := Lib.hid (And.intro h1 (And.intro k1 gr1)); clear h1 k1 gr1)
   go_end0
   obtain ⟨m', hm'⟩ := zjf.of HFIT.out HX.out HFX.out (by rw [zae]; exact HE.out.1) HBT.out.1 HBT.out.2.2 H1.out.2.2
   exact ⟨rfl, X, E, o, R, m', H1.out.1, HKP2.out.trans H1.out.2.1, hm'⟩
open Go.RowKit
def zk5 : Value := .slice none 0 0
def grZ : List Value := [zk5, zk5] ++ List.replicate 24 (wdN 0) ++ (List.range 24).flatMap fun _ => [zk5, inN 0, inN 0]
theorem Tryz.grZero : Tryz.zeroCells59 = grZ.toArray := by kernel_rfl
theorem zoR : ∀ p, p < 24 -> grZ[2 + p]? = some (wdN (zaa.getD p 0))
 | 0, _ => rfl
 | 1, _ => rfl
 | 2, _ => rfl
 | 3, _ => rfl
 | 4, _ => rfl
 | 5, _ => rfl
 | 6, _ => rfl
 | 7, _ => rfl
 | 8, _ => rfl
 | 9, _ => rfl
 | 10, _ => rfl
 | 11, _ => rfl
 | 12, _ => rfl
 | 13, _ => rfl
 | 14, _ => rfl
 | 15, _ => rfl
 | 16, _ => rfl
 | 17, _ => rfl
 | 18, _ => rfl
 | 19, _ => rfl
 | 20, _ => rfl
 | 21, _ => rfl
 | 22, _ => rfl
 | 23, _ => rfl
 | _ + 24, h => absurd h (by omega)
theorem zoj : ∀ p, p < 24 -> grZ[26 + p * 3]? = some zk5
 | 0, _ => rfl
 | 1, _ => rfl
 | 2, _ => rfl
 | 3, _ => rfl
 | 4, _ => rfl
 | 5, _ => rfl
 | 6, _ => rfl
 | 7, _ => rfl
 | 8, _ => rfl
 | 9, _ => rfl
 | 10, _ => rfl
 | 11, _ => rfl
 | 12, _ => rfl
 | 13, _ => rfl
 | 14, _ => rfl
 | 15, _ => rfl
 | 16, _ => rfl
 | 17, _ => rfl
 | 18, _ => rfl
 | 19, _ => rfl
 | 20, _ => rfl
 | 21, _ => rfl
 | 22, _ => rfl
 | 23, _ => rfl
 | _ + 24, h => absurd h (by omega)
theorem zoS : ∀ p, p < 24 -> grZ[26 + p * 3 + 1]? = some (inN 0)
 | 0, _ => rfl
 | 1, _ => rfl
 | 2, _ => rfl
 | 3, _ => rfl
 | 4, _ => rfl
 | 5, _ => rfl
 | 6, _ => rfl
 | 7, _ => rfl
 | 8, _ => rfl
 | 9, _ => rfl
 | 10, _ => rfl
 | 11, _ => rfl
 | 12, _ => rfl
 | 13, _ => rfl
 | 14, _ => rfl
 | 15, _ => rfl
 | 16, _ => rfl
 | 17, _ => rfl
 | 18, _ => rfl
 | 19, _ => rfl
 | 20, _ => rfl
 | 21, _ => rfl
 | 22, _ => rfl
 | 23, _ => rfl
 | _ + 24, h => absurd h (by omega)
theorem zoT : ∀ p, p < 24 -> grZ[26 + p * 3 + 2]? = some (inN 0)
 | 0, _ => rfl
 | 1, _ => rfl
 | 2, _ => rfl
 | 3, _ => rfl
 | 4, _ => rfl
 | 5, _ => rfl
 | 6, _ => rfl
 | 7, _ => rfl
 | 8, _ => rfl
 | 9, _ => rfl
 | 10, _ => rfl
 | 11, _ => rfl
 | 12, _ => rfl
 | 13, _ => rfl
 | 14, _ => rfl
 | 15, _ => rfl
 | 16, _ => rfl
 | 17, _ => rfl
 | 18, _ => rfl
 | 19, _ => rfl
 | 20, _ => rfl
 | 21, _ => rfl
 | 22, _ => rfl
 | 23, _ => rfl
 | _ + 24, h => absurd h (by omega)
theorem znw : zaF grZ.toArray (fun _ => zk5) zaa (fun _ => 0) (fun _ => 0) where
 size := rfl
 list := rfl
 ends := rfl
 tab p hp := by rw [List.getElem?_toArray]; exact zoR p hp
 pred p hp := by rw [List.getElem?_toArray]; exact zoj p hp
 old p hp := by rw [List.getElem?_toArray]; exact zoS p hp
 lat p hp := by rw [List.getElem?_toArray]; exact zoT p hp
theorem zor (n : Nat) : cntX [] n = fun _ => 0 := by
 funext p
 simp [cntX, zj, ofP]
theorem zoJ : ofX [] = fun _ => [] := by
 funext p
 simp [ofX]
theorem zaR.zero (w : World) : zaR (w.alloc (Obj.cells Tryz.zeroCells59 59)) w.heap.size [] [] 0 0 (fun _ => zk5) := by
 refine ⟨?_, Nat.le_refl _, Nat.le_refl _⟩
 rw [zor, zoJ]
 refine ⟨⟨_, Blk.new _ _ _, by rw [Tryz.grZero]; exact znw⟩, by simp [zK, zj, zaa], by rw [show zK zaa (zj []) = zaa from rfl]; exact zkK, World.ownsRow_nil _ _ _ _, World.ownsRow_nil _ _ _ _, fun _ _ => World.ownsRow_nil _ _ _ _, (fun _ _ _ _ _ b hb => by cases hb), (fun x hx => by cases hx), (fun _ _ x hx => by cases hx)⟩
set_option maxHeartbeats 4000000 in
theorem ziT (ar : List Int) (har : zr ar = true) (v : Value) (fs : List zd) (w : World) (hr : zu w w.heap.size v fs) (hf : ∀ f ∈ fs, zE ar f = true) (hn : fs.length <= 1048576) :
 Calls Tryz.prog 62 #[v] w fun e' w' =>
  ∃ X R, e' = .returned (.pointer (some ⟨w.heap.size, 0, none⟩)) /\ zaR w' w.heap.size X [X.length] 0 X.length R /\ Below w.heap.size w w' /\ zaI ar (zj X) /\ ∀ f, f ∈ zj X <-> f ∈ fs := by
 obtain ⟨g, hg⟩ : ∃ g, g = w.heap.size := ⟨_, rfl⟩
 obtain ⟨w1, hw1⟩ : ∃ w1, w1 = w.alloc (Obj.cells Tryz.zeroCells59 59) := ⟨_, rfl⟩
 have HAR := Lib.hid har
 have HF := Lib.hid hf
 have HX0 := Lib.hid (show zaI ar (zj []) from ⟨List.nodup_nil, fun f hf => by cases hf⟩)
 have B1 := Lib.hid (show Below g w w1 by rw [hw1, hg]; exact ze _ _)
 have H1 := Lib.hid (show zaR w1 g [] [] 0 0 (fun _ => zk5) by rw [hw1, hg]; exact zaR.zero w)
 have CB := Lib.hid (znJ g ar har [] [] 0 0 (fun _ => zk5) v fs w1 H1.out HX0.out (by
  have h1 := hr.below (show Below w.heap.size w w1 by rw [hw1]; exact ze _ _) (Nat.le_refl _)
  rw [hg]; exact h1) hf hn)
 have HW1 := Lib.hid hw1
 rw [<- hg]
 clear hr hf har hw1
 go_enter Tryz.func62, Tryz.ntmps62
 go_upto_region 2 with fail
 rw [<- HW1.out]
 rw [show (w.heap.size : Nat) = g from hg.symm]
 have HG := Lib.hid hg
 clear hg
 go_wp2_with (first
  | (go_at_call 63; refine CB.out.mono ?_; rintro e2 w2 ⟨rfl, X, R, h2, k2, br2⟩
     have H2 := Lib.hid (And.intro h2 (And.intro k2 br2))
     have HFX := Lib.hid (br2.fit HX0.out HF.out)
     have hfew := h2.few HAR.out HFX.out
     have CE := Lib.hid (zgX g X [] 0 0 R w2 h2 (by omega) (by simp))
     clear h2 k2 br2)
  | (go_at_call 99; refine CE.out.mono ?_; rintro e3 w3 ⟨rfl, R3, h3, k3⟩
     have H3 := Lib.hid (And.intro h3 k3)
     clear h3 k3))
 go_ret
 exact ⟨X, R3, rfl, H3.out.1, B1.out.trans (H2.out.2.1.below.trans H3.out.2.below), HFX.out, fun f => by rw [H2.out.2.2.2.2 f]; simp [zj]⟩
open Go.RowKit
def za5 (n p : Nat) : List Int := (List.range p).map fun j : Nat => ((n / 6 ^ (p - 1 - j) % 6 : Nat) : Int)
theorem zeq (n p : Nat) : (za5 n p).length = p := by simp [za5]
theorem zoV (n k : Nat) : n / 6 ^ k / 6 = n / 6 ^ (k + 1) := by rw [Nat.div_div_eq_div_mul, Nat.pow_succ]
def zc5 (n p m j : Nat) : Value := if m <= j then .int .i64 ((n / 6 ^ (p - 1 - j) % 6 : Nat) : Int) else .int .i64 0
set_option maxHeartbeats 1000000 in
theorem zge (n p : Nat) (w : World) (hn : n <= 1048576) (hp : p <= 6) :
 Calls Tryz.prog 50 #[.int .i64 n, .int .i64 p] w fun e w' => ∃ A' c', e = .returned (.slice A' p c') /\ zg w' w.heap.size w'.heap.size (.slice A' p c') (za5 n p) /\ Below w.heap.size w w' := by
 have hmk := run_make_row' (P := Tryz.prog) 23 3 (.int .i64 0) 8 Tryz.underlying23 Tryz.infoInt rfl .i64 .i64 p (by omega) (by omega)
 go_enter Tryz.func50, Tryz.ntmps50
 go_wp2_with (fail)
 go_loopw [0, 6] (fun v i wr => ∃ (m : Nat) (q : Nat), m <= p /\ i = .int .i64 ((m : Int) - 1) /\ v = .int .i64 q /\ q = n / 6 ^ (p - m) /\ wr.rowIs w.heap.size 3 p (zc5 n p m) /\ Below w.heap.size w wr) (fun _ i _ => (intOf i + 1).toNat)
 case atStart => exact ⟨p, n, Nat.le_refl _, rfl, rfl, by simp, (World.rowIs_made w _ _ _).congr (fun j hj => by simp [zc5]; omega), ze _ _⟩
 case round =>
  obtain ⟨m, q, hm, rfl, rfl, hq, hrow, hbe⟩ := hrel
  have hqn : q <= n := by rw [hq]; exact Nat.div_le_self _ _
  rcases Nat.eq_zero_or_pos m with h0 | h0
  ·have HO := Lib.hid (show zg wr w.heap.size wr.heap.size (.slice (some ⟨w.heap.size, 0, none⟩) p p) (za5 n p) by
    have h1 : wr.rowIs w.heap.size 3 (za5 n p).length (fun j => .int .i64 ((za5 n p).getD j 0)) := by
     rw [zeq]
     refine hrow.congr (fun j hj => ?_)
     simp [zc5, za5, h0, hj]
    have h2 := zg.of_rowIs h1 (Nat.le_refl _) h1.lt (by rw [zeq]; unfold maxLen; omega)
    rwa [zeq] at h2)
   have hneg : ¬ (0 : Int) <= (m : Int) - 1 := by omega
   clear hrow hq h0
   go_wp2_with (fail)
   go_ret
   exact ⟨_, _, rfl, HO.out, hbe⟩
  ·obtain ⟨k, rfl⟩ : ∃ k, m = k + 1 := ⟨m - 1, by omega⟩
   have hkp : k < p := by omega
   have c1 := hrow.cell hkp
   have f1 := hrow.frozen k
   have c1' : ∃ u, wr.cell? ⟨w.heap.size, k, none⟩ = some (.int .i64 u) := by
    rw [c1]
    unfold zc5
    split <;> exact ⟨_, rfl⟩
   obtain ⟨u, c2⟩ := c1'
   have e1 : ((k + 1 : Nat) : Int) - 1 = (k : Int) := by omega
   have hrw := (hrow.set k (.int .i64 ((q % 6 : Nat) : Int))).congr (g := zc5 n p k) (fun j hj => by
    by_cases e : j = k
    ·subst e
     rw [if_pos rfl, hq, show p - (j + 1) = p - 1 - j by omega]
     simp [zc5]
    ·rw [if_neg e]
     unfold zc5
     by_cases h2 : k <= j
     ·rw [if_pos (by omega), if_pos h2]
     ·rw [if_neg (by omega), if_neg h2])
   have HR := Lib.hid hrw
   have HQ := Lib.hid (show q / 6 = n / 6 ^ (p - k) by rw [hq, zoV]; congr 2; omega)
   rw [e1]
   clear hrow hq c1 hrw e1
   go_wp2_with (fail)
   go_roundw
   case rel => exact ⟨k, q / 6, by omega, rfl, by simp, HQ.out, by simpa using HR.out, hbe.setCell (Nat.le_refl _) _⟩
   case measure => simp [intOf]
theorem zgf (n p : Nat) (w : World) (hn : n <= 1048576) (hp : p <= 2) :
 Calls Tryz.prog 50 #[.int .i64 n, .int .i64 p] w fun e w' => ∃ A' c', e = .returned (.slice A' p c') /\ zg w' w.heap.size w'.heap.size (.slice A' p c') (za5 n p) /\ Below w.heap.size w w' := zge n p w hn (by omega)
open Go.RowKit
def zb9 (p x q : Nat) : List zd := (zcw x).map fun j => ((p : Int), za5 j.toNat q)
def zbt (T : List Nat) (ar : List Int) : List zd := (List.range ar.length).flatMap fun p => zb9 p (T.getD p 0) (ar.getD p 0).toNat
theorem zgi {x : Nat} {i : Int} : i ∈ zcw x <-> ∃ j : Nat, j < 64 /\ x.testBit j = true /\ (j : Int) = i := by
 unfold zcw
 rw [List.mem_map]
 constructor
 ·rintro ⟨j, hj, e⟩
  rw [List.mem_filter, List.mem_range] at hj
  exact ⟨j, hj.1, hj.2, e⟩
 ·rintro ⟨j, h1, h2, e⟩
  exact ⟨j, List.mem_filter.2 ⟨List.mem_range.2 h1, h2⟩, e⟩
theorem znK (x : Nat) : (zcw x).Pairwise (· < ·) := by
 unfold zcw
 rw [List.pairwise_map]
 exact (List.pairwise_lt_range.filter _).imp fun h => by omega
theorem zlA {xs : List Int} (hc : xs.all zt = true) (hl : xs.length <= 2) : za5 (numF xs) xs.length = xs := by
 rcases xs with _ | ⟨x, _ | ⟨y, _ | ⟨z, xs⟩⟩⟩
 ·rfl
 ·simp only [List.all_cons, List.all_nil, Bool.and_true] at hc
  have := zN hc
  simp [za5, numF, List.range_succ]
  omega
 ·simp only [List.all_cons, List.all_nil, Bool.and_true, Bool.and_eq_true] at hc
  have := zN hc.1
  have := zN hc.2
  simp [za5, numF, List.range_succ]
  omega
 ·simp at hl
theorem zmy : ∀ i j : Fin 6, i < j -> zar (za5 i 1) (za5 j 1) < 0 := by decide +kernel
theorem zmx : ∀ i j : Fin 36, i < j -> zar (za5 i 2) (za5 j 2) < 0 := by decide +kernel
theorem znE {i j q : Nat} (hq : q <= 2) (hj : j < 6 ^ q) (h : i < j) : zar (za5 i q) (za5 j q) < 0 := by
 match q, hq with
 | 0, _ => simp at hj; omega
 | 1, _ => exact zmy ⟨i, by omega⟩ ⟨j, by omega⟩ h
 | 2, _ => exact zmx ⟨i, by omega⟩ ⟨j, by omega⟩ h
theorem zj6 {T : List Nat} {ar : List Int} {f : zd} : f ∈ zbt T ar <-> ∃ p j : Nat, p < ar.length /\ j < 64 /\ (T.getD p 0).testBit j = true /\ f = ((p : Int), za5 j (ar.getD p 0).toNat) := by
 unfold zbt zb9
 simp only [List.mem_flatMap, List.mem_map, List.mem_range, zgi]
 constructor
 ·rintro ⟨p, hp, i, ⟨j, h1, h2, rfl⟩, rfl⟩
  exact ⟨p, j, hp, h1, h2, rfl⟩
 ·rintro ⟨p, j, hp, h1, h2, rfl⟩
  exact ⟨p, hp, (j : Int), ⟨j, h1, h2, rfl⟩, rfl⟩
theorem zj7 {T : List Nat} {ar : List Int} (ha : zr ar = true) (hb : ∀ p j : Nat, p < ar.length -> (T.getD p 0).testBit j = true -> j < 6 ^ (ar.getD p 0).toNat) : Asc (zbt T ar) := by
 unfold Asc zbt
 rw [List.pairwise_flatMap]
 have hq : ∀ p, p < ar.length -> (ar.getD p 0).toNat <= 2 := fun p hp => by
  have h1 := ha
  simp only [zr, Bool.and_eq_true, decide_eq_true_eq, List.all_eq_true] at h1
  have h2 : zbo ar[p] = true := h1.2 _ (List.getElem_mem hp)
  rw [zbU hp]
  simp [zbo] at h2
  omega
 refine ⟨fun p hp => ?_, ?_⟩
 ·rw [List.mem_range] at hp
  unfold zb9
  rw [List.pairwise_map]
  refine List.Pairwise.imp_of_mem (fun {a b} ha hb' hab => ?_) (znK _)
  obtain ⟨i, _, _, rfl⟩ := zgi.1 ha
  obtain ⟨j, _, h2, rfl⟩ := zgi.1 hb'
  simp only [zk, if_true, Int.toNat_natCast]
  exact znE (hq p hp) (hb p j hp h2) (by omega)
 ·refine List.pairwise_lt_range.imp fun {p p'} hpp x hx y hy => ?_
  unfold zb9 at hx hy
  obtain ⟨_, _, rfl⟩ := List.mem_map.1 hx
  obtain ⟨_, _, rfl⟩ := List.mem_map.1 hy
  have h1 : ¬ ((p : Int) = (p' : Int)) := by omega
  have h2 : ((p : Int) < (p' : Int)) := by omega
  simp [zk, h1, zbl, h2]
theorem zej {ar : List Int} (ha : zr ar = true) {F : List zd} (hF : ∀ f ∈ F, zE ar f = true) : Asc (zbt (zK zaa F) ar) /\ ∀ f, f ∈ zbt (zK zaa F) ar <-> f ∈ F := by
 have hl : ar.length <= 24 := by simp only [zr, Bool.and_eq_true, decide_eq_true_eq] at ha; exact ha.1
 have hz : ∀ p : Nat, p < ar.length -> p < zaa.length := fun p hp => by simp [zaa]; omega
 have hbit : ∀ p j : Nat, p < ar.length -> (((zK zaa F).getD p 0).testBit j = true <-> ∃ f ∈ F, f.1.toNat = p /\ numF f.2 = j) := fun p j hp => by
  simp only [zfg _ _ (hz p hp), zkJ, Bool.false_eq_true, false_or]
 have hone : ∀ f ∈ F, f.1 = ((f.1.toNat : Nat) : Int) /\ f.1.toNat < ar.length /\ f.2.length = (ar.getD f.1.toNat 0).toNat /\ za5 (numF f.2) (ar.getD f.1.toNat 0).toNat = f.2 /\ numF f.2 < 6 ^ (ar.getD f.1.toNat 0).toNat := fun f hf => by
  obtain ⟨⟨h0, h1, h2⟩, h3⟩ := zav (hF f hf)
  have h4 := zbb ha (hF f hf)
  have h5 : f.2.length = (ar.getD f.1.toNat 0).toNat := by omega
  refine ⟨by omega, by omega, h5, ?_, ?_⟩
  ·rw [<- h5]
   exact zlA h3 h4
  ·rw [<- h5]
   have := zgu h3 f.2.length (Nat.le_refl _)
   rwa [List.take_length] at this
 refine ⟨zj7 ha fun p j hp h => ?_, fun f => ?_⟩
 ·obtain ⟨f, hf, rfl, rfl⟩ := (hbit p j hp).1 h
  exact (hone f hf).2.2.2.2
 ·rw [zj6]
  constructor
  ·rintro ⟨p, j, hp, _, h, rfl⟩
   obtain ⟨g, hg, rfl, rfl⟩ := (hbit p j hp).1 h
   obtain ⟨e1, _, _, e2, _⟩ := hone g hg
   rw [e2, <- e1]
   exact hg
  ·intro hf
   obtain ⟨e1, e2, _, e3, e4⟩ := hone f hf
   exact ⟨f.1.toNat, numF f.2, e2, zgv (zav (hF f hf)).2 (zbb ha (hF f hf)), (hbit _ _ e2).2 ⟨f, hf, rfl, rfl⟩, by rw [e3, <- e1]⟩
open Go.RowKit
def zdL (T : List Nat) (ar : List Int) (k : Nat) : List zd := (List.range k).flatMap fun p => zb9 p (T.getD p 0) (ar.getD p 0).toNat
theorem zip (T : List Nat) (ar : List Int) (k : Nat) : zdL T ar (k + 1) = zdL T ar k ++ zb9 k (T.getD k 0) (ar.getD k 0).toNat := by simp [zdL, List.range_succ]
theorem zjj (p x q : Nat) : (zb9 p x q).length <= 64 := by
 unfold zb9
 rw [List.length_map]
 exact zjz x
theorem zha (T : List Nat) (ar : List Int) : ∀ k, (zdL T ar k).length <= k * 64
 | 0 => by simp [zdL]
 | k + 1 => by
  rw [zip, List.length_append]
  have := zha T ar k
  have := zjj k (T.getD k 0) (ar.getD k 0).toNat
  omega
set_option maxHeartbeats 4000000 in
theorem zgp (g : Nat) (T : List Nat) (v : Value) (ar : List Int) (w : World) (h : TabAt w g T) (hr : zv w w.heap.size v ar) (har : zr ar = true) (hT : Tab w) :
 Calls Tryz.prog 31 #[.pointer (some ⟨g, 0, none⟩), v] w fun e w' => ∃ A' c', e = .returned (.slice A' (zbt T ar).length c') /\ zq w' w.heap.size w'.heap.size (.slice A' (zbt T ar).length c') (zbt T ar) /\ Below w.heap.size w w' := by
 obtain ⟨i0, hi0, hz0, hz1, hz2⟩ := info_parts Tryz.infoFact
 have H := Lib.hid hr
 have HTA := Lib.hid h
 have HT := Lib.hid hT
 have hgl := h.1.lt
 have hl24 : ar.length <= 24 := by simp only [zr, Bool.and_eq_true, decide_eq_true_eq] at har; exact har.1
 have HQ := Lib.hid (show ∀ k (hk : k < ar.length), 0 <= ar[k] /\ ar[k] <= 2 from fun k hk => by
  simp only [zr, Bool.and_eq_true, decide_eq_true_eq, List.all_eq_true] at har
  have h2 : zbo ar[k] = true := har.2 _ (List.getElem_mem hk)
  simp [zbo] at h2
  omega)
 obtain ⟨A, c, rfl, hc, _⟩ := hr
 clear h hT har
 go_enter Tryz.func31, Tryz.ntmps31
 go_wp2_with fail
 go_loopw [5, 11] (fun o i wr => ∃ (k : Nat) (A' : Option Addr) (c' : Nat) (av : List Value), k <= ar.length /\ i = .int .i64 k /\ o = .slice A' (zdL T ar k).length c' /\ zbq w wr (zdL T ar k) A' c' av) (fun _ i _ => ar.length - (intOf i).toNat)
 case atStart => exact ⟨0, none, 0, [], Nat.zero_le _, rfl, rfl, zbq.nil w⟩
 case round =>
  obtain ⟨k, A', c', av, hk, rfl, rfl, hcol⟩ := hrel
  have hll := zha T ar k
  by_cases hlt : k < ar.length
  ·have hsz := hcol.below.size
   have hbe := hcol.below
   obtain ⟨A7, c7, e7, _, hx⟩ := (H.out.on hbe)
   injection e7 with e7 e9 e8
   clear e9
   subst e7 e8
   obtain ⟨b7, o7, rfl, _, hx⟩ := hx (by omega)
   obtain ⟨q, hqe⟩ : ∃ q : Nat, ar[k] = (q : Int) := ⟨ar[k].toNat, by have := HQ.out k hlt; omega⟩
   have hq2 : q <= 2 := by have := HQ.out k hlt; omega
   have hck : wr.cell? ⟨b7, o7 + k, none⟩ = some (.int .i64 q) := by rw [<- hqe]; exact hx k hlt
   have hk24 : k < 24 := by omega
   have hki : (k : Int) < 24 := by omega
   have htr := HTA.out.below hbe hgl
   obtain ⟨x, hxe⟩ : ∃ x, x = T.getD k 0 := ⟨_, rfl⟩
   have hx64 : x < 18446744073709551616 := by rw [hxe]; exact htr.lt
   have htk : wr.cell? ⟨g, k, none⟩ = some (.int .u64 ((x : Nat) : Int)) := by rw [hxe]; exact htr.cell hk24
   have HF := Lib.hid (show zdL T ar (k + 1) = zdL T ar k ++ (zcw x).map (fun j => ((k : Int), za5 j.toNat q)) from by
    rw [zip, <- hxe]
    unfold zb9
    rw [zbU hlt, hqe]
    rfl)
   have HCOL := Lib.hid hcol
   clear hx hqe htr hxe hbe hcol
   go_upto_region 6 with fail
   rename World => wo
   go_loopw [5, 8] (fun o z wr => ∃ (y : Nat) (L : List zd) (A' : Option Addr) (c' : Nat) (av : List Value), z = .int .u64 y /\ o = .slice A' L.length c' /\ L ++ (zcw y).map (fun j => ((k : Int), za5 j.toNat q)) = zdL T ar (k + 1) /\ y < 2 ^ 64 /\ zbq w wr L A' c' av) (fun _ z _ => (intOf z).toNat)
   case atStart => exact ⟨x, zdL T ar k, A', c', av, rfl, rfl, HF.out.symm, hx64, HCOL.out⟩
   case round =>
    obtain ⟨y, L, A', c', av, rfl, rfl, hL, hy, hcol⟩ := hrel
    have hlL : L.length <= 1536 := by
     have h1 := congrArg List.length hL
     rw [List.length_append] at h1
     have := zha T ar (k + 1)
     omega
    by_cases h0 : y = 0
    ·subst h0
     rw [zlG, List.map_nil, List.append_nil] at hL
     have HE := Lib.hid (And.intro hL hcol)
     clear hL hcol
     go_wp2_with fail
     go_roundw
     case rel => exact ⟨k + 1, A', c', av, by omega, by go_num, by rw [HE.out.1], by rw [<- HE.out.1]; exact HE.out.2⟩
     case measure => simp [intOf]; omega
    ·obtain ⟨hst, hlt2⟩ := zlH h0 hy
     have ht : ((y : Int) != 0) = true := by simpa using h0
     have HY := Lib.hid (And.intro hy (And.intro h0 hlt2))
     have HB := Lib.hid (show (L ++ [((k : Int), za5 (Lib.ctz 64 y) q)]) ++ (zcw (y &&& (y - 1))).map (fun j => ((k : Int), za5 j.toNat q)) = zdL T ar (k + 1) by
      rw [List.append_assoc, List.singleton_append, <- hL, hst, List.map_cons]; rfl)
     have hkk : Lib.ctz 64 y < 64 := (Lib.lowest_bit 64 y h0 hy).2
     have HA := Lib.hid (show bits BinOp.and IntKind.u64 (y : Int) (IntKind.u64.wrap ((y : Int) - 1)) = ((y &&& (y - 1) : Nat) : Int) by
      have e1 : IntKind.u64.wrap ((y : Int) - 1) = ((y - 1 : Nat) : Int) := by rw [IntKind.wrap_u64]; omega
      rw [e1, bits_and_u64_nat y (y - 1) (by simpa using hy) (by omega)])
     have HP := Lib.hid hcol
     have HTT := Lib.hid (HT.out.below hcol.below)
     have HCC := Lib.hid (fun (w : World) (hw : Tab w) => znP y (by simpa using hy) h0 w hw)
     generalize Lib.ctz 64 y = kk at hst HB hkk HCC
     clear hst hlt2 hy h0 hL hcol
     go_wp2_with (first
      | (go_at_call 67; refine (HCC.out _ HTT.out).mono ?_; rintro e w' ⟨rfl, rfl⟩)
      | (go_at_call 50; refine (zgf kk q _ (by omega) hq2).mono ?_; rintro e w4 ⟨A4, c4, rfl, ho4, hb4⟩
         have H4 := Lib.hid (And.intro ho4 hb4)
         have hz5 := hb4.size
         have hz6 := HP.out.below.size
         clear ho4 hb4)
      | (at_builtin; refine wpList_append_lies _ rfl (.tmp 27) (.tmp 34) 27 rfl w.heap.size 39 i0 (.agg #[.int .i64 0, .slice none 0 0]) 2 32 Tryz.underlying27 hi0 hz0 hz1 hz2 rfl (by decide) (.slice A' L.length c') L.length (zaP L av) rfl ?c1 ⟨w4.heap.size, 0, none⟩ 1 1 [.int .i64 k, .slice A4 q c4] rfl rfl (zmS _ _ _ _) ?c2 (by omega) (by unfold maxLen; omega) (by omega) ?c3 _ rfl ?_))
     case c1 => exact (zaB HP.out.own.row HP.out.own.lt H4.out.2 (Nat.le_refl _)).alloc _
     case c2 => intro u hu; simp at hu; rcases hu with rfl | rfl <;> rfl
     case c3 => simp; omega
     intro g2 cap w5 hown hg _ _
     obtain ⟨av', hcol, hlen⟩ := HP.out.push (f := ((k : Int), za5 kk q)) (a := .slice A4 q c4) rfl H4.out.2 H4.out.1 hg hown
     have HC := Lib.hid (And.intro hcol hlen)
     obtain ⟨L2, hL2⟩ : ∃ L2, L2 = L ++ [((k : Int), za5 kk q)] := ⟨_, rfl⟩
     have hle : L.length + 1 = L2.length := by rw [hL2]; simp
     rw [hle]
     have HC := Lib.hid (show zbq w w5 L2 (some ⟨g2, 0, none⟩) cap av' by rw [hL2]; exact hcol)
     rw [<- hL2] at HB
     clear hcol hlen hown hg hle hL2
     go_wp2_with fail
     go_roundw
     case rel => exact ⟨y &&& (y - 1), L2, some ⟨g2, 0, none⟩, cap, av', by rw [HA.out], rfl, HB.out, Nat.lt_trans HY.out.2.2 HY.out.1, HC.out⟩
     case measure =>
      rw [HA.out]
      simp only [intOf]
      have := HY.out.2.2
      omega
  ·have HO := Lib.hid (show zq wr w.heap.size wr.heap.size (.slice A' (zdL T ar k).length c') (zdL T ar k) /\ zdL T ar k = zbt T ar from ⟨hcol.own.own, by rw [show k = ar.length by omega]; rfl⟩)
   have hbe := hcol.below
   clear hcol
   rw [HO.out.2]
   go_wp2_with fail
   go_ret
   exact ⟨_, _, rfl, by rw [<- HO.out.2]; exact HO.out.1, hbe⟩
open Go.RowKit
structure zo3 (w : World) (g : Nat) (T : List Nat) : Prop where
 cell : ∀ {p : Nat}, p < 24 -> w.cell? ⟨g, 2 + p, none⟩ = some (.int .u64 ((T.getD p 0 : Nat) : Int))
 word : ∀ p, T.getD p 0 < 18446744073709551616
 lt : g < w.heap.size
theorem zo3.below {w w' : World} {g B : Nat} {T : List Nat} (h : zo3 w g T) (hb : Below B w w') (hg : g < B) : zo3 w' g T := ⟨fun {p} hp => (hb.cell (p := ⟨g, 2 + p, none⟩) hg).trans (h.cell hp), h.word, Nat.lt_of_lt_of_le h.lt hb.size⟩
theorem zaR.tab {w : World} {g o e : Nat} {X : List FV} {E : List Nat} {R : Nat -> Value} (h : zaR w g X E o e R) : zo3 w g (zK zaa (zj X)) := ⟨fun {p} hp => h.raw.cellTab hp, fun p => h.raw.word, h.lt⟩
open Go.RowKit
set_option maxHeartbeats 4000000 in
theorem zfv (v v2 : Value) (p : zal) (fs : List zd) (w : World) (h : zb7 w w.heap.size v p) (h2 : zu w w.heap.size v2 fs) (hs : szP p <= 1048576) (hn : fs.length <= 1048576) (ht : tot fs <= 1048576) (hT : Tab w) :
 Calls Tryz.prog 24 #[v, v2] w fun e w' => ∃ A' c', e = .returned (.slice A' (zfC p fs).length c') /\ zq w' w.heap.size w'.heap.size (.slice A' (zfC p fs).length c') (zfC p fs) /\ Below w.heap.size w w' := by
 have HT := Lib.hid hT
 clear hT
 have HP := Lib.hid h
 have H2 := Lib.hid h2
 have hs' := hs
 unfold szP at hs'
 obtain ⟨a, b, rfl, hA, hR⟩ := h
 have HA := Lib.hid hA
 have HR := Lib.hid hR
 obtain ⟨A, c, rfl, hcA, _⟩ := hA
 obtain ⟨A2, c2, rfl, hcR, _⟩ := hR
 obtain ⟨A3, c3, rfl, hcF, _⟩ := h2
 obtain ⟨po, hpo⟩ : ∃ po, po = zaW p := ⟨_, rfl⟩
 obtain ⟨fo, hfo⟩ : ∃ fo, fo = zat p.1 fs := ⟨_, rfl⟩
 obtain ⟨R, hRR⟩ : ∃ R, R = zfC p fs := ⟨_, rfl⟩
 have HRR := Lib.hid (show R = if po && fo then zR p.2 fs else [] by rw [hRR, hpo, hfo]; rfl)
 rw [<- hRR]
 clear hRR
 go_enter Tryz.func24, Tryz.ntmps24
 go_upto_region 1 with fail
 obtain ⟨w1, hw1⟩ : ∃ w1, w1 = w.alloc (Obj.cells #[Value.slice A p.1.length c, Value.slice A2 p.2.length c2] 26) := ⟨_, rfl⟩
 have X1 : Blk w1 w.heap.size 26 #[.slice A p.1.length c, .slice A2 p.2.length c2] := by rw [hw1]; exact Blk.new _ _ _
 have B1 : Below w.heap.size w w1 := by rw [hw1]; exact ze _ _
 rw [<- hw1]
 clear hw1
 have x0 : w1.cell? ⟨w.heap.size, 0, none⟩ = some (.slice A p.1.length c) := X1.cell 0
 have x1 : w1.cell? ⟨w.heap.size, 1, none⟩ = some (.slice A2 p.2.length c2) := X1.cell 1
 have CP := Lib.hid ((zef _ p w1 (HP.out.on B1) hs).mono fun e w' (hh : e = .returned (.bool (zaW p)) /\ Below w1.heap.size w1 w') => (⟨by rw [hh.1, hpo], hh.2⟩ : e = .returned (.bool po) /\ Below w1.heap.size w1 w'))
 have CF := Lib.hid (fun W (hW : Below w.heap.size w W) => (ze5 _ _ p.1 fs W (HA.out.on hW) (H2.out.on hW) (by omega) (by omega) (by omega)).mono fun e w' (hh : e = .returned (.bool (zat p.1 fs)) /\ Below W.heap.size W w') => (⟨by rw [hh.1, hfo], hh.2⟩ : e = .returned (.bool fo) /\ Below W.heap.size W w'))
 have HPO := Lib.hid hpo
 have HFO := Lib.hid hfo
 have HX1 := Lib.hid X1
 clear hpo hfo X1
 cases po
 ·go_wp2_with (go_at_call 35; refine CP.out.mono ?_; rintro e w2 ⟨rfl, b2⟩; have B2 := Lib.hid (zf B1 b2); clear b2)
  go_ret
  have e : R = [] := by rw [HRR.out]; rfl
  rw [e]
  exact ⟨none, 0, rfl, ⟨_, .nil, World.ownsRow_nil _ _ _ _, fun g hg => by cases hg⟩, B2.out⟩
 ·cases fo
  ·go_wp2_with (first
    | (go_at_call 35; refine CP.out.mono ?_; rintro e w2 ⟨rfl, b2⟩; have B2 := Lib.hid (zf B1 b2)
       have x20 : w2.cell? ⟨w.heap.size, 0, none⟩ = some (.slice A p.1.length c) := (HX1.out.below b2 HX1.out.lt).cell 0
       clear b2)
    | (go_at_call 12; refine (CF.out _ B2.out).mono ?_; rintro e w3 ⟨rfl, b3⟩; have B3 := Lib.hid (zf B2.out b3); clear b3))
   go_ret
   have e : R = [] := by rw [HRR.out]; rfl
   rw [e]
   exact ⟨none, 0, rfl, ⟨_, .nil, World.ownsRow_nil _ _ _ _, fun g hg => by cases hg⟩, B3.out⟩
  ·obtain ⟨har, hrl, hfit⟩ := zf4 HPO.out.symm
   obtain ⟨_, hff, hasc⟩ := zep HFO.out.symm
   have CA := Lib.hid (fun W (hW : Below w.heap.size w W) => zlj (.slice A2 p.2.length c2) (.slice A3 fs.length c3) p.1 p.2 fs W (HR.out.on hW) (H2.out.on hW) har hfit (by omega) (by omega) (by omega) (by omega) (fun f hf => (zav (hff f hf)).2) (zeF hasc))
   have HTF := Lib.hid (show ∀ f ∈ fs, zkG f from fun f hf => by
    have h1 := zav (hff f hf)
    have h2 : p.1.length <= 24 := by simp only [zr, Bool.and_eq_true, decide_eq_true_eq] at har; exact har.1
    exact ⟨h1.1.1, by omega, h1.2, zbb har (hff f hf)⟩)
   have HRE := Lib.hid (show ∀ F : List zd, (∀ f, f ∈ F <-> f ∈ zR p.2 fs) -> zbt (zK zaa F) p.1 = R from fun F hF => by
    rw [HRR.out]
    have h1 := zej har (F := F) (fun f h => zcm fs hfit f ((hF f).1 h))
    exact h1.1.unique (zaT _) fun f => (h1.2 f).trans (hF f))
   have HTL := Lib.hid (show ∀ F : List zd, (∀ f, f ∈ F <-> f ∈ zR p.2 fs) -> ∀ x ∈ zK zaa F, x < 18446744073709551616 from fun F hF =>
    zio F _ zkK fun f h => zgv (zav (zcm fs hfit f ((hF f).1 h))).2 (zbb har (zcm fs hfit f ((hF f).1 h))))
   have HAR := Lib.hid har
   clear har hrl hfit hff hasc
   go_upto_region 4 with (first
    | (go_at_call 35; refine CP.out.mono ?_; rintro e w2 ⟨rfl, b2⟩; have B2 := Lib.hid (zf B1 b2)
       have HX2 := Lib.hid (HX1.out.below b2 HX1.out.lt)
       have x20 : w2.cell? ⟨w.heap.size, 0, none⟩ = some (.slice A p.1.length c) := HX2.out.cell 0
       clear b2)
    | (go_at_call 12; refine (CF.out _ B2.out).mono ?_; rintro e w3 ⟨rfl, b3⟩; have B3 := Lib.hid (zf B2.out b3)
       have HX3 := Lib.hid (HX2.out.below b3 HX2.out.lt)
       have x31 : w3.cell? ⟨w.heap.size, 1, none⟩ = some (.slice A2 p.2.length c2) := HX3.out.cell 1
       clear b3)
    | (go_at_call 41; refine (CA.out _ B3.out).mono ?_; rintro e w4 ⟨F, rfl, hF, b4⟩; have B4 := Lib.hid (zf B3.out b4)
       have HF := Lib.hid (HRE.out F hF)
       have HTW := Lib.hid (HTL.out F hF)
       have HX4 := Lib.hid (HX3.out.below b4 HX3.out.lt)
       obtain ⟨cs, hcs⟩ : ∃ cs, cs = tabCells (zK zaa F) := ⟨_, rfl⟩
       rw [<- hcs]
       have HCZ := Lib.hid (show cs.size = 24 by rw [hcs]; simp [tabCells, zhE, zaa])
       have HONE := Lib.hid (show cs.all (·.oneCell') = true by rw [hcs]; exact zj8 _)
       have HSI := Lib.hid (show (Tryz.prog.info? 54).map (·.size) = some cs.size by rw [HCZ.out]; kernel_rfl)
       have HCS := Lib.hid hcs
       clear hF b4 hcs)
    | (refine wpList_store_row rfl 54 _ _ rfl w4.heap.size cs rfl rfl 54 _ (heap_alloc_new w4 _) HSI.out (by rw [HCZ.out]; rfl) HONE.out ?_))
   obtain ⟨zs, hzs⟩ : ∃ zs, zs = (#[Value.int IntKind.u64 0, Value.int IntKind.u64 0, Value.int IntKind.u64 0, Value.int IntKind.u64 0, Value.int IntKind.u64 0, Value.int IntKind.u64 0, Value.int IntKind.u64 0, Value.int IntKind.u64 0, Value.int IntKind.u64 0, Value.int IntKind.u64 0, Value.int IntKind.u64 0, Value.int IntKind.u64 0, Value.int IntKind.u64 0, Value.int IntKind.u64 0, Value.int IntKind.u64 0, Value.int IntKind.u64 0, Value.int IntKind.u64 0, Value.int IntKind.u64 0, Value.int IntKind.u64 0, Value.int IntKind.u64 0, Value.int IntKind.u64 0, Value.int IntKind.u64 0, Value.int IntKind.u64 0, Value.int IntKind.u64 0] : Array Value) := ⟨_, rfl⟩
   rw [<- hzs]
   clear hzs
   obtain ⟨w5, hw5⟩ : ∃ w5, w5 = (w4.alloc (Obj.cells zs 54)).setRow w4.heap.size cs := ⟨_, rfl⟩
   have X5 : Blk w5 w4.heap.size 54 cs := by rw [hw5]; exact setRow_heap _ _ _ cs _ _ (heap_alloc_new w4 _)
   have b5 : Below w4.heap.size w4 w5 := by rw [hw5]; exact below_setRow (ze _ _) (Nat.le_refl _) _
   rw [<- hw5]
   clear hw5
   have B5 := Lib.hid (zf B4.out b5)
   have T5 : TabAt w5 w4.heap.size (zK zaa F) := ⟨by rw [<- HCS.out]; exact X5, by simp [zhE, zaa], HTW.out⟩
   have x50 : w5.cell? ⟨w.heap.size, 0, none⟩ = some (.slice A p.1.length c) := (HX4.out.below b5 HX4.out.lt).cell 0
   have CT := Lib.hid (zgp w4.heap.size (zK zaa F) (.slice A p.1.length c) p.1 w5 T5 (HA.out.on B5.out) HAR.out (HT.out.below B5.out))
   rw [HF.out] at CT
   clear X5 b5 T5
   go_wp2_with (go_at_call 31; refine CT.out.mono ?_; rintro e w6 ⟨A6, c6, rfl, o6, b6⟩; have H6 := Lib.hid (And.intro (o6.mono B5.out.size (Nat.le_refl _)) (zf B5.out b6)); clear o6 b6)
   go_ret
   exact ⟨A6, c6, rfl, H6.out.1, H6.out.2⟩
open Go.RowKit
def zcb (p : zal) (fs : List zd) : Bool := zaN p && zat p.1 fs
def zel (p : zal) (fs : List zd) : List zd := if zcb p fs then zcc p.2 (zG fs) else []
theorem zbh {p : zal} {fs : List zd} (h : zcb p fs = true) : zr p.1 = true /\ (∀ r ∈ p.2, zA p.1 r = true) /\ (∀ f ∈ fs, zE p.1 f = true) /\ p.2.length <= 60 := by
 simp only [zcb, zaN, Bool.and_eq_true] at h
 obtain ⟨h1, h2, h3⟩ := zf4 h.1.1
 exact ⟨h1, h3, (zep h.2).2.1, h2⟩
theorem zhh {rs : List zJ} {F : List zd} (h : Asc F) : ∀ n, Asc (zaj rs F n)
 | 0 => h
 | _ + 1 => zaT _
theorem zmf (p : zal) (fs : List zd) : (zel p fs).length <= 1536 /\ tot (zel p fs) <= 3072 := by
 unfold zel
 cases h : zcb p fs
 ·simp [tot]
 ·obtain ⟨h1, h2, h3, _⟩ := zbh h
  rw [if_pos rfl]
  exact zgG h1 h2 (zaI.set h3) _
set_option maxHeartbeats 2000000 in
theorem zle (v v2 : Value) (p : zal) (fs : List zd) (w : World) (h : zb7 w w.heap.size v p) (h2 : zu w w.heap.size v2 fs) (hs : szP p <= 1048576) (hn : fs.length <= 1048576) (ht : tot fs <= 1048576) :
 Calls Tryz.prog 33 #[v, v2] w fun e w' => e = .returned (.bool (zcb p fs)) /\ Below w.heap.size w w' := by
 have HP := Lib.hid h
 have H2 := Lib.hid h2
 have hs' := hs
 unfold szP at hs'
 obtain ⟨a, b, rfl, hA, hR⟩ := h
 have HA := Lib.hid hA
 obtain ⟨A, c, rfl, hcA, _⟩ := hA
 obtain ⟨A2, c2, rfl, hcR, _⟩ := hR
 obtain ⟨A3, c3, rfl, hcF, _⟩ := h2
 obtain ⟨po, hpo⟩ : ∃ po, po = zaN p := ⟨_, rfl⟩
 obtain ⟨fo, hfo⟩ : ∃ fo, fo = zat p.1 fs := ⟨_, rfl⟩
 obtain ⟨R, hRR⟩ : ∃ R, R = zcb p fs := ⟨_, rfl⟩
 have HRR := Lib.hid (show R = (po && fo) by rw [hRR, hpo, hfo]; rfl)
 rw [<- hRR]
 clear hRR
 go_enter Tryz.func33, Tryz.ntmps33
 go_upto_region 1 with fail
 obtain ⟨w1, hw1⟩ : ∃ w1, w1 = w.alloc (Obj.cells #[Value.slice A p.1.length c, Value.slice A2 p.2.length c2] 26) := ⟨_, rfl⟩
 have X1 : Blk w1 w.heap.size 26 #[.slice A p.1.length c, .slice A2 p.2.length c2] := by rw [hw1]; exact Blk.new _ _ _
 have B1 : Below w.heap.size w w1 := by rw [hw1]; exact ze _ _
 rw [<- hw1]
 clear hw1
 have x0 : w1.cell? ⟨w.heap.size, 0, none⟩ = some (.slice A p.1.length c) := X1.cell 0
 have x1 : w1.cell? ⟨w.heap.size, 1, none⟩ = some (.slice A2 p.2.length c2) := X1.cell 1
 have CP := Lib.hid ((zhb _ p w1 (HP.out.on B1) hs).mono fun e w' (hh : e = .returned (.bool (zaN p)) /\ Below w1.heap.size w1 w') => (⟨by rw [hh.1, hpo], hh.2⟩ : e = .returned (.bool po) /\ Below w1.heap.size w1 w'))
 have CF := Lib.hid (fun W (hW : Below w.heap.size w W) => (zh6 _ _ p.1 fs W (HA.out.on hW) (H2.out.on hW) (by omega) (by omega) (by omega)).mono fun e w' (hh : e = .returned (.bool (zat p.1 fs)) /\ Below W.heap.size W w') => (⟨by rw [hh.1, hfo], hh.2⟩ : e = .returned (.bool fo) /\ Below W.heap.size W w'))
 have HX1 := Lib.hid X1
 clear hpo hfo X1
 cases po
 ·go_wp2_with (go_at_call 11; refine CP.out.mono ?_; rintro e w2 ⟨rfl, b2⟩; have B2 := Lib.hid (zf B1 b2); clear b2)
  go_ret
  exact ⟨zi (by rw [HRR.out]; rfl), B2.out⟩
 ·go_wp2_with (first
   | (go_at_call 11; refine CP.out.mono ?_; rintro e w2 ⟨rfl, b2⟩; have B2 := Lib.hid (zf B1 b2)
      have x20 : w2.cell? ⟨w.heap.size, 0, none⟩ = some (.slice A p.1.length c) := (HX1.out.below b2 HX1.out.lt).cell 0
      clear b2)
   | (go_at_call 44; refine (CF.out _ B2.out).mono ?_; rintro e w3 ⟨rfl, b3⟩; have B3 := Lib.hid (zf B2.out b3); clear b3))
  go_ret
  exact ⟨zi (by rw [HRR.out]; rfl), B3.out⟩
set_option maxHeartbeats 2000000 in
theorem zjl (v v2 : Value) (p : zal) (fs : List zd) (w : World) (h : zb7 w w.heap.size v p) (h2 : zu w w.heap.size v2 fs) (hs : szP p <= 1048576) (hn : fs.length <= 1048576) (ht : tot fs <= 1048576) :
 Calls Tryz.prog 9 #[v, v2] w fun e w' => ∃ A' c', e = .returned (.slice A' (zel p fs).length c') /\ zq w' w.heap.size w'.heap.size (.slice A' (zel p fs).length c') (zel p fs) /\ Below w.heap.size w w' := by
 have HP := Lib.hid h
 have H2 := Lib.hid h2
 have hs' := hs
 unfold szP at hs'
 obtain ⟨a, b, rfl, hA, hR⟩ := h
 have HR := Lib.hid hR
 obtain ⟨A, c, rfl, hcA, _⟩ := hA
 obtain ⟨A2, c2, rfl, hcR, _⟩ := hR
 obtain ⟨A3, c3, rfl, hcF, _⟩ := h2
 obtain ⟨po, hpo⟩ : ∃ po, po = zcb p fs := ⟨_, rfl⟩
 obtain ⟨R, hRR⟩ : ∃ R, R = zel p fs := ⟨_, rfl⟩
 have HRR := Lib.hid (show R = if po then zcc p.2 (zG fs) else [] by rw [hRR, hpo]; rfl)
 rw [<- hRR]
 clear hRR
 go_enter Tryz.func9, Tryz.ntmps9
 go_upto_region 1 with fail
 obtain ⟨w1, hw1⟩ : ∃ w1, w1 = w.alloc (Obj.cells #[Value.slice A p.1.length c, Value.slice A2 p.2.length c2] 26) := ⟨_, rfl⟩
 have X1 : Blk w1 w.heap.size 26 #[.slice A p.1.length c, .slice A2 p.2.length c2] := by rw [hw1]; exact Blk.new _ _ _
 have B1 : Below w.heap.size w w1 := by rw [hw1]; exact ze _ _
 rw [<- hw1]
 clear hw1
 have x0 : w1.cell? ⟨w.heap.size, 0, none⟩ = some (.slice A p.1.length c) := X1.cell 0
 have x1 : w1.cell? ⟨w.heap.size, 1, none⟩ = some (.slice A2 p.2.length c2) := X1.cell 1
 have CP := Lib.hid ((zle _ _ p fs w1 (HP.out.on B1) (H2.out.on B1) hs hn ht).mono fun e w' (hh : e = .returned (.bool (zcb p fs)) /\ Below w1.heap.size w1 w') => (⟨by rw [hh.1, hpo], hh.2⟩ : e = .returned (.bool po) /\ Below w1.heap.size w1 w'))
 have HPO := Lib.hid hpo
 have HX1 := Lib.hid X1
 clear hpo X1
 cases po
 ·go_wp2_with (go_at_call 33; refine CP.out.mono ?_; rintro e w2 ⟨rfl, b2⟩; have B2 := Lib.hid (zf B1 b2); clear b2)
  go_ret
  have e : R = [] := by rw [HRR.out]; rfl
  rw [e]
  exact ⟨none, 0, rfl, ⟨_, .nil, World.ownsRow_nil _ _ _ _, fun g hg => by cases hg⟩, B2.out⟩
 ·obtain ⟨har, hfit, hff, hrl⟩ := zbh HPO.out.symm
  have CA := Lib.hid (fun W (hW : Below w.heap.size w W) => zlf p.1 har p.2 hfit (by omega) (by omega) (.slice A2 p.2.length c2) (.slice A3 fs.length c3) fs W (HR.out.on hW) (H2.out.on hW) hff hn ht)
  have HRE := Lib.hid (show R = zcc p.2 (zG fs) by rw [HRR.out]; rfl)
  rw [<- HRE.out] at CA
  clear har hfit hff hrl
  go_wp2_with (first
   | (go_at_call 33; refine CP.out.mono ?_; rintro e w2 ⟨rfl, b2⟩; have B2 := Lib.hid (zf B1 b2)
      have x21 : w2.cell? ⟨w.heap.size, 1, none⟩ = some (.slice A2 p.2.length c2) := (HX1.out.below b2 HX1.out.lt).cell 1
      clear b2)
   | (go_at_call 34; refine (CA.out _ B2.out).mono ?_; rintro e w4 ⟨A4, c4, rfl, o4, b4⟩; have B4 := Lib.hid (zf B2.out b4)
      have O4 := Lib.hid (o4.mono B2.out.size (Nat.le_refl _))
      clear o4 b4))
  go_ret
  exact ⟨A4, c4, rfl, O4.out, B4.out⟩
structure zeh (w : World) (g : Nat) (p : zal) (fs : List zd) (X : List FV) (E : List Nat) (o : Nat) (R : Nat -> Value) (m : Nat) : Prop where
 at_ : zaR w g X E o X.length R
 fit : zaI p.1 (zj X)
 rounds : zcS p.2 (zG fs) m
 now : ∀ f, f ∈ zj X <-> f ∈ zaj p.2 (zG fs) m
 up : E.Pairwise (· < ·)
 len : E.length = m + 1
 ends : ∀ k, k <= m -> E.getD k 0 <= X.length /\ ∀ f, f ∈ (zj X).take (E.getD k 0) <-> f ∈ zaj p.2 (zG fs) k
theorem zeh.of {w : World} {g n : Nat} {p : zal} {fs : List zd} {X : List FV} {L1 : List zd} {E : List Nat} {o : Nat} {R : Nat -> Value} {m : Nat} (h : zaR w g X E o X.length R) (h1 : ∀ f, f ∈ L1 <-> f ∈ fs) (hn : n = L1.length) (hb : zjf p.1 p.2 L1 [n] (zj X) E m) : zeh w g p fs X E o R m := by
 have he : zG L1 = zG fs := (zaT _).unique (zaT _) fun f => by rw [zao, zao, h1]
 obtain ⟨M, e1, e2, e3⟩ := hb.ends
 obtain ⟨N, e4⟩ := hb.pre
 have hr := hb.rounds
 have hnow := hb.now
 rw [he] at hr hnow e3
 refine ⟨h, hb.fit, hr, hnow, hb.up, by rw [e1]; simp [e2]; (try omega), fun k hk => ?_⟩
 rcases k with _ | k
 ·rw [e1]
  show n <= X.length /\ ∀ f, f ∈ (zj X).take n <-> f ∈ zG fs
  rw [e4, hn, List.take_left']
  ·refine ⟨?_, fun f => by rw [h1, zao]⟩
   rw [<- zae X, e4, List.length_append]
   omega
  ·rfl
 ·have e5 : E.getD (k + 1) 0 = M.getD k 0 := by rw [e1]; rfl
  rw [e5]
  obtain ⟨g1, g2⟩ := e3 k (by omega)
  rw [zae] at g1
  exact ⟨g1, g2⟩
set_option maxHeartbeats 4000000 in
theorem zgK (v v2 : Value) (p : zal) (fs : List zd) (w : World) (h : zb7 w w.heap.size v p) (h2 : zu w w.heap.size v2 fs) (hs : szP p <= 1048576) (hn : fs.length <= 1048576) (ht : tot fs <= 1048576) :
 Calls Tryz.prog 30 #[v, v2] w fun e w' => ((zcb p fs = false /\ e = .returned (.tuple #[.pointer none, .bool false])) \/ (zcb p fs = true /\ ∃ g X E o R m, e = .returned (.tuple #[.pointer (some ⟨g, 0, none⟩), .bool true]) /\ w.heap.size <= g /\ zeh w' g p fs X E o R m)) /\ Below w.heap.size w w' := by
 have HP := Lib.hid h
 have H2 := Lib.hid h2
 have hs' := hs
 unfold szP at hs'
 obtain ⟨a, b, rfl, hA, hR⟩ := h
 have HA := Lib.hid hA
 have HR := Lib.hid hR
 obtain ⟨A, c, rfl, hcA, _⟩ := hA
 obtain ⟨A2, c2, rfl, hcR, _⟩ := hR
 obtain ⟨A3, c3, rfl, hcF, _⟩ := h2
 obtain ⟨po, hpo⟩ : ∃ po, po = zaN p := ⟨_, rfl⟩
 obtain ⟨fo, hfo⟩ : ∃ fo, fo = zat p.1 fs := ⟨_, rfl⟩
 have HRR := Lib.hid (show zcb p fs = (po && fo) by rw [hpo, hfo]; rfl)
 go_enter Tryz.func30, Tryz.ntmps30
 go_upto_region 1 with fail
 obtain ⟨w1, hw1⟩ : ∃ w1, w1 = w.alloc (Obj.cells #[Value.slice A p.1.length c, Value.slice A2 p.2.length c2] 26) := ⟨_, rfl⟩
 have X1 : Blk w1 w.heap.size 26 #[.slice A p.1.length c, .slice A2 p.2.length c2] := by rw [hw1]; exact Blk.new _ _ _
 have B1 : Below w.heap.size w w1 := by rw [hw1]; exact ze _ _
 rw [<- hw1]
 clear hw1
 have x0 : w1.cell? ⟨w.heap.size, 0, none⟩ = some (.slice A p.1.length c) := X1.cell 0
 have x1 : w1.cell? ⟨w.heap.size, 1, none⟩ = some (.slice A2 p.2.length c2) := X1.cell 1
 have CP := Lib.hid ((zhk _ p w1 (HP.out.on B1) hs).mono fun e w' (hh : e = .returned (.bool (zaN p)) /\ Below w1.heap.size w1 w') => (⟨by rw [hh.1, hpo], hh.2⟩ : e = .returned (.bool po) /\ Below w1.heap.size w1 w'))
 have CF := Lib.hid (fun W (hW : Below w.heap.size w W) => (ze5 _ _ p.1 fs W (HA.out.on hW) (H2.out.on hW) (by omega) (by omega) (by omega)).mono fun e w' (hh : e = .returned (.bool (zat p.1 fs)) /\ Below W.heap.size W w') => (⟨by rw [hh.1, hfo], hh.2⟩ : e = .returned (.bool fo) /\ Below W.heap.size W w'))
 have HX1 := Lib.hid X1
 clear hpo hfo X1
 cases po
 ·go_wp2_with (go_at_call 10; refine CP.out.mono ?_; rintro e w2 ⟨rfl, b2⟩; have B2 := Lib.hid (zf B1 b2); clear b2)
  refine bodyPost_ret (v := .tuple #[.pointer none, .bool false]) (by simp [results, Tryz.results30, go_sem]) rfl ?_
  exact ⟨.inl ⟨by rw [HRR.out]; rfl, rfl⟩, B2.out⟩
 ·cases fo
  ·go_wp2_with (first
    | (go_at_call 10; refine CP.out.mono ?_; rintro e w2 ⟨rfl, b2⟩; have B2 := Lib.hid (zf B1 b2)
       have x20 : w2.cell? ⟨w.heap.size, 0, none⟩ = some (.slice A p.1.length c) := (HX1.out.below b2 HX1.out.lt).cell 0
       clear b2)
    | (go_at_call 12; refine (CF.out _ B2.out).mono ?_; rintro e w3 ⟨rfl, b3⟩; have B3 := Lib.hid (zf B2.out b3); clear b3))
   refine bodyPost_ret (v := .tuple #[.pointer none, .bool false]) (by simp [results, Tryz.results30, go_sem]) rfl ?_
   exact ⟨.inl ⟨by rw [HRR.out]; rfl, rfl⟩, B3.out⟩
  ·have hlok : zcb p fs = true := by rw [HRR.out]; rfl
   obtain ⟨har, hfit, hff, hrl⟩ := zbh hlok
   have HLOK := Lib.hid hlok
   have HHH := Lib.hid (And.intro har (And.intro hfit hff))
   clear hlok har hfit hff
   go_wp2_with (first
    | (go_at_call 10; refine CP.out.mono ?_; rintro e w2 ⟨rfl, b2⟩; have B2 := Lib.hid (zf B1 b2)
       have HX2 := Lib.hid (HX1.out.below b2 HX1.out.lt)
       have x20 : w2.cell? ⟨w.heap.size, 0, none⟩ = some (.slice A p.1.length c) := HX2.out.cell 0
       clear b2)
    | (go_at_call 12; refine (CF.out _ B2.out).mono ?_; rintro e w3 ⟨rfl, b3⟩; have B3 := Lib.hid (zf B2.out b3)
       have HX3 := Lib.hid (HX2.out.below b3 HX2.out.lt)
       clear b3
       have CG := Lib.hid (ziT p.1 HHH.out.1 (.slice A3 fs.length c3) fs w3 (H2.out.on B3.out) HHH.out.2.2 hn))
    | (go_at_call 62; refine CG.out.mono ?_; rintro e w4 ⟨X, R, rfl, g4, b4, f4, m4⟩
       have x41 : w4.cell? ⟨w.heap.size, 1, none⟩ = some (.slice A2 p.2.length c2) := (HX3.out.below b4 HX3.out.lt).cell 1
       have HG4 := Lib.hid (And.intro g4 (And.intro b4 (And.intro f4 m4)))
       have CB := Lib.hid (zmu w3.heap.size p.1 HHH.out.1 p.2 HHH.out.2.1 (by omega) (by omega) X [X.length] 0 R (.slice A2 p.2.length c2) w4 g4 f4 ((HR.out.on B3.out).below b4 (Nat.le_refl _)) (by simp) (by simp) (by simp) (by simp))
       clear g4 b4 f4 m4)
    | (go_at_call 66; refine CB.out.mono ?_; rintro e w5 ⟨rfl, X5, E5, o5, R5, m5, g5, k5, gr5⟩
       have HG5 := Lib.hid (And.intro g5 (And.intro k5 gr5))
       clear g5 k5 gr5))
   refine bodyPost_ret (v := .tuple #[.pointer (some ⟨w3.heap.size, 0, none⟩), .bool true]) (by simp [results, Tryz.results30, go_sem]) rfl ?_
   exact ⟨.inr ⟨HLOK.out, w3.heap.size, X5, E5, o5, R5, m5, rfl, B3.out.size, zeh.of HG5.out.1 HG4.out.2.2.2 (zae X).symm HG5.out.2.2⟩, (zf B3.out HG4.out.2.1).trans (HG5.out.2.1.below.mono B3.out.size)⟩
end Go.Proofs.YtofkcmihcgmmpaaGreatDoor
