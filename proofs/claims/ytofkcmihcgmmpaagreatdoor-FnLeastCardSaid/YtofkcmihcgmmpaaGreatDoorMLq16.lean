/-
  The law FnLeast: for every input the call returns true, and each argument reads behind it as it read before. Conditions: none but the row's own.
-/
import Derived.BigRegion
import Derived.Deep.RegionHeld3
import Derived.Deep.RegionWith
import Derived.Deep.RegionLaw
import Derived.Deep.DeepCutAuto
import Derived.Test.YtofkcmihcgmmpaaGreatDoorRows
import Derived.Test.YtofkcmihcgmmpaaGreatDoorCards
import Derived.Test.YtofkcmihcgmmpaaGreatDoorTie
import Derived.Lay
import Derived.SevenTiedAt
import Derived.Test.YtofkcmihcgmmpaaGreatDoorPlainLeastJoin
import Derived.Test.YtofkcmihcgmmpaaGreatDoorJFum
import Derived.Test.YtofkcmihcgmmpaaGreatDoorJFug
import Derived.Test.YtofkcmihcgmmpaaGreatDoorPlainLeastGoes
import Derived.Test.YtofkcmihcgmmpaaGreatDoorMLq1
import Derived.Test.YtofkcmihcgmmpaaGreatDoorMLq2
import Derived.Test.YtofkcmihcgmmpaaGreatDoorMLq6
import Derived.Test.YtofkcmihcgmmpaaGreatDoorMLq11
import Derived.Test.YtofkcmihcgmmpaaGreatDoorMLq14
import Derived.Test.YtofkcmihcgmmpaaGreatDoorMLq15
namespace Go.Proofs.YtofkcmihcgmmpaaGreatDoor
set_option maxRecDepth 100000
open Go.RowKit Go.Sort
theorem zkK (ys : List zd) (f : zd) : zaj ys f = decide (f ∈ ys) := by
 unfold zaj
 by_cases h : f ∈ ys
 ·rw [decide_eq_true h, List.any_eq_true]
  exact ⟨f, h, by rw [zaz]; rfl⟩
 ·rw [decide_eq_false h, List.any_eq_false]
  intro g hg e
  refine h ?_
  rw [<- zbD (f := g) (g := f) (by simpa using e)]
  exact hg
def za3 (xs ys : List zd) (b : Bool) : List zd := xs.filter fun f => decide (f ∈ ys) == b
theorem zkT (xs ys : List zd) (b : Bool) : za3 (zJ xs) (zJ ys) b = zaY xs ys b := by
 unfold za3 zaY
 refine Asc.unique ((zaC xs).filter _) (zaC _) fun f => ?_
 have : decide (f ∈ zJ ys) = decide (f ∈ ys) := by
  by_cases h : f ∈ ys
  ·rw [decide_eq_true h, decide_eq_true ((zS ys f).2 h)]
  ·rw [decide_eq_false h, decide_eq_false (fun e => h ((zS ys f).1 e))]
 rw [List.mem_filter, zS xs f, this, zS (xs.filter fun f => zaj ys f == b) f, List.mem_filter, zkK]
theorem zlV {xs ys : List zd} {b : Bool} {k : Nat} (h : k < xs.length) (e : decide (xs[k] ∈ ys) = b) : za3 (xs.take (k + 1)) ys b = za3 (xs.take k) ys b ++ [xs[k]] := by
 unfold za3
 rw [zE xs k h, List.filter_append]
 simp [e]
theorem zmY {xs ys : List zd} {b : Bool} {k : Nat} (h : k < xs.length) (e : decide (xs[k] ∈ ys) ≠ b) : za3 (xs.take (k + 1)) ys b = za3 (xs.take k) ys b := by
 unfold za3
 rw [zE xs k h, List.filter_append]
 simp [e]
theorem zja (xs ys : List zd) (b : Bool) (k : Nat) : (za3 (xs.take k) ys b).length <= k := by
 unfold za3
 refine Nat.le_trans (List.length_filter_le _ _) ?_
 simp
 omega
set_option maxHeartbeats 2000000 in
theorem zhm (v v2 : Value) (xs ys : List zd) (b : Bool) (w : World) (h : zt w w.heap.size v xs) (h2 : zt w w.heap.size v2 ys) (hn : xs.length + ys.length <= 1048576) (ht : tot xs + tot ys <= 1048576) :
 Calls Tryz.prog 51 #[v, v2, .bool b] w fun e w' => ∃ A' c', e = .returned (.slice A' (zaY xs ys b).length c') /\ zp w' w.heap.size w'.heap.size (.slice A' (zaY xs ys b).length c') (zaY xs ys b) /\ Below w.heap.size w w' := by
 obtain ⟨i0, hi0, hz0, hz1, hz2⟩ := info_parts Tryz.infoFact
 have H := Lib.hid h
 have H2 := Lib.hid h2
 obtain ⟨A, c, rfl, hc, _⟩ := h
 obtain ⟨A2, c2, rfl, hc2, _⟩ := h2
 obtain ⟨fs, hfs⟩ : ∃ fs, fs = zJ xs := ⟨_, rfl⟩
 obtain ⟨gs, hgs⟩ : ∃ gs, gs = zJ ys := ⟨_, rfl⟩
 have HFS := Lib.hid hfs
 have HGS := Lib.hid hgs
 have HAS := Lib.hid (show Asc gs by rw [hgs]; exact zaC ys)
 have HPK := Lib.hid (show za3 fs gs b = zaY xs ys b by rw [hfs, hgs]; exact zkT xs ys b)
 rw [<- HPK.out]
 have hfb : fs.length <= 1048576 /\ tot fs <= 1048576 := by have := zb5 xs; rw [hfs]; omega
 have hgb : gs.length <= 1048576 /\ tot gs <= 1048576 := by have := zb5 ys; rw [hgs]; omega
 obtain ⟨hfl, hft⟩ := hfb
 obtain ⟨hgl, hgt⟩ := hgb
 clear hfs hgs
 go_enter Tryz.func51, Tryz.ntmps51
 go_wp2_with (fail)
 refine (zfy _ ys w H2.out (by omega) (by omega)).mono ?_
 rw [<- HGS.out]
 rintro e w1 ⟨Ag, cg, rfl, hrg, hb1⟩
 have HG := Lib.hid hrg
 clear hrg
 go_wp2_with (fail)
 refine (zfy _ xs w1 (H.out.on hb1) (by omega) (by omega)).mono ?_
 rw [<- HFS.out]
 rintro e w2 ⟨Af, cf, rfl, hrf, hb2⟩
 have HF := Lib.hid hrf
 have HG2 := Lib.hid (HG.out.on hb2)
 have B2 := zf hb1 hb2
 clear hrf
 go_wp2_with (fail)
 go_loopw [8, 10, 16] (fun o _ i wr => ∃ (k : Nat) (A' : Option Addr) (c' : Nat) (av : List Value), k <= fs.length /\ i = .int .i64 k /\ o = .slice A' (za3 (fs.take k) gs b).length c' /\ za9 w2 wr (za3 (fs.take k) gs b) A' c' av) (fun _ _ i _ => fs.length - (intOf i).toNat)
 case atStart => exact ⟨0, _, 0, [], Nat.zero_le _, rfl, by simp [za3], za9.nil w2⟩
 case round =>
  obtain ⟨k, A', c', av, hk, rfl, rfl, hr⟩ := hrel
  by_cases hlt : k < fs.length
  ·obtain ⟨bb, o, A3, c3, rfl, hbB, k1, k2, k3⟩ := (HF.out.on hr.below).get hlt
   have hln := zap fs k hlt
   have hgl2 := zja fs gs b k
   have K3 := Lib.hid (show zT wr wr.heap.size (.agg #[.int .i64 fs[k].1, .slice A3 fs[k].2.length c3]) fs[k] from ⟨_, rfl, k3⟩)
   have HSH := Lib.hid (fun W (hW : Below wr.heap.size wr W) => zmf (.slice Ag gs.length cg) (.agg #[.int .i64 fs[k].1, .slice A3 fs[k].2.length c3]) gs fs[k] W ((HG2.out.on hr.below).on hW) (K3.out.on hW) HAS.out (by omega) hgt (by omega))
   have HR := Lib.hid hr
   clear k3 hr
   go_wp2_with (fail)
   obtain ⟨w3, hw3⟩ : ∃ w3, w3 = wr.alloc (Obj.cells #[Value.int IntKind.i64 fs[k].1, Value.slice A3 fs[k].2.length c3] 39) := ⟨_, rfl⟩
   have B3 : Below wr.heap.size wr w3 := by rw [hw3]; exact ze _ _
   have x3 : Blk w3 wr.heap.size 39 #[.int .i64 fs[k].1, .slice A3 fs[k].2.length c3] := by rw [hw3]; exact Blk.new _ _ _
   rw [<- hw3]
   clear hw3 k1 k2
   refine (HSH.out w3 B3).mono ?_
   rintro e w4 ⟨rfl, hb4⟩
   have B4 := zf B3 hb4
   have x4 := x3.below hb4 x3.lt
   have q0 : w4.cell? ⟨wr.heap.size, 0, none⟩ = some (.int .i64 fs[k].1) := x4.cell 0
   have q1 : w4.cell? ⟨wr.heap.size, 1, none⟩ = some (.slice A3 fs[k].2.length c3) := x4.cell 1
   have HP := Lib.hid (HR.out.on B4)
   have K4 := Lib.hid (K3.out.on B4)
   clear x3 x4
   by_cases he : decide (fs[k] ∈ gs) = b
   ·have HS := Lib.hid (zlV hlt he)
    have hq : (b == b) = true := by simp
    rw [he]
    clear he
    go_wp2_with (fail)
    refine (zgT _ fs[k] _ K4.out (by omega)).mono ?_
    rintro e w5 ⟨A4, c4, rfl, ho4, hb5⟩
    have hz5 := hb5.size
    clear q0 q1
    go_wp2_with (at_builtin; refine wpList_append_lies _ rfl (.tmp 25) (.tmp 28) 27 rfl w2.heap.size 39 i0 (.agg #[.int .i64 0, .slice none 0 0]) 2 32 Tryz.underlying27 hi0 hz0 hz1 hz2 rfl (by decide) (.slice A' (za3 (fs.take k) gs b).length c') (za3 (fs.take k) gs b).length (zaT (za3 (fs.take k) gs b) av) rfl ?c1 ⟨w5.heap.size, 0, none⟩ 1 1 [.int .i64 fs[k].1, .slice A4 fs[k].2.length c4] rfl rfl (zlm _ _ _ _) ?c2 (by omega) (by unfold maxLen; omega) (by omega) ?c3 _ rfl ?_)
    case c1 => exact (zaE HP.out.own.row HP.out.own.lt hb5 (Nat.le_refl _)).alloc _
    case c2 => intro u hu; simp at hu; rcases hu with rfl | rfl <;> rfl
    case c3 => have := HP.out.below.size; simp; omega
    intro g cap w6 hown hg _ _
    obtain ⟨av', hcol, hlen⟩ := HP.out.push HS.out hb5 ho4 hg hown
    rw [hlen]
    have HC := Lib.hid hcol
    clear hcol hlen hown hg
    go_wp2_with (fail)
    go_roundw
    case rel => exact ⟨k + 1, _, _, _, by omega, by go_num, rfl, HC.out⟩
    case measure => simp [intOf]; omega
   ·have heb : (decide (fs[k] ∈ gs) == b) = false := by simpa using he
    have HS := Lib.hid (zmY hlt he)
    generalize decide (fs[k] ∈ gs) = D at heb
    clear he
    go_wp2_with (fail)
    go_roundw
    case rel => exact ⟨k + 1, _, _, _, by omega, by go_num, by rw [HS.out], by rw [HS.out]; exact HP.out⟩
    case measure => simp [intOf]; omega
  ·have hkn : k = fs.length := by omega
   have HO := Lib.hid (show zp wr w2.heap.size wr.heap.size (.slice A' (za3 fs gs b).length c') (za3 fs gs b) /\ za3 (fs.take k) gs b = za3 fs gs b by
    have e : fs.take k = fs := by rw [hkn, List.take_length]
    have := hr.own.own
    rw [e] at this ⊢
    exact ⟨this, rfl⟩)
   have hbe := hr.below
   have hs2 := B2.size
   rw [HO.out.2]
   clear hkn hr
   go_wp2_with (fail)
   go_ret
   exact ⟨_, _, rfl, HO.out.1.mono hs2 (Nat.le_refl _), zf B2 hbe⟩
theorem zej (v v2 : Value) (xs ys : List zd) (w : World) (h : zt w w.heap.size v xs) (h2 : zt w w.heap.size v2 ys) (hn : xs.length + ys.length <= 1048576) (ht : tot xs + tot ys <= 1048576) :
 Calls Tryz.prog 18 #[v, v2] w fun e w' => ∃ A' c', e = .returned (.slice A' (zaY xs ys false).length c') /\ zp w' w.heap.size w'.heap.size (.slice A' (zaY xs ys false).length c') (zaY xs ys false) /\ Below w.heap.size w w' := by
 have H := Lib.hid h
 have H2 := Lib.hid h2
 obtain ⟨A, c, rfl, hc, _⟩ := h
 obtain ⟨A2, c2, rfl, hc2, _⟩ := h2
 go_enter Tryz.func18, Tryz.ntmps18
 go_wp2_with (fail)
 refine (zhm _ _ xs ys false _ H.out H2.out hn ht).mono ?_
 rintro e w1 ⟨A', c', rfl, ho, hb⟩
 have HO := Lib.hid (And.intro ho hb)
 clear ho hb
 go_wp2_with (fail)
 go_ret
 exact ⟨A', c', rfl, HO.out.1, HO.out.2⟩
open Go.RowKit
open Go.RowKit
theorem zoQ {p : Int} {q m k : Nat} (h : k < (zem p q m).length) : (zem p q m)[k] = (p, zaG k q) := by simp [zem]
set_option maxHeartbeats 2000000 in
theorem zh8 (p q : Int) (w : World) (h : zf2 p q = false) :
 Calls Tryz.prog 17 #[.int .i64 p, .int .i64 q] w fun e w' => e = .returned (.slice none 0 0) /\ w = w' := by
 by_cases h1 : p < 0
 ·have d1 : decide (p < 0) = true := by simpa using h1
  go_enter Tryz.func17, Tryz.ntmps17
  go_wp2_with (fail)
  go_ret
  exact ⟨rfl, rfl⟩
 ·have d1 : decide (p < 0) = false := by simpa using h1
  by_cases h2 : 24 <= p
  ·have d2 : decide (24 <= p) = true := by simpa using h2
   go_enter Tryz.func17, Tryz.ntmps17
   go_wp2_with (fail)
   go_ret
   exact ⟨rfl, rfl⟩
  ·have d2 : decide (24 <= p) = false := by simpa using h2
   by_cases h3 : q < 0
   ·have d3 : decide (q < 0) = true := by simpa using h3
    go_enter Tryz.func17, Tryz.ntmps17
    go_wp2_with (fail)
    go_ret
    exact ⟨rfl, rfl⟩
   ·have d3 : decide (q < 0) = false := by simpa using h3
    have h4 : 2 < q := by
     simp [zf2] at h
     omega
    have d4 : decide (2 < q) = true := by simpa using h4
    clear h
    go_enter Tryz.func17, Tryz.ntmps17
    go_wp2_with (fail)
    go_ret
    exact ⟨rfl, rfl⟩
set_option maxHeartbeats 2000000 in
theorem zhj (p q : Int) (w : World) :
 Calls Tryz.prog 17 #[.int .i64 p, .int .i64 q] w fun e w' => ∃ A' c', e = .returned (.slice A' (zbG p q).length c') /\ zp w' w.heap.size w'.heap.size (.slice A' (zbG p q).length c') (zbG p q) /\ Below w.heap.size w w' := by
 by_cases hok : zf2 p q = false
 ·refine (zh8 p q w hok).mono ?_
  rintro e w' ⟨rfl, rfl⟩
  have hE : zbG p q = [] := by unfold zbG; rw [hok]; rfl
  rw [hE]
  exact ⟨none, 0, rfl, (za9.nil w).own.own, Below.refl _ _⟩
 ·have hb : 0 <= p /\ p <= 23 /\ 0 <= q /\ q <= 2 := by
   simp [zf2] at hok
   omega
  obtain ⟨hp0, hp1, hq0, hq1⟩ := hb
  have HK := Lib.hid (show zf2 p q = true by simpa using hok)
  clear hok
  obtain ⟨n, rfl⟩ := Int.eq_ofNat_of_zero_le hq0
  have hn2 : n <= 2 := by omega
  have HR := Lib.hid (show zbG p (n : Int) = zem p n (6 ^ n) by unfold zbG; rw [HK.out]; simp)
  have d1 : decide (p < 0) = false := by simp; omega
  have d2 : decide (24 <= p) = false := by simp; omega
  obtain ⟨i0, hi0, hz0, hz1, hz2⟩ := info_parts Tryz.infoFact
  have hmk := fun (t : Nat) (ht : t <= 36) (W : World) => zbx (P := Tryz.prog) 27 39 i0 (.agg #[.int .i64 0, .slice none 0 0]) Tryz.underlying27 hi0 hz0 .i64 .i64 t t (Nat.le_refl _) (by rw [hz2]; omega) (by omega) W
  rw [hz1] at hmk
  simp only [Value.cells] at hmk
  have HMK := Lib.hid hmk
  clear hmk
  go_enter Tryz.func17, Tryz.ntmps17
  go_wp2_with (fail)
  go_loop [5, 23] (fun m i => ∃ j : Nat, j <= n /\ i = .int .i64 j /\ m = .int .i64 ((6 ^ j : Nat) : Int)) (fun _ i => n - (intOf i).toNat)
  case atStart => exact ⟨0, Nat.zero_le _, rfl, rfl⟩
  case round =>
   obtain ⟨j, hj, rfl, rfl⟩ := hrel
   by_cases hlt : j < n
   ·have h6 : (6 : Nat) ^ j <= 36 := Nat.pow_le_pow_right (by decide) (show j <= 2 by omega)
    obtain ⟨t, ht⟩ : ∃ t, t = 6 ^ j := ⟨_, rfl⟩
    have HT := Lib.hid (show t * 6 = 6 ^ (j + 1) by rw [ht, Nat.pow_succ])
    rw [<- ht] at h6 ⊢
    clear ht
    go_wp2_with (fail)
    go_round
    case rel => exact ⟨j + 1, by omega, by go_num, by rw [<- HT.out]; go_num⟩
    case measure => simp [intOf]; omega
   ·have hjn : j = n := by omega
    subst hjn
    obtain ⟨t, ht⟩ : ∃ t, t = 6 ^ j := ⟨_, rfl⟩
    have h6 : t <= 36 := by rw [ht]; exact Nat.pow_le_pow_right (by decide) hn2
    rw [<- ht] at HR ⊢
    clear ht
    have hmk := HMK.out t h6
    go_wp2_with (fail)
    have hl := ze2 p j t
    obtain ⟨fs, hfs⟩ : ∃ fs, fs = zem p j t := ⟨_, rfl⟩
    rw [<- hfs] at hl HR
    have HFS := Lib.hid hfs
    clear hfs hmk
    subst hl
    go_loopw [7, 32] (fun _ i wr => ∃ (k : Nat) (av : List Value), k <= fs.length /\ i = .int .i64 k /\ zdZ w wr fs k av) (fun _ i _ => fs.length - (intOf i).toNat)
    case atStart => exact ⟨0, [], Nat.zero_le _, rfl, zdZ.start w fs⟩
    case round =>
     obtain ⟨k, av, hk, rfl, hr⟩ := hrel
     by_cases hlt : k < fs.length
     ·have HA := Lib.hid (show fs[k] = (p, zaG k j) by
       have e := HFS.out
       have := zoQ (p := p) (q := j) (m := fs.length) (k := k) (by rw [ze2]; exact hlt)
       simpa [<- e] using this)
      go_wp2_with (fail)
      refine (zdX k j _ (by omega) hn2).mono ?_
      rintro e w4 ⟨A4, c4, rfl, ho4, hb4⟩
      obtain ⟨r1, r2, r3, r4⟩ := hr.room hlt hb4
      have hstep := hr.step hlt hb4 (a := .slice A4 j c4) (by rw [HA.out]; exact ho4)
      rw [HA.out] at hstep
      go_wp2_with (fail)
      go_roundw
      case rel => exact ⟨k + 1, _, by omega, by go_num, hstep⟩
      case measure => simp [intOf]; omega
     ·have hkn : k = fs.length := by omega
      have HO := Lib.hid (show zp wr w.heap.size wr.heap.size (.slice (some ⟨w.heap.size, 0, none⟩) fs.length fs.length) fs from zdZ.done (by rw [<- hkn]; exact hr) (by unfold maxLen; omega))
      have hbe := hr.below
      clear hkn hr
      go_wp2_with (fail)
      go_ret
      rw [HR.out]
      exact ⟨_, _, rfl, HO.out, hbe⟩
open Go.RowKit
theorem zy.at_ {w : World} {B c : Nat} {A : Option Addr} {xs : List Int} (h : zy w B (.slice A xs.length c) xs) {k : Nat} (hk : k < xs.length) : ∃ b o, A = some ⟨b, o, none⟩ /\ b < B /\ w.cell? ⟨b, o + k, none⟩ = some (.int .i64 xs[k]) := by
 obtain ⟨A', c', e, _, hx⟩ := h
 injection e with e1 _ _
 subst e1
 obtain ⟨b, o, rfl, hb, hx⟩ := hx (by omega)
 exact ⟨b, o, rfl, hb, hx k hk⟩
open Go.RowKit
theorem zn0 (xs : List Int) : zas xs xs = 0 := by
 induction xs with
 | nil => simp [zas]
 | cons x xs ih => simp [zas, ih]
theorem zi0 (f : zd) : zj f f = 0 := by simp [zj, zn0]
set_option maxHeartbeats 1000000 in
theorem zhz (v v2 : Value) (fs : List zd) (w : World) (h : zt w w.heap.size v fs) (h2 : zt w w.heap.size v2 fs) (hn : fs.length <= 1048576) (ht : tot fs <= 1048576) :
 Calls Tryz.prog 8 #[v, v2] w fun e w' => e = .returned (.bool true) /\ Below w.heap.size w w' := by
 have H := Lib.hid h
 have H2 := Lib.hid h2
 obtain ⟨A, c, rfl, hc, _⟩ := h
 obtain ⟨A2, c2, rfl, hc2, _⟩ := h2
 have hnn : ((fs.length : Int) != (fs.length : Int)) = false := by simp
 go_enter Tryz.func8, Tryz.ntmps8
 go_wp2_with (fail)
 go_loopw [5, 13] (fun _ i wr => ∃ k : Nat, k <= fs.length /\ i = .int .i64 k /\ Below w.heap.size w wr) (fun _ i _ => fs.length - (intOf i).toNat)
 case atStart => exact ⟨0, Nat.zero_le _, rfl, Below.refl _ _⟩
 case round =>
  obtain ⟨k, hk, rfl, hbe⟩ := hrel
  by_cases hlt : k < fs.length
  ·obtain ⟨b, o, A3, c3, rfl, hbB, k1, k2, k3⟩ := (H.out.on hbe).get hlt
   have K3 := Lib.hid (show zT wr wr.heap.size (.agg #[.int .i64 fs[k].1, .slice A3 fs[k].2.length c3]) fs[k] from ⟨_, rfl, k3⟩)
   obtain ⟨b', o', A4, c4, rfl, hbB', m1, m2, m3⟩ := (H2.out.on hbe).get hlt
   have K4 := Lib.hid (show zT wr wr.heap.size (.agg #[.int .i64 fs[k].1, .slice A4 fs[k].2.length c4]) fs[k] from ⟨_, rfl, m3⟩)
   have hln := zap fs k hlt
   have L1 := zw k1
   have L2 := zw k2
   have M1 := zw m1
   have M2 := zw m2
   have CO := Lib.hid (fun x : zbJ wr => (zek _ _ fs[k] fs[k] x.val (K3.out.on x.2) (K4.out.on x.2) (by omega) (by omega)).mono fun e w' (hh : e = .returned (.int .i64 (zj fs[k] fs[k])) /\ Below x.val.heap.size x.val w') => (⟨by rw [hh.1, zi0], hh.2⟩ : e = .returned (.int .i64 0) /\ Below x.val.heap.size x.val w'))
   clear k1 k2 k3 m1 m2 m3
   go_wp2_with (fail)
   refine zx (by kernel_rfl) (by kernel_rfl) ?_
   repeat (go_big_quiet_step ((go_at_call 32; exact zai (CO.out _))))
   refine wpQuiet_nil ?_
   rintro _ ⟨xq, rfl⟩
   go_wp2_with (fail)
   go_roundw
   case rel => exact ⟨k + 1, by omega, by go_num, zf hbe xq.2⟩
   case measure => simp [intOf]; omega
  ·have hkn : k = fs.length := by omega
   have hdk : decide ((k : Int) < (fs.length : Int)) = false := by simp; omega
   go_wp2_with (fail)
   go_ret
   exact ⟨rfl, hbe⟩
open Go.ChangeShapes Go.WideShapes Go.ChangeAt Go.RowKit Go.Joins Go.Deep
theorem Tryz.cells5 : Tryz.prog.cellsOf 5 = 1 := by kernel_rfl
def znm (W : World) (v : Value) (bs : List Nat) : Prop := zbB W W.heap.size v bs /\ bs.length <= maxLen /\ ∀ b ∈ bs, b < 256
theorem zi9 {n : Int} (h : (Lit.int .u8 n).wf = true) : 0 <= n /\ n < 256 := by
 simp only [Lit.wf, Bool.and_eq_true, decide_eq_true_eq] at h
 have h1 : IntKind.u8.min = 0 := by decide
 have h2 : IntKind.u8.max = 255 := by decide
 omega
theorem zkt {H : Type} {enc : TypeId × Value -> H} {W : World} {v : Value} {d : DataW H} {p : List MemPlace} {b0 : Nat} (hv : Value.okWide Tryz.prog W .any b0 22 v) (h : DataW.Trod enc Tryz.prog W 0 (fun _ => true) true 22 v d p) :
 ∃ bs, znm W v bs := by
 obtain ⟨a, len, cap, rfl⟩ := okWide_slice Tryz.underlying22 hv
 obtain ⟨fuel, hf⟩ := h
 have hf : DataW.trod enc Tryz.prog W 0 (fun _ => true) true fuel 22 [.slice a len cap] = some (d, p) := by simpa [Value.cells] using hf
 rcases open_ints Tryz.underlying22 Tryz.underlying5 Tryz.cells5 hf with ⟨hcs, _⟩ | ⟨a, len, cap, zs, hcs, _, hl, hm, hz, _, hcell, hwz⟩
 ·simp at hcs
  obtain ⟨rfl, rfl, rfl⟩ := hcs
  exact ⟨[], ⟨none, 0, rfl, by simp, fun h => absurd h (by simp)⟩, by simp, by simp⟩
 ·simp at hcs
  obtain ⟨rfl, rfl, rfl⟩ := hcs
  simp at hz
  refine ⟨(zs.take len).map Int.toNat, ⟨some a, cap, ?_, by simp; omega, fun hn => ?_⟩, by simp; omega, ?_⟩
  ·congr 1
   simp
   omega
  ·have hlen : (zs.take len).length = len := by simp; omega
   simp only [List.length_map, hlen] at hn
   obtain ⟨b, o, rfl, hc⟩ := ints_at hcell (by omega)
   refine ⟨b, o, rfl, World.block_lt_of_cell? _ _ (hc 0 (by omega)), fun k hk => ?_⟩
   simp only [List.length_map, hlen] at hk
   have hw := zi9 (hwz zs[k] (List.getElem_mem (by omega)))
   rw [hc k (by omega)]
   simp [show k < zs.length by omega]
   omega
  ·intro b hb
   rw [List.mem_map] at hb
   obtain ⟨z, hz1, rfl⟩ := hb
   have := zi9 (hwz z (List.mem_of_mem_take hz1))
   omega
open Go.RowKit
theorem zaM.four {lo : Nat} {w : World} {v : Value} {p : zav} (h : zaM lo w v p) : 4 <= p.1.length := by
 obtain ⟨A, Ar, c, cr, B, es, e1, e2, e3, _⟩ := h
 exact e3.1
theorem zkN (n q : Nat) : (zaG n q).all zu = true := by
 rw [List.all_eq_true]
 intro x hx
 unfold zaG at hx
 obtain ⟨j, hj, rfl⟩ := List.mem_map.1 hx
 unfold zu
 rw [decide_eq_true_eq]
 omega
theorem zkX (p q : Int) : (zbG p q).length <= 36 /\ tot (zbG p q) <= 72 := by
 unfold zbG
 by_cases h : zf2 p q = true
 ·rw [if_pos h, ze2, zka]
  unfold zf2 at h
  rw [Bool.and_eq_true, decide_eq_true_eq, decide_eq_true_eq] at h
  obtain ⟨n, rfl⟩ : ∃ n : Nat, q = n := ⟨q.toNat, by omega⟩
  have : n = 0 \/ n = 1 \/ n = 2 := by omega
  rcases this with rfl | rfl | rfl <;> decide
 ·rw [if_neg h]
  exact ⟨by simp, by simp [tot]⟩
theorem zkW {ar : List Int} (h0 : 0 < ar.length) : ∀ f ∈ zbG 0 ar[0], zz ar f = true := fun f hf => by
 unfold zbG at hf
 by_cases h : zf2 0 ar[0] = true
 ·rw [if_pos h] at hf
  unfold zem at hf
  obtain ⟨i, _, rfl⟩ := List.mem_map.1 hf
  unfold zf2 at h
  rw [Bool.and_eq_true, decide_eq_true_eq, decide_eq_true_eq] at h
  unfold zz
  rw [zkN, Bool.and_true, decide_eq_true_eq]
  refine ⟨Int.le_refl _, by omega, ?_⟩
  rw [zcs]
  have e : ar.getD (0 : Int).toNat 0 = ar[0] := by simp [h0]
  rw [e]
  omega
 ·rw [if_neg h] at hf
  cases hf
set_option maxHeartbeats 8000000 in
theorem zgA (v : Value) (code : List Nat) (w : World) (hr : zbB w w.heap.size v code) (_ : code.length <= maxLen) (hby : ∀ b ∈ code, b < 256) (hT : Tab w) :
 Calls Tryz.prog 3 #[v] w fun e w' => e = .returned (.bool true) /\ Below w.heap.size w w' := by
 have HV := Lib.hid hr
 have HT := Lib.hid hT
 obtain ⟨Av, cv, rfl, hcv, _⟩ := hr
 clear hT
 go_enter Tryz.func3, Tryz.ntmps3
 by_cases hbig : 1048576 < code.length
 ·have hd : decide ((1048576 : Int) < code.length) = true := by simp; omega
  go_wp2_with (fail)
  go_ret
  exact ⟨rfl, Below.refl _ _⟩
 have hd : decide ((1048576 : Int) < code.length) = false := by simp; omega
 have hbn : code.length <= 1073741824 := by omega
 go_upto_region 4 with (go_at_call 6; refine (zjB _ code w HV.out hby hbn).mono ?_
                        rintro e w1 ⟨u, p, Af, cf, fs, rfl, hdp, hfo, hf1, hf2, B1⟩
                        obtain ⟨A, A2, c, c2, rfl, ra, rr⟩ := hdp.rd
                        have hsz := hdp.sz
                        have har4 : 4 <= p.1.length := hdp.four
                        have rf := hfo.rd
                        clear hfo
                        clear hdp)
 have HSZ := Lib.hid (show szP p <= 1048576 by omega)
 obtain ⟨w2, hw2⟩ : ∃ w2, w2 = w1.alloc (Obj.cells #[Value.slice A p.1.length c, Value.slice A2 p.2.length c2] 26) := ⟨_, rfl⟩
 have b2 : Below w1.heap.size w1 w2 := by rw [hw2]; exact ze _ _
 have BX : Blk w2 w1.heap.size 26 #[.slice A p.1.length c, .slice A2 p.2.length c2] := by rw [hw2]; exact Blk.new _ _ _
 rw [<- hw2]
 clear hw2
 obtain ⟨D, hD⟩ : ∃ D, D = w1.heap.size := ⟨_, rfl⟩
 rw [<- hD] at BX ⊢
 clear hD
 have B2 := Lib.hid (zf B1 b2)
 have HPR := Lib.hid (show ∀ W, Below w2.heap.size w2 W -> zbV W W.heap.size (.agg #[.slice A p.1.length c, .slice A2 p.2.length c2]) p from fun W hW => ⟨_, _, rfl, (ra.on b2).on hW, (rr.on b2).on hW⟩)
 have HAR := Lib.hid (show ∀ W, Below w2.heap.size w2 W -> zy W W.heap.size (.slice A p.1.length c) p.1 from fun W hW => (ra.on b2).on hW)
 have HBX := Lib.hid (show ∀ W, Below w2.heap.size w2 W -> W.cell? ⟨D, 0, none⟩ = some (.slice A p.1.length c) /\ W.cell? ⟨D, 1, none⟩ = some (.slice A2 p.2.length c2) from fun W hW => ⟨(BX.below hW BX.lt).cell 0, (BX.below hW BX.lt).cell 1⟩)
 have HTT := Lib.hid (show ∀ W, Below w2.heap.size w2 W -> Tab W from fun W hW => HT.out.below (zf B2.out hW))
 obtain ⟨x0, x1⟩ := HBX.out _ (Below.refl _ _)
 have hDl := BX.lt
 have hpn : p.1.length <= 100 := by unfold szP at hsz; omega
 have hpr : p.2.length <= 100 := by unfold szP at hsz; omega
 have HFS := Lib.hid (show ∀ W, Below w2.heap.size w2 W -> zt W W.heap.size (.slice Af fs.length cf) fs from fun W hW => (rf.on b2).on hW)
 obtain ⟨L, hL⟩ : ∃ L, L = zaA p fs := ⟨_, rfl⟩
 have HL := Lib.hid hL
 have HLF := Lib.hid (show L.length <= 1536 /\ tot L <= 3072 by rw [hL]; exact zf9 p fs)
 have hll := HLF.out.1
 have CI := Lib.hid (zep _ (.slice Af fs.length cf) p fs w2 (HPR.out _ (Below.refl _ _)) (HFS.out _ (Below.refl _ _)) HSZ.out (by omega) (by omega) (HTT.out _ (Below.refl _ _)))
 have CS := Lib.hid (fun W (hW : Below w2.heap.size w2 W) => zfV _ (.slice Af fs.length cf) p fs W (HPR.out _ hW) (HFS.out _ hW) HSZ.out (by omega) (by omega))
 rw [<- hL] at CI CS
 clear hL BX b2 B1 ra rr rf hsz
 go_upto_region 5 with (go_at_call 7; refine CI.out.mono ?_; rintro e w3 ⟨A3, c3, rfl, o3, b3⟩)
 have B3 := Lib.hid b3
 have HL3 := Lib.hid o3.rd
 clear o3 b3 x0 x1
 obtain ⟨po, hpo⟩ : ∃ po, po = zaD p := ⟨_, rfl⟩
 have HPO := Lib.hid hpo
 have CPI := Lib.hid (fun W (hW : Below w2.heap.size w2 W) => zeD (.agg #[.slice A p.1.length c, .slice A2 p.2.length c2]) p W (HPR.out _ hW) HSZ.out)
 have CPS := Lib.hid (fun W (hW : Below w2.heap.size w2 W) => zeA (.agg #[.slice A p.1.length c, .slice A2 p.2.length c2]) p W (HPR.out _ hW) HSZ.out)
 rw [<- hpo] at CPI CPS
 clear hpo
 obtain ⟨SS, hSS⟩ : ∃ SS : World -> Prop, SS = (fun W => W.cell? ⟨D, 0, none⟩ = some (.slice A p.1.length c) /\ W.cell? ⟨D, 1, none⟩ = some (.slice A2 p.2.length c2)) := ⟨_, rfl⟩
 have HB := Lib.hid (show ∀ W, SS W -> W.cell? ⟨D, 0, none⟩ = some (.slice A p.1.length c) /\ W.cell? ⟨D, 1, none⟩ = some (.slice A2 p.2.length c2) from by rw [hSS]; exact fun W hW => hW)
 have HC := Lib.hid (show ∀ W, Below w2.heap.size w2 W -> SS W from by rw [hSS]; exact fun W hW => HBX.out W hW)
 clear hSS
 refine zC SS 12 13 (by kernel_rfl) rfl ?_
 have B3d := Lib.hid (zf B3.out (Below.refl _ w3).drew)
 have BB3 := Lib.hid (show Below w3.heap.size w3 w3.drew from (Below.refl _ w3).drew)
 obtain ⟨wy, hwy⟩ : ∃ wy, wy = w3.drew := ⟨_, rfl⟩
 rw [<- hwy] at B3d BB3 ⊢
 clear hwy
 have S0 := HC.out _ B3d.out
 refine za (i := 0) (oi := _) ?va0 rfl rfl (by kernel_rfl) (by decide) (fun _ _ _ h => h) rfl ?hya0 (fun _ => S0) ?resta0
 case hya0 => (intro W; go_simp; (try with_reducible rfl))
 try simp only [zs.a, zs.b, zs.c]
 refine za (i := 2) (oi := _) ?va2 rfl rfl (by kernel_rfl) (by decide) (fun _ _ _ h => h) rfl ?hya2 (fun _ => S0) ?resta2
 case hya2 => (intro W; go_simp; (try with_reducible rfl))
 try simp only [zs.a, zs.b, zs.c]
 refine zk (i := 1) (oi := _) ?va1 rfl rfl (by kernel_rfl) (fun _ _ _ h => h) rfl ?hya1 S0 ?resta1
 case hya1 => (intro W hW; obtain ⟨d0, d1⟩ := HB.out W hW; go_simp; (try with_reducible rfl))
 try simp only [zs.a, zs.b, zs.c]
 refine zh (i := 3) (by kernel_rfl) rfl (fun K hK => ?_)
 try rw [if_pos (show Region.wanted _ _ = true from rfl)]
 go_simp
 refine (CS.out _ B3d.out).mono ?_
 rintro e w6 ⟨A6, c6, rfl, o6, b6⟩
 have B6 := Lib.hid (zf B3d.out b6)
 have BB6 := Lib.hid (zf BB3.out b6)
 have HW6 := Lib.hid o6.rd
 have S1 := HC.out _ B6.out
 clear o6 b6
 refine hK.out _ _ (fun _ => S1) ?_
 clear hK K
 try simp only [zs.a, zs.b, zs.c, Act.put]
 refine zh (i := 4) (by kernel_rfl) rfl (fun K hK => ?_)
 try rw [if_pos (show Region.wanted _ _ = true from rfl)]
 go_simp
 refine (zhz (.slice A3 L.length c3) (.slice A6 L.length c6) L w6 (HL3.out.on BB6.out) HW6.out (by omega) (by have := HLF.out.2; omega)).mono ?_
 rintro e w7 ⟨rfl, b7⟩
 have B7 := Lib.hid (zf B6.out b7)
 have BB7 := Lib.hid (zf BB6.out b7)
 have S2 := HC.out _ B7.out
 clear b7
 refine hK.out _ _ (fun _ => S2) ?_
 clear hK K
 try simp only [zs.a, zs.b, zs.c, Act.put]
 refine za (i := 5) (oi := _) (.bool false) rfl rfl (by kernel_rfl) (by decide) (fun _ _ _ h => h) rfl ?hyb5 (fun _ => S2) ?restb5
 case hyb5 => (intro W; go_simp; (try simp))
 try simp only [zs.a, zs.b, zs.c]
 refine za (i := 6) (oi := _) (.bool false) rfl rfl (by kernel_rfl) (by decide) (fun _ _ _ h => h) rfl ?hyb6 (fun _ => S2) ?restb6
 case hyb6 => (intro W; go_simp; (try simp))
 try simp only [zs.a, zs.b, zs.c]
 refine zk (i := 7) (oi := _) ?vb7 rfl rfl (by kernel_rfl) (fun _ _ _ h => h) rfl ?hyb7 S2 ?restb7
 case hyb7 => (intro W hW; obtain ⟨d0, d1⟩ := HB.out W hW; go_simp; (try with_reducible rfl))
 try simp only [zs.a, zs.b, zs.c]
 refine zk (i := 9) (oi := _) ?vb9 rfl rfl (by kernel_rfl) (fun _ _ _ h => h) rfl ?hyb9 S2 ?restb9
 case hyb9 => (intro W hW; obtain ⟨d0, d1⟩ := HB.out W hW; go_simp; (try with_reducible rfl))
 try simp only [zs.a, zs.b, zs.c]
 refine zh (i := 8) (by kernel_rfl) rfl (fun K hK => ?_)
 try rw [if_pos (show Region.wanted _ _ = true from rfl)]
 go_simp
 refine (CPI.out _ B7.out).mono ?_
 rintro e w8 ⟨rfl, b8⟩
 have B8 := Lib.hid (zf B7.out b8)
 have BB8 := Lib.hid (zf BB7.out b8)
 have S3 := HC.out _ B8.out
 clear b8
 refine hK.out _ _ (fun _ => S3) ?_
 clear hK K
 try simp only [zs.a, zs.b, zs.c, Act.put]
 refine zh (i := 10) (by kernel_rfl) rfl (fun K hK => ?_)
 try rw [if_pos (show Region.wanted _ _ = true from rfl)]
 go_simp
 refine (CPS.out _ B8.out).mono ?_
 rintro e w9 ⟨rfl, b9⟩
 have B9 := Lib.hid (zf B8.out b9)
 have BB9 := Lib.hid (zf BB8.out b9)
 have S4 := HC.out _ B9.out
 clear b9
 refine hK.out _ _ (fun _ => S4) ?_
 clear hK K
 try simp only [zs.a, zs.b, zs.c, Act.put]
 refine za (i := 11) (oi := _) (.bool false) rfl rfl (by kernel_rfl) (by decide) (fun _ _ _ h => h) rfl ?hyc11 (fun _ => S4) ?restc11
 case hyc11 => (intro W; go_simp; (try simp))
 try simp only [zs.a, zs.b, zs.c]
 refine zh (i := 12) (by kernel_rfl) rfl (fun K hK => ?_)
 go_simp
 refine hK.out _ _ (fun hf => absurd hf (by decide)) ?_
 clear hK K
 refine zK (by kernel_rfl) ?_
 obtain ⟨fo, hfo⟩ : ∃ fo, fo = zah p.1 fs := ⟨_, rfl⟩
 have HFO := Lib.hid hfo
 have CFO := Lib.hid (fun W (hW : Below w2.heap.size w2 W) => zdp (.slice A p.1.length c) (.slice Af fs.length cf) p.1 fs W (HAR.out _ hW) (HFS.out _ hW) (by omega) (by omega) (by omega))
 rw [<- hfo] at CFO
 clear hfo
 obtain ⟨x0, x1⟩ := HBX.out _ B9.out
 have HNO := Lib.hid (show (po && fo) = false -> ((L.length : Int) == 0) = true from fun h => by
  rw [HL.out, znJ (by rw [<- HPO.out, <- HFO.out]; exact h)]
  rfl)
 cases po
 ·have hl0 := HNO.out rfl
  go_wp2_with (go_at_call 10; refine (CPI.out _ B9.out).mono ?_; rintro e w10 ⟨rfl, b10⟩; have B10 := Lib.hid (zf B9.out b10); clear b10)
  go_ret
  exact ⟨rfl, zf B2.out B10.out⟩
 ·cases fo
  ·have hl0 := HNO.out rfl
   go_wp2_with (first
    | (go_at_call 10; refine (CPI.out _ B9.out).mono ?_; rintro e w10 ⟨rfl, b10⟩
       have B10 := Lib.hid (zf B9.out b10)
       obtain ⟨y0, y1⟩ := HBX.out _ B10.out
       clear b10)
    | (go_at_call 12; refine (CFO.out _ B10.out).mono ?_; rintro e w11 ⟨rfl, b11⟩; have B11 := Lib.hid (zf B10.out b11); clear b11))
   go_ret
   exact ⟨rfl, zf B2.out B11.out⟩
  ·have HLOK := Lib.hid (show zcp p fs = true by unfold zcp; rw [<- HPO.out, <- HFO.out]; rfl)
   go_upto_region 10 with (first
    | (go_at_call 10; refine (CPI.out _ B9.out).mono ?_; rintro e w10 ⟨rfl, b10⟩
       have B10 := Lib.hid (zf B9.out b10)
       have BB10 := Lib.hid (zf BB9.out b10)
       obtain ⟨y0, y1⟩ := HBX.out _ B10.out
       clear b10)
    | (go_at_call 12; refine (CFO.out _ B10.out).mono ?_; rintro e w11 ⟨rfl, b11⟩; have B11 := Lib.hid (zf B10.out b11); have BB11 := Lib.hid (zf BB10.out b11); clear b11)
    | (go_at_call 13; refine (zi3 _ code w11 (HV.out.onM (zf B2.out B11.out)) hby hbn).mono ?_
       rintro e w12 ⟨u2, p2, Ag, cg, gs, rfl, hdq, hgo, hg1, hg2, b12⟩
       obtain ⟨A8, A9, c8, c9, rfl, sa, sr⟩ := hdq.rd
       have hsz2 := hdq.sz
       have rg := hgo.rd
       have B12 := Lib.hid (zf B11.out b12)
       have BB12 := Lib.hid (zf BB11.out b12)
       clear hdq hgo b12))
   obtain ⟨w13, hw13⟩ : ∃ w13, w13 = w12.alloc (Obj.cells #[Value.slice A8 p2.1.length c8, Value.slice A9 p2.2.length c9] 26) := ⟨_, rfl⟩
   have b13 : Below w12.heap.size w12 w13 := by rw [hw13]; exact ze _ _
   have BY : Blk w13 w12.heap.size 26 #[.slice A8 p2.1.length c8, .slice A9 p2.2.length c9] := by rw [hw13]; exact Blk.new _ _ _
   rw [<- hw13]
   clear hw13
   obtain ⟨E, hE⟩ : ∃ E, E = w12.heap.size := ⟨_, rfl⟩
   rw [<- hE] at BY ⊢
   clear hE x0 x1 y0 y1
   have B13 := Lib.hid (zf B12.out b13)
   have BB13 := Lib.hid (zf BB12.out b13)
   have hs2 : szP p2 <= 1048576 := by omega
   have hEl := BY.lt
   obtain ⟨cl, hcl⟩ : ∃ cl, cl = zdi p2 gs := ⟨_, rfl⟩
   have HQ := Lib.hid (And.intro (show zbV w13 w13.heap.size (.agg #[.slice A8 p2.1.length c8, .slice A9 p2.2.length c9]) p2 from ⟨_, _, rfl, sa.on b13, sr.on b13⟩) (rg.on b13))
   have D1 := Lib.hid (fun x : zbJ w13 => zai (show Calls Tryz.prog 14 #[.agg #[.slice A8 p2.1.length c8, .slice A9 p2.2.length c9], .slice Ag gs.length cg] x.val fun e w' => e = .returned (.bool cl) /\ Below x.val.heap.size x.val w' from by
    rw [hcl]
    exact zfu _ _ p2 gs x.val (HQ.out.1.on x.2) (HQ.out.2.on x.2) hs2 (by omega) (by omega)))
   have D2 := Lib.hid (fun x : zbJ w13 => zai (show Calls Tryz.prog 15 #[.agg #[.slice A8 p2.1.length c8, .slice A9 p2.2.length c9], .slice Ag gs.length cg] x.val fun e w' => e = .returned (.bool cl) /\ Below x.val.heap.size x.val w' from by
    rw [hcl]
    exact zir _ _ p2 gs x.val (HQ.out.1.on x.2) (HQ.out.2.on x.2) hs2 (by omega) (by omega)))
   have z0 : w13.cell? ⟨E, 0, none⟩ = some (.slice A8 p2.1.length c8) := BY.cell 0
   have z1 : w13.cell? ⟨E, 1, none⟩ = some (.slice A9 p2.2.length c9) := BY.cell 1
   have M0 := zw z0
   have M1 := zw z1
   have hneq : (cl != cl) = false := by simp
   clear hcl BY z0 z1 sa sr rg b13
   go_cut [57] (fun s wx => s = .bool false /\ Below w13.heap.size w13 wx)
   case first =>
    refine zx (by kernel_rfl) (by kernel_rfl) ?_
    repeat (go_big_quiet_step ((first | (go_at_call 14; exact D1.out _) | (go_at_call 15; exact D2.out _))))
    refine wpQuiet_nil ?_
    rintro _ ⟨xq, rfl⟩
    go_wp2_with (fail)
    go_meet
    exact ⟨rfl, xq.2⟩
   case rest =>
   obtain ⟨rfl, b14⟩ := hcut
   rename World => w14
   have B14 := Lib.hid (zf B13.out b14)
   have BB14 := Lib.hid (zf BB13.out b14)
   clear b14 M0 M1
   go_upto_region 12 with (fail)
   obtain ⟨a0, ha0⟩ : ∃ a0, a0 = p.1[0]'(by omega) := ⟨_, rfl⟩
   obtain ⟨ba, oa, hA, hba, ea⟩ := (HAR.out _ (Below.refl _ _)).at_ (k := 0) (by omega)
   subst hA
   rw [<- ha0] at ea
   have HEA := Lib.hid (show ∀ W, Below w2.heap.size w2 W -> W.cell? ⟨ba, oa, none⟩ = some (.int .i64 a0) from fun W hW => (World.cell?_of_block (hW.block ba hba)).trans (by simpa using ea))
   obtain ⟨ST, hST⟩ : ∃ ST : World -> Prop, ST = (fun W => W.cell? ⟨D, 0, none⟩ = some (.slice (some ⟨ba, oa, none⟩) p.1.length c) /\ W.cell? ⟨D, 1, none⟩ = some (.slice A2 p.2.length c2) /\ W.cell? ⟨ba, oa, none⟩ = some (.int .i64 a0)) := ⟨_, rfl⟩
   have HB := Lib.hid (show ∀ W, ST W -> W.cell? ⟨D, 0, none⟩ = some (.slice (some ⟨ba, oa, none⟩) p.1.length c) /\ W.cell? ⟨D, 1, none⟩ = some (.slice A2 p.2.length c2) /\ W.cell? ⟨ba, oa, none⟩ = some (.int .i64 a0) from by rw [hST]; exact fun W hW => hW)
   have HC2 := Lib.hid (show ∀ W, Below w2.heap.size w2 W -> ST W from by rw [hST]; exact fun W hW => ⟨(HBX.out W hW).1, (HBX.out W hW).2, HEA.out W hW⟩)
   obtain ⟨X, hX⟩ : ∃ X, X = zbG 0 a0 := ⟨_, rfl⟩
   have HX := Lib.hid (show X.length <= 36 /\ tot X <= 72 by rw [hX]; exact zkX _ _)
   obtain ⟨G, hG⟩ : ∃ G, G = zJ (fs ++ X) := ⟨_, rfl⟩
   have HGB := Lib.hid (show G.length <= 44 /\ tot G <= 96 from by
    have h1 := zb5 (fs ++ X)
    have h2 := HX.out
    rw [hG]
    rw [List.length_append, zcw] at h1
    omega)
   have HGL := Lib.hid (show zcp p G = true by
    rw [hG, hX, ha0]
    exact zo7 HLOK.out (zkW (by omega)))
   have HFG := Lib.hid (show ∀ f ∈ fs, f ∈ G from fun f hf => by
    rw [hG, zS]
    exact List.mem_append_left _ hf)
   obtain ⟨M, hM⟩ : ∃ M, M = zaA p G := ⟨_, rfl⟩
   have HMF := Lib.hid (show M.length <= 1536 /\ tot M <= 3072 by rw [hM]; exact zf9 p G)
   have HN1 := Lib.hid (show zdi p L = true by rw [HL.out]; exact zjx HLOK.out)
   have HN2 := Lib.hid (show zaY fs L false = [] by rw [HL.out]; exact zha (zmw HLOK.out))
   have HN3 := Lib.hid (show zaY L M false = [] by rw [HL.out, hM]; exact zha (zlt HLOK.out HGL.out HFG.out))
   have HN4 := Lib.hid (show zaA p L = L by rw [HL.out]; exact zkz HLOK.out)
   have CA := Lib.hid (fun W => zhj 0 a0 W)
   rw [<- hX] at CA
   have CE := Lib.hid (fun W (u : Value) (hW : Below w2.heap.size w2 W) (hu : zt W W.heap.size u X) => zfQ (.slice Af fs.length cf) u fs X W (HFS.out _ hW) hu (by have := HX.out; omega) (by have := HX.out; omega))
   rw [<- hG] at CE
   have CM := Lib.hid (fun W (u : Value) (hW : Below w2.heap.size w2 W) (hu : zt W W.heap.size u G) => zep (.agg #[.slice (some ⟨ba, oa, none⟩) p.1.length c, .slice A2 p.2.length c2]) u p G W (HPR.out _ hW) hu HSZ.out (by have := HGB.out; omega) (by have := HGB.out; omega) (HTT.out _ hW))
   rw [<- hM] at CM
   clear hST hX hG hM ha0 ea
   refine zC ST 9 10 (by kernel_rfl) rfl ?_
   have B14d := Lib.hid (zf B14.out (Below.refl _ w14).drew)
   have BB14d := Lib.hid (zf BB14.out (Below.refl _ w14).drew)
   obtain ⟨wz, hwz⟩ : ∃ wz, wz = w14.drew := ⟨_, rfl⟩
   rw [<- hwz] at B14d BB14d ⊢
   clear hwz
   have T0 := HC2.out _ B14d.out
   refine za (i := 1) (oi := _) ?vd1 rfl rfl (by kernel_rfl) (by decide) (fun _ _ _ h => h) rfl ?hyd1 (fun _ => T0) ?restd1
   case hyd1 => (intro W; go_simp; (try with_reducible rfl))
   try simp only [zs.a, zs.b, zs.c]
   refine za (i := 2) (oi := _) ?vd2 rfl rfl (by kernel_rfl) (by decide) (fun _ _ _ h => h) rfl ?hyd2 (fun _ => T0) ?restd2
   case hyd2 => (intro W; go_simp; (try with_reducible rfl))
   try simp only [zs.a, zs.b, zs.c]
   refine zk (i := 0) (oi := _) ?vd0 rfl rfl (by kernel_rfl) (fun _ _ _ h => h) rfl ?hyd0 T0 ?restd0
   case hyd0 => (intro W hW; obtain ⟨d0, d1, d2⟩ := HB.out W hW; go_simp; (try with_reducible rfl))
   try simp only [zs.a, zs.b, zs.c]
   refine zk (i := 3) (oi := _) ?vd3 rfl rfl (by kernel_rfl) (fun _ _ _ h => h) rfl ?hyd3 T0 ?restd3
   case hyd3 => (intro W hW; obtain ⟨d0, d1, d2⟩ := HB.out W hW; go_simp; (try with_reducible rfl))
   try simp only [zs.a, zs.b, zs.c]
   have hne : p.1 ≠ [] := fun h => by rw [h] at har4; simp at har4
   refine za (i := 4) (oi := _) (.pointer (some ⟨ba, oa, none⟩)) rfl rfl (by kernel_rfl) (by decide) (fun _ _ _ h => h) rfl ?hyd4 (fun _ => T0) ?restd4
   case hyd4 => (intro W; go_simp; (try simp); (try exact fun h => absurd h hne))
   try simp only [zs.a, zs.b, zs.c]
   refine zk (i := 5) (oi := _) ?vd5 rfl rfl (by kernel_rfl) (fun _ _ _ h => h) rfl ?hyd5 T0 ?restd5
   case hyd5 => (intro W hW; obtain ⟨d0, d1, d2⟩ := HB.out W hW; go_simp; (try with_reducible rfl))
   try simp only [zs.a, zs.b, zs.c]
   refine zh (i := 6) (by kernel_rfl) rfl (fun K hK => ?_)
   try rw [if_pos (show Region.wanted _ _ = true from rfl)]
   go_simp
   refine (CA.out _).mono ?_
   rintro e w15 ⟨A15, c15, rfl, o15, b15⟩
   have B15 := Lib.hid (zf B14d.out b15)
   have BB15 := Lib.hid (zf BB14d.out b15)
   have HX15 := Lib.hid o15.rd
   have T1 := HC2.out _ B15.out
   clear o15 b15
   refine hK.out _ _ (fun _ => T1) ?_
   clear hK K
   try simp only [zs.a, zs.b, zs.c, Act.put]
   refine zh (i := 7) (by kernel_rfl) rfl (fun K hK => ?_)
   try rw [if_pos (show Region.wanted _ _ = true from rfl)]
   go_simp
   refine (CE.out _ _ B15.out HX15.out).mono ?_
   rintro e w16 ⟨A16, c16, rfl, o16, b16⟩
   have B16 := Lib.hid (zf B15.out b16)
   have BB16 := Lib.hid (zf BB15.out b16)
   have HG16 := Lib.hid o16.rd
   have T2 := HC2.out _ B16.out
   clear o16 b16
   refine hK.out _ _ (fun _ => T2) ?_
   clear hK K
   try simp only [zs.a, zs.b, zs.c, Act.put]
   refine zh (i := 8) (by kernel_rfl) rfl (fun K hK => ?_)
   try rw [if_pos (show Region.wanted _ _ = true from rfl)]
   go_simp
   refine (CM.out _ _ B16.out HG16.out).mono ?_
   rintro e w17 ⟨A17, c17, rfl, o17, b17⟩
   have B17 := Lib.hid (zf B16.out b17)
   have BB17 := Lib.hid (zf BB16.out b17)
   have HM17 := Lib.hid o17.rd
   have T3 := HC2.out _ B17.out
   clear o17 b17
   refine hK.out _ _ (fun _ => T3) ?_
   clear hK K
   try simp only [zs.a, zs.b, zs.c, Act.put]
   refine zh (i := 9) (by kernel_rfl) rfl (fun K hK => ?_)
   go_simp
   refine hK.out _ _ (fun hf => absurd hf (by decide)) ?_
   clear hK K
   refine zK (by kernel_rfl) ?_
   obtain ⟨x0, x1⟩ := HBX.out _ B17.out
   have HL17 := Lib.hid (HL3.out.on BB17.out)
   have CC := Lib.hid (zfu _ _ p L w17 (HPR.out _ B17.out) HL17.out HSZ.out (by omega) (by have := HLF.out.2; omega))
   rw [HN1.out] at CC
   go_wp2_with (go_at_call 14; refine CC.out.mono ?_; rintro e w18 ⟨rfl, b18⟩
                have B18 := Lib.hid (zf B17.out b18)
                have BB18 := Lib.hid b18
                clear b18)
   have CF := zej (.slice Af fs.length cf) (.slice A3 L.length c3) fs L w18 (HFS.out _ B18.out) (HL17.out.on BB18.out) (by omega) (by have := HLF.out.2; omega)
   rw [HN2.out] at CF
   refine CF.mono ?_
   rintro e w19 ⟨A19, c19, rfl, _, b19⟩
   have B19 := Lib.hid (zf B18.out b19)
   have BB19 := Lib.hid (zf BB18.out b19)
   clear b19 CF
   go_wp2_with (fail)
   have CF := zej (.slice A3 L.length c3) (.slice A17 M.length c17) L M w19 (HL17.out.on BB19.out) (HM17.out.on BB19.out) (by have := HMF.out.1; omega) (by have := HLF.out.2; have := HMF.out.2; omega)
   rw [HN3.out] at CF
   refine CF.mono ?_
   rintro e w20 ⟨A20, c20, rfl, _, b20⟩
   have B20 := Lib.hid (zf B19.out b20)
   have BB20 := Lib.hid (zf BB19.out b20)
   obtain ⟨y0, y1⟩ := HBX.out _ B20.out
   clear b20 CF x0 x1
   have CQ := Lib.hid (zep _ _ p L w20 (HPR.out _ B20.out) (HL17.out.on BB20.out) HSZ.out (by omega) (by have := HLF.out.2; omega) (HTT.out _ B20.out))
   rw [HN4.out] at CQ
   go_wp2_with (first
    | (go_at_call 7; refine CQ.out.mono ?_; rintro e w21 ⟨A21, c21, rfl, o21, b21⟩
       have B21 := Lib.hid (zf B20.out b21)
       have BB21 := Lib.hid (zf BB20.out b21)
       have HQ21 := Lib.hid o21.rd
       clear o21 b21)
    | (go_at_call 8; refine (zhz (.slice A21 L.length c21) (.slice A3 L.length c3) L w21 HQ21.out (HL17.out.on BB21.out) (by omega) (by have := HLF.out.2; omega)).mono ?_
       rintro e w22 ⟨rfl, b22⟩
       have B22 := Lib.hid (zf B21.out b22)
       clear b22))
   go_ret
   exact ⟨rfl, zf B2.out B22.out⟩
theorem zhf (v : Value) (bs : List Nat) (w : World) (h : znm w v bs) (hT : Tab w) : Calls Tryz.prog 3 #[v] w fun e w' => e = .returned (.bool true) /\ Below w.heap.size w w' :=
 zgA v bs w h.1 h.2.1 h.2.2 hT
open Go.ChangeShapes Go.WideShapes Go.ChangeAt Go.RowKit
theorem fnLeast_lifted (os : Os) (started : os.Started) (H : Type) (enc : TypeId × Value -> H) :
 ReturnsInHanded {} Tryz.checked os 3 .any (fun w args => (Rows.fnLeastSpec.pre enc Tryz.prog Tryz.f3 [] false w args /\ laidMetH Tryz.prog zdL w) /\ sizedMet enc Tryz.prog Tryz.f3 (OpenSpec.ofChange Rows.fnLeastSpec) false w args) (Rows.fnLeastSpec.post enc Tryz.prog Tryz.f3 false true false false) := by
 refine returnsInHanded_of_change_and (C := Tryz.checked) (X := fun w _ => laidMetH Tryz.prog zdL w) (fun _ _ _ hh h => h.of_heap hh) Tryz.own started (by kernel_rfl) Tryz.func3
  (ChangeSpec.witness_shaped (enc := enc) (C := Tryz.checked) (os := os) (X := fun w _ => laidMetH Tryz.prog zdL w) false (World.laidAll Tryz.prog os zdL) #[.slice none 0 0] 8 (World.laidAll_os _ _ _)
    (World.shaped_of_ZipB (by kernel_rfl) (by kernel_rfl)) (by kernel_rfl) (by kernel_rfl) (by kernel_rfl)
    (by rw [MakeChecks.laidMetH_plain _ _ _ (by kernel_rfl)]; exact laidMet_laidAll _ (by kernel_rfl) (by kernel_rfl))) ?_
 intro W base args ds gs before hval0 hW _ _ hL _
 have hval : ∀ (j : Nat) t v, Tryz.f3.params[j]? = some t -> args[j]? = some v -> Value.okWide Tryz.prog W .any base t v := hval0
 have hW' := hW
 obtain ⟨p, q, hA0, hV, rfl, hfz, hnd⟩ := hW
 have hA : DataW.TrodAll enc Tryz.prog W 0 (fun _ => true) true Tryz.f3.params.toList args.toList ds p := hA0
 rw [Tryz.params3] at hA hval
 obtain ⟨v0, vs0, d0, ds0, p0, q0, hargs, rfl, rfl, h0, r0⟩ := trodAll_cons hA
 obtain ⟨rfl, rfl, rfl⟩ := trodAll_nil r0
 obtain rfl : args = #[v0] := by cases args; simp_all
 obtain ⟨rfl, rfl⟩ := trodVars_none hV
 have lt0 : ∀ x ∈ p0, x.block < W.heap.size := by obtain ⟨m, hm⟩ := h0; exact DataW.trod_lt m _ _ _ hm
 obtain ⟨x0, w0⟩ := zkt (hval 0 22 v0 rfl rfl) h0
 clear hA0 hval0
 refine (zhf v0 x0 W w0 (zkg hL)).mono fun e W' ⟨he, bel⟩ => ?_
 subst he
 exact ⟨_, rfl, _, _, _, [], _, [], hW', trodAll_mk1 (shut_bool Tryz.underlying4 _), (trodAll_cons_mk (Below.trod Tryz.laidOut (by kernel_rfl) (of_decide_eq_true (by kernel_rfl)) h0 bel lt0) trodAll_mk0), rfl, bel.frame _, fun h => by cases h⟩
open Go.ChangeShapes Go.WideShapes Go.ChangeAt Go.RowKit
theorem fnLeast_holds : Rows.FnLeastSaid :=
 OpenClaim.holds_of_wide 3 Tryz.f3 rfl rfl rfl rfl rfl rfl rfl ⟨rfl, rfl, rfl, rfl, rfl⟩ rfl rfl rfl rfl rfl (by kernel_rfl) Tryz.func3 fnLeast_joined
  (of_decide_eq_true (by kernel_rfl)) (by unfold Func.isWrapper; rw [if_neg (of_decide_eq_false (by kernel_rfl))]; exact ⟨rfl, rfl⟩)
  (fun os started H enc _ => fnLeast_lifted os started H enc)
open Go.ChangeShapes Go.WideShapes Go.ChangeAt Go.RowKit
theorem fnLeastCard_holds : Rows.FnLeastCardSaid :=
 Claim7.holds_tied_plain_at .later [] [.data] true (true, "a898150b3e57ef69710a9ceff96c21c6d3d59c749694ace518ff4bc4186d9c87") false fnLeast_holds (fun _ h => by cases h) (by kernel_rfl) (fun _ h => by cases h) fnLeast_row_tie rfl ⟨rfl, rfl⟩ jf_main rfl
  (fun f fn hf hfn => by
    obtain rfl : f = 3 := Option.some.inj ((show Tryz.prog.funcNamed "loop.example/wholerules/laws.FnLeast" = some 3 by kernel_rfl).symm.trans hf) |>.symm
    obtain rfl : fn = Tryz.f3 := (Option.some.inj (Tryz.func3.symm.trans hfn)).symm
    exact ⟨jf_looks, fun j t ht => by
     rw [Tryz.params3] at ht
     have hm : t ∈ [22] := by simpa using Array.mem_of_getElem? ht
     have hall : ([22].all fun u => !Tryz.prog.wantsStandIn u) = true := by kernel_rfl
     exact (show Tryz.prog.wantsStandIn t = false by simpa using List.all_eq_true.1 hall t hm)⟩)
  fnLeast_goes
end Go.Proofs.YtofkcmihcgmmpaaGreatDoor
