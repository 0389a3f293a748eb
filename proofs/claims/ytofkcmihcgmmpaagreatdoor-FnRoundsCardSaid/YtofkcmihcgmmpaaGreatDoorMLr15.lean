/-
  Texts that the claim's last one imports, laid together: part 15 of 16. No condition of its own.
-/
import Derived.Test.YtofkcmihcgmmpaaGreatDoorMLr1
import Derived.Test.YtofkcmihcgmmpaaGreatDoorMLr2
import Derived.Test.YtofkcmihcgmmpaaGreatDoorMLr4
import Derived.Test.YtofkcmihcgmmpaaGreatDoorMLr6
import Derived.Test.YtofkcmihcgmmpaaGreatDoorMLr7
import Derived.Test.YtofkcmihcgmmpaaGreatDoorMLr10
import Derived.Test.YtofkcmihcgmmpaaGreatDoorMLr11
import Derived.Test.YtofkcmihcgmmpaaGreatDoorMLr12
import Derived.Test.YtofkcmihcgmmpaaGreatDoorMLr13
import Derived.Test.YtofkcmihcgmmpaaGreatDoorMLr14
namespace Go.Proofs.YtofkcmihcgmmpaaGreatDoor
set_option maxRecDepth 100000
open Go.RowKit
theorem zn1 {w w1 W : World} {a b : Value} (hx : Blk w1 w.heap.size 26 #[.slice none 0 0, .slice none 0 0]) (hb : Below w.heap.size w w1) (hW : W = (w1.setCell ⟨w.heap.size, 0, none⟩ a).setCell ⟨w.heap.size, 1, none⟩ b) :
 (W.cell? ⟨w.heap.size, 0, none⟩ = some a /\ W.cell? ⟨w.heap.size, 1, none⟩ = some b) /\ zl w.heap.size (w.heap.size + 1) w1 W /\ w1.heap.size = W.heap.size /\ Below w.heap.size w W := by
 have hbk := (hx.set_ 0 a).set_ 1 b
 rw [<- hW] at hbk
 refine ⟨⟨by rw [hbk.cell 0]; simp, by rw [hbk.cell 1]; simp⟩, ?_, by rw [hW]; simp, by rw [hW]; exact (hb.setCell (Nat.le_refl _) _).setCell (Nat.le_refl _) _⟩
 rw [hW]
 exact ((zl.refl _ _ _).setCell (p := ⟨w.heap.size, 0, none⟩) ⟨Nat.le_refl _, Nat.lt_succ_self _⟩ _).setCell (p := ⟨w.heap.size, 1, none⟩) ⟨Nat.le_refl _, Nat.lt_succ_self _⟩ _
theorem zaE.only {lo g : Nat} {w1 W : World} {u : Value} {p : zal} (h : zaE lo w1 u p) (ho : zl g (g + 1) w1 W) (hg : g < lo) : zaE lo W u p := h.keep ho.size fun k k1 k2 => ho.block k k2 (.inr (by omega))
theorem zaE.on {lo : Nat} {w1 W : World} {u : Value} {p : zal} (h : zaE lo w1 u p) (hb : Below w1.heap.size w1 W) : zaE lo W u p := h.keep hb.size fun k _ k2 => hb.block k k2
theorem zaE.prog {lo : Nat} {w1 : World} {u : Value} {p : zal} (h : zaE lo w1 u p) : zb7 w1 w1.heap.size u p := by
 obtain ⟨A, A2, c, c2, rfl, h1, h2⟩ := h.rd
 exact ⟨_, _, rfl, h1, h2⟩
set_option maxHeartbeats 4000000 in
theorem zi3 (v : Value) (code : List Nat) (w : World) (h : zbN w w.heap.size v code) (hby : ∀ b ∈ code, b < 256) (hn : code.length <= 1073741824) :
 Calls Tryz.prog 29 #[v] w fun e w' => ∃ (u : Value) (p : zal) (Af : Option Addr) (cf : Nat) (fs : List zd), e = .returned (.tuple #[u, .slice Af fs.length cf]) /\ zaE w.heap.size w' u p /\ zq w' w.heap.size w'.heap.size (.slice Af fs.length cf) fs /\ fs.length <= 8 /\ tot fs <= 24 /\ Below w.heap.size w w' := by
 have HV := Lib.hid h
 obtain ⟨Av, cv, rfl, hcv, _⟩ := h
 go_enter Tryz.func29, Tryz.ntmps29
 go_upto_region 1 with fail
 obtain ⟨w0, hw0⟩ : ∃ w0, w0 = w.alloc (Obj.cells #[Value.slice none 0 0, Value.slice none 0 0] 26) := ⟨_, rfl⟩
 have HRA := Lib.hid (show Blk w0 w.heap.size 26 #[.slice none 0 0, .slice none 0 0] by rw [hw0]; exact Blk.new _ _ _)
 have HB0 := Lib.hid (show Below w.heap.size w w0 by rw [hw0]; exact ze _ _)
 have HS0 := Lib.hid (show w0.heap.size = w.heap.size + 1 by rw [hw0]; simp)
 rw [<- hw0]
 clear hw0
 by_cases h9 : code.length % 9 = 0
 ·have hb9 : ((code.length : Int) % 9 == 0) = true := by rw [beq_iff_eq]; omega
  go_wp2_with (go_at_call 40; refine (ziI _ code 1 w0 (HV.out.onM HB0.out) hby hn).mono ?_
               rintro e w1 ⟨u, p, Af, cf, fs, rfl, hd, hf, hf1, hf2, hb1⟩
               obtain ⟨A, Ar, c, cr, B, es, rfl, e2, e3⟩ := hd
               have HD := Lib.hid (And.intro e2 e3)
               have HF := Lib.hid (And.intro hf (And.intro hf1 hf2))
               have HB1 := Lib.hid hb1
               have HRA1 := Lib.hid (HRA.out.below hb1 HRA.out.lt)
               have j0 : w1.cell? ⟨w.heap.size, 0, none⟩ = some (.slice none 0 0) := HRA1.out.cell 0
               have j1 : w1.cell? ⟨w.heap.size, 1, none⟩ = some (.slice none 0 0) := HRA1.out.cell 1
               have l0 := HRA1.out.frozen 0
               have l1 := HRA1.out.frozen 1
               clear e2 e3 hb1 hf hf1 hf2)
  obtain ⟨W, hW⟩ : ∃ W, W = (w1.setCell ⟨w.heap.size, 0, none⟩ (.slice A p.1.length c)).setCell ⟨w.heap.size, 1, none⟩ (.slice Ar es.length cr) := ⟨_, rfl⟩
  rw [<- hW]
  obtain ⟨⟨d0, d1⟩, hoW, hsz, hBW⟩ := zn1 HRA1.out (zf HB0.out HB1.out) hW
  have hs := HS0.out
  refine bodyPost_ret (v := .tuple #[.agg #[.slice A p.1.length c, .slice Ar es.length cr], .slice Af fs.length cf]) (by simp [results, Tryz.results29, go_sem, d0, d1]) rfl ?_
  exact ⟨_, p, Af, cf, fs, rfl, ((show zaE w0.heap.size w1 _ p from ⟨A, Ar, c, cr, B, es, rfl, HD.out.1, HD.out.2⟩).only hoW (by omega)).mono (by omega), (HF.out.1.only hoW (.inr (by omega))).mono (by omega) (Nat.le_of_eq hsz), HF.out.2.1, HF.out.2.2, hBW⟩
 ·have hb9 : ((code.length : Int) % 9 == 0) = false := by rw [beq_eq_false_iff_ne]; omega
  go_wp2_with (go_at_call 40; refine (ziI _ code 0 w0 (HV.out.onM HB0.out) hby hn).mono ?_
               rintro e w1 ⟨u, p, Af, cf, fs, rfl, hd, hf, hf1, hf2, hb1⟩
               obtain ⟨A, Ar, c, cr, B, es, rfl, e2, e3⟩ := hd
               have HD := Lib.hid (And.intro e2 e3)
               have HF := Lib.hid (And.intro hf (And.intro hf1 hf2))
               have HB1 := Lib.hid hb1
               have HRA1 := Lib.hid (HRA.out.below hb1 HRA.out.lt)
               have j0 : w1.cell? ⟨w.heap.size, 0, none⟩ = some (.slice none 0 0) := HRA1.out.cell 0
               have j1 : w1.cell? ⟨w.heap.size, 1, none⟩ = some (.slice none 0 0) := HRA1.out.cell 1
               have l0 := HRA1.out.frozen 0
               have l1 := HRA1.out.frozen 1
               clear e2 e3 hb1 hf hf1 hf2)
  obtain ⟨W, hW⟩ : ∃ W, W = (w1.setCell ⟨w.heap.size, 0, none⟩ (.slice A p.1.length c)).setCell ⟨w.heap.size, 1, none⟩ (.slice Ar es.length cr) := ⟨_, rfl⟩
  rw [<- hW]
  obtain ⟨⟨d0, d1⟩, hoW, hsz, hBW⟩ := zn1 HRA1.out (zf HB0.out HB1.out) hW
  have hs := HS0.out
  refine bodyPost_ret (v := .tuple #[.agg #[.slice A p.1.length c, .slice Ar es.length cr], .slice Af fs.length cf]) (by simp [results, Tryz.results29, go_sem, d0, d1]) rfl ?_
  exact ⟨_, p, Af, cf, fs, rfl, ((show zaE w0.heap.size w1 _ p from ⟨A, Ar, c, cr, B, es, rfl, HD.out.1, HD.out.2⟩).only hoW (by omega)).mono (by omega), (HF.out.1.only hoW (.inr (by omega))).mono (by omega) (Nat.le_of_eq hsz), HF.out.2.1, HF.out.2.2, hBW⟩
open Go.RowKit
theorem zmO {w w1 W : World} {a b x y : Value} (hx : Blk w1 w.heap.size 26 #[.slice none 0 0, .slice none 0 0]) (hy : Blk w1 (w.heap.size + 1) 39 #[.int .i64 0, .slice none 0 0]) (hb : Below w.heap.size w w1)
 (hW : W = (((w1.setCell ⟨w.heap.size, 0, none⟩ a).setCell ⟨w.heap.size, 1, none⟩ b).setCell ⟨w.heap.size + 1, 0, none⟩ x).setCell ⟨w.heap.size + 1, 1, none⟩ y) :
 (W.cell? ⟨w.heap.size, 0, none⟩ = some a /\ W.cell? ⟨w.heap.size, 1, none⟩ = some b /\ W.cell? ⟨w.heap.size + 1, 0, none⟩ = some x /\ W.cell? ⟨w.heap.size + 1, 1, none⟩ = some y) /\ zl w.heap.size (w.heap.size + 2) w1 W /\ w1.heap.size = W.heap.size /\ Below w.heap.size w W := by
 have hb1 := (((hx.set_ 0 a).set_ 1 b).far (p := ⟨w.heap.size + 1, 0, none⟩) (by show w.heap.size ≠ w.heap.size + 1; omega) x).far (p := ⟨w.heap.size + 1, 1, none⟩) (by show w.heap.size ≠ w.heap.size + 1; omega) y
 have hb2 := (((hy.far (p := ⟨w.heap.size, 0, none⟩) (by show w.heap.size + 1 ≠ w.heap.size; omega) a).far (p := ⟨w.heap.size, 1, none⟩) (by show w.heap.size + 1 ≠ w.heap.size; omega) b).set_ 0 x).set_ 1 y
 rw [<- hW] at hb1 hb2
 refine ⟨⟨by rw [hb1.cell 0]; simp, by rw [hb1.cell 1]; simp, by rw [hb2.cell 0]; simp, by rw [hb2.cell 1]; simp⟩, ?_, by rw [hW]; simp, by rw [hW]; exact (((hb.setCell (Nat.le_refl _) _).setCell (Nat.le_refl _) _).setCell (Nat.le_succ _) _).setCell (Nat.le_succ _) _⟩
 rw [hW]
 exact ((((zl.refl _ _ _).setCell (p := ⟨w.heap.size, 0, none⟩) ⟨Nat.le_refl _, by show w.heap.size < w.heap.size + 2; omega⟩ _).setCell (p := ⟨w.heap.size, 1, none⟩) ⟨Nat.le_refl _, by show w.heap.size < w.heap.size + 2; omega⟩ _).setCell (p := ⟨w.heap.size + 1, 0, none⟩) ⟨Nat.le_succ _, by show w.heap.size + 1 < w.heap.size + 2; omega⟩ _).setCell (p := ⟨w.heap.size + 1, 1, none⟩) ⟨Nat.le_succ _, by show w.heap.size + 1 < w.heap.size + 2; omega⟩ _
theorem zaE.only2 {lo g h : Nat} {w1 W : World} {u : Value} {p : zal} (hp : zaE lo w1 u p) (ho : zl g h w1 W) (hg : h <= lo) : zaE lo W u p := hp.keep ho.size fun k k1 k2 => ho.block k k2 (.inr (by omega))
set_option maxHeartbeats 4000000 in
theorem zid (v : Value) (code : List Nat) (w : World) (h : zbN w w.heap.size v code) (hby : ∀ b ∈ code, b < 256) (hn : code.length <= 1073741824) :
 Calls Tryz.prog 19 #[v] w fun e w' => ∃ (u : Value) (p : zal) (Af : Option Addr) (cf : Nat) (fs : List zd) (A9 : Option Addr) (c9 : Nat) (f : zd), e = .returned (.tuple #[u, .slice Af fs.length cf, .agg #[.int .i64 f.1, .slice A9 f.2.length c9]]) /\ zaE w.heap.size w' u p /\ zu w' w'.heap.size (.slice Af fs.length cf) fs /\
  zv w' w'.heap.size (.slice A9 f.2.length c9) f.2 /\ f.2.length <= 3072 /\ (fs.length <= 8 /\ tot fs <= 24) /\ Below w.heap.size w w' := by
 have HV := Lib.hid h
 clear h
 go_enter Tryz.func19, Tryz.ntmps19
 go_upto_region 1 with fail
 obtain ⟨w0, hw0⟩ : ∃ w0, w0 = (w.alloc (Obj.cells #[Value.slice none 0 0, Value.slice none 0 0] 26)).alloc (Obj.cells #[Value.int .i64 0, Value.slice none 0 0] 39) := ⟨_, rfl⟩
 have HRA := Lib.hid (show Blk w0 w.heap.size 26 #[.slice none 0 0, .slice none 0 0] by rw [hw0]; exact (Blk.new _ _ _).alloc _)
 have HRF := Lib.hid (show Blk w0 (w.heap.size + 1) 39 #[.int .i64 0, .slice none 0 0] by rw [hw0]; simpa using Blk.new (w.alloc (Obj.cells #[Value.slice none 0 0, Value.slice none 0 0] 26)) 39 #[.int .i64 0, .slice none 0 0])
 have HB0 := Lib.hid (show Below w.heap.size w w0 by rw [hw0]; exact za0 _ _ _)
 have HS0 := Lib.hid (show w0.heap.size = w.heap.size + 2 by rw [hw0]; simp)
 rw [<- hw0]
 clear hw0
 go_upto_region 2 with (go_at_call 29; refine (zi3 _ code w0 (HV.out.onM HB0.out) hby hn).mono ?_
                        rintro e w1 ⟨u, p, Af, cf, fs, rfl, hd, hf, hf1, hf2, hb1⟩
                        have hsz := hd.sz
                        obtain ⟨A, Ar, c, cr, B, es, rfl, e2, e3⟩ := hd
                        have HD := Lib.hid (show zaE w0.heap.size w1 (.agg #[.slice A p.1.length c, .slice Ar es.length cr]) p from ⟨A, Ar, c, cr, B, es, rfl, e2, e3⟩)
                        have HF := Lib.hid (And.intro hf (And.intro hf1 hf2))
                        have HB1 := Lib.hid hb1
                        clear e2 e3 hb1 hf)
 obtain ⟨w2, hw2⟩ : ∃ w2, w2 = w1.alloc (Obj.cells #[Value.slice A p.1.length c, Value.slice Ar es.length cr] 26) := ⟨_, rfl⟩
 have b2 : Below w1.heap.size w1 w2 := by rw [hw2]; exact ze _ _
 have BX : Blk w2 w1.heap.size 26 #[.slice A p.1.length c, .slice Ar es.length cr] := by rw [hw2]; exact Blk.new _ _ _
 rw [<- hw2]
 clear hw2
 have HB12 := Lib.hid b2
 obtain ⟨D, hD⟩ : ∃ D, D = w1.heap.size := ⟨_, rfl⟩
 rw [<- hD] at BX ⊢
 have hDw : w1.heap.size <= D := by omega
 have hDl := BX.lt
 have hD0 : w0.heap.size <= D := by rw [hD]; exact HB1.out.size
 clear hD
 have HB2 := Lib.hid (zf HB1.out b2)
 obtain ⟨g, hg⟩ : ∃ g, g = w2.heap.size := ⟨_, rfl⟩
 go_upto_region 3 with (go_at_call 52; refine (zhR _ code w2 (HV.out.onM (zf HB0.out HB2.out)) hby hn).mono ?_
                        rintro e w3 ⟨rfl, hr3, hb3⟩
                        rw [<- hg] at hr3 ⊢
                        have hg3 : g < w3.heap.size := hr3.lt
                        have hDg : D < g := by omega
                        have HB3 := Lib.hid hb3
                        have HR3 := Lib.hid hr3
                        obtain ⟨bs, hbs⟩ : ∃ bs, bs = code.take 2000 := ⟨_, rfl⟩
                        rw [<- hbs] at HR3
                        clear hb3 hr3 hbs hg)
 have HB03 := Lib.hid (zf HB2.out HB3.out)
 have HBX := Lib.hid (show ∀ W, zl g (g + 1) w3 W -> W.cell? ⟨D, 0, none⟩ = some (.slice A p.1.length c) /\ W.cell? ⟨D, 1, none⟩ = some (.slice Ar es.length cr) from fun W hW => ⟨(hW.blk (BX.below HB3.out hDl) (by omega)).cell 0, (hW.blk (BX.below HB3.out hDl) (by omega)).cell 1⟩)
 have HD3 := Lib.hid (show zaE w0.heap.size w3 (.agg #[.slice A p.1.length c, .slice Ar es.length cr]) p from (HD.out.on (zf b2 HB3.out)))
 have HF3 := Lib.hid (show zq w3 w0.heap.size w1.heap.size (.slice Af fs.length cf) fs from HF.out.1.below (zf b2 HB3.out) (Nat.le_refl _))
 obtain ⟨L, hL⟩ : ∃ L, L = zel p fs := ⟨_, rfl⟩
 have HLF := Lib.hid (show L.length <= 1536 /\ tot L <= 3072 by rw [hL]; exact zmf p fs)
 have hll := HLF.out.1
 have hf1 := HF.out.2.1
 have hf2 := HF.out.2.2
 have hs3 := HB3.out.size
 have CL := Lib.hid (zjl (.agg #[.slice A p.1.length c, .slice Ar es.length cr]) (.slice Af fs.length cf) p fs w3 HD3.out.prog (HF3.out.rd.more (by omega)) (by omega) (by omega) (by omega))
 rw [<- hL] at CL
 clear hL BX b2 hsz
 obtain ⟨x0, x1⟩ := HBX.out _ (zl.refl _ _ _)
 go_upto_region 4 with (go_at_call 9; refine CL.out.mono ?_
                        rintro e w4 ⟨A4, c4, rfl, o4, b4⟩
                        obtain ⟨av, hav, hrow, hrl⟩ := o4
                        have HAV := Lib.hid hav
                        have HRW := Lib.hid hrow
                        have HB4 := Lib.hid b4
                        clear b4 hav hrow hrl)
 clear x0 x1
 have HR4 := Lib.hid (HR3.out.below HB4.out hg3)
 have HO4 := Lib.hid (show zl g (g + 1) w3 w4 from zl.of_below HB4.out)
 have hs4 := HB4.out.size
 have hal : av.length = L.length := by simpa using HAV.out.len
 have HAL := Lib.hid hal
 have HB14 := Lib.hid (show Below w1.heap.size w1 w4 from zf HB12.out (zf HB3.out HB4.out))
 have HEND := Lib.hid (show ∀ W, zl g (g + 1) w4 W -> Below w.heap.size w W /\ Blk W w.heap.size 26 #[.slice none 0 0, .slice none 0 0] /\ Blk W (w.heap.size + 1) 39 #[.int .i64 0, .slice none 0 0] /\ zaE w0.heap.size W (.agg #[.slice A p.1.length c, .slice Ar es.length cr]) p /\ zq W w0.heap.size w1.heap.size (.slice Af fs.length cf) fs from fun W hW => by
  have hs0 := HS0.out
  have hs14 := HB14.out.size
  have b04 := zf HB03.out HB4.out
  exact ⟨zl.then_ (zf HB0.out b04) hW (by omega), hW.blk (HRA.out.below b04 HRA.out.lt) (.inl (by omega)), hW.blk (HRF.out.below b04 HRF.out.lt) (.inl (by omega)), HD.out.keep (Nat.le_trans hs14 hW.size) fun k k1 k2 => (hW.block k (by omega) (.inl (by omega))).trans (HB14.out.block k k2), (HF.out.1.below HB14.out (Nat.le_refl _)).only hW (.inl (by omega))⟩)
 go_cut [26] (fun s wx => ∃ (y : Bool) (q2 : Nat), s = .bool y /\ (y = true -> 0 < L.length) /\ Rdr wx g bs q2 /\ q2 <= 1 /\ zl g (g + 1) w4 wx)
 case first =>
  by_cases hL0 : 0 < L.length
  ·have hLb : decide ((0 : Int) < (L.length : Int)) = true := by simp; omega
   go_wp2_with (go_at_call 53; refine (zak g bs 0 4 w4 HR4.out (by omega) (by omega)).mono ?_
                rintro e w5 ⟨⟨x, rfl, _⟩, hpk⟩
                have HPK := Lib.hid hpk
                clear hpk)
   go_meet
   exact ⟨_, 1, rfl, fun _ => hL0, HPK.out.1, Nat.le_refl _, HPK.out.2⟩
  ·have hLb : decide ((0 : Int) < (L.length : Int)) = false := by rw [decide_eq_false_iff_not]; omega
   go_wp2_with (fail)
   go_meet
   exact ⟨false, 0, rfl, (fun h => by cases h), HR4.out, Nat.zero_le _, zl.refl _ _ _⟩
 case rest =>
 obtain ⟨y, q2, rfl, hy, hr5, hq5, ho5⟩ := hcut
 rename World => w5
 have HY := Lib.hid hy
 have H5 := Lib.hid (And.intro hr5 ho5)
 clear hy hr5 ho5
 have HBW := Lib.hid (show ∀ W, zl g (g + 1) w4 W -> W.cell? ⟨D, 0, none⟩ = some (.slice A p.1.length c) /\ W.cell? ⟨D, 1, none⟩ = some (.slice Ar es.length cr) from fun W hW => HBX.out W (HO4.out.trans hW))
 cases y
 ·obtain ⟨x0, x1⟩ := HBW.out _ H5.out.2
  obtain ⟨b0, r0, f0, dp, df⟩ := HEND.out _ H5.out.2
  have HJ := Lib.hid (And.intro b0 (And.intro r0 (And.intro f0 (And.intro dp df))))
  have hw5a := r0.lt
  have hw5b := f0.lt
  have j0 : (w5.alloc (.cells #[.int .i64 1, .int .i64 2] 3)).cell? ⟨w.heap.size, 0, none⟩ = some (.slice none 0 0) := (r0.alloc _).cell 0
  have j1 : (w5.alloc (.cells #[.int .i64 1, .int .i64 2] 3)).cell? ⟨w.heap.size, 1, none⟩ = some (.slice none 0 0) := (r0.alloc _).cell 1
  have j2 : (w5.alloc (.cells #[.int .i64 1, .int .i64 2] 3)).cell? ⟨w.heap.size + 1, 0, none⟩ = some (.int .i64 0) := (f0.alloc _).cell 0
  have j3 : (w5.alloc (.cells #[.int .i64 1, .int .i64 2] 3)).cell? ⟨w.heap.size + 1, 1, none⟩ = some (.slice none 0 0) := (f0.alloc _).cell 1
  have i0 : w5.cell? ⟨w.heap.size, 0, none⟩ = some (.slice none 0 0) := r0.cell 0
  have i1 : w5.cell? ⟨w.heap.size, 1, none⟩ = some (.slice none 0 0) := r0.cell 1
  have i2 : w5.cell? ⟨w.heap.size + 1, 0, none⟩ = some (.int .i64 0) := f0.cell 0
  have i3 : w5.cell? ⟨w.heap.size + 1, 1, none⟩ = some (.slice none 0 0) := f0.cell 1
  have l0 := r0.frozen 0
  have l1 := r0.frozen 1
  have l2 := f0.frozen 0
  have l3 := f0.frozen 1
  clear b0 r0 f0 dp df
  go_wp2_with (fail)
  obtain ⟨W1, hW1⟩ : ∃ W1, W1 = (((w5.setCell ⟨w.heap.size, 0, none⟩ (.slice A p.1.length c)).setCell ⟨w.heap.size, 1, none⟩ (.slice Ar es.length cr)).setCell ⟨w.heap.size + 1, 0, none⟩ (.int .i64 2)).setCell ⟨w.heap.size + 1, 1, none⟩ (.slice (some ⟨w5.heap.size, 0, none⟩) 2 2) := ⟨_, rfl⟩
  rw [<- hW1]
  obtain ⟨b0, r0, f0, dp, df⟩ := HJ.out
  obtain ⟨⟨d0, d1, d2, d3⟩, hoW, hszW, hBW⟩ := zmO r0 f0 b0 hW1
  obtain ⟨W, hW⟩ : ∃ W, W = W1.alloc (.cells #[.int .i64 1, .int .i64 2] 3) := ⟨_, rfl⟩
  have bW : Below W1.heap.size W1 W := by rw [hW]; exact ze _ _
  have hoI : zg W W1.heap.size (W1.heap.size + 1) (.slice (some ⟨W1.heap.size, 0, none⟩) 2 2) [1, 2] := by rw [hW]; exact zgs W1 _ 1 2 (Nat.le_refl _)
  have hsz2 : W.heap.size = W1.heap.size + 1 := by rw [hW]; simp
  rw [<- hW]
  clear hW hW1
  rw [hszW] at hw5a hw5b ⊢
  rw [hszW] at d3
  have e0 : W.cell? ⟨w.heap.size, 0, none⟩ = some (.slice A p.1.length c) := (bW.cell (p := ⟨w.heap.size, 0, none⟩) hw5a).trans d0
  have e1 : W.cell? ⟨w.heap.size, 1, none⟩ = some (.slice Ar es.length cr) := (bW.cell (p := ⟨w.heap.size, 1, none⟩) hw5a).trans d1
  have e2 : W.cell? ⟨w.heap.size + 1, 0, none⟩ = some (.int .i64 2) := (bW.cell (p := ⟨w.heap.size + 1, 0, none⟩) hw5b).trans d2
  have e3 : W.cell? ⟨w.heap.size + 1, 1, none⟩ = some (.slice (some ⟨W1.heap.size, 0, none⟩) 2 2) := (bW.cell (p := ⟨w.heap.size + 1, 1, none⟩) hw5b).trans d3
  have hs0 := HS0.out
  refine bodyPost_ret (v := .tuple #[.agg #[.slice A p.1.length c, .slice Ar es.length cr], .slice Af fs.length cf, .agg #[.int .i64 2, .slice (some ⟨W1.heap.size, 0, none⟩) 2 2]]) (by simp [results, Tryz.results19, go_sem, e0, e1, e2, e3]) rfl ?_
  refine ⟨_, p, Af, cf, fs, some ⟨W1.heap.size, 0, none⟩, 2, (2, [1, 2]), rfl, ((dp.only2 hoW (by omega)).on bW).mono (by omega), ?_, ?_, by decide, ⟨hf1, hf2⟩, zf hBW bW⟩
  ·exact ((df.only hoW (.inr (by omega))).rd.more (by have := HB14.out.size; have := H5.out.2.size; omega)).on bW
  ·exact hoI.rd.more (by omega)
 ·obtain ⟨gl, hgl, hgl2⟩ : ∃ gl, A4 = some ⟨gl, 0, none⟩ /\ w3.heap.size <= gl /\ gl < w4.heap.size := by
   obtain ⟨g2, cap, e, _⟩ := HRW.out.form (HY.out rfl)
   injection e with e1 _ _
   subst e1
   exact ⟨g2, rfl, (HRW.out.lt g2 rfl).1, (HRW.out.lt g2 rfl).2⟩
  subst hgl
  have hcells := @World.ownsRow.cells w4 w3.heap.size 39 2 _ L.length (zaP L av) HRW.out
  obtain ⟨SS, hSS⟩ : ∃ SS : World -> Prop, SS = (fun W => W.cell? ⟨D, 0, none⟩ = some (.slice A p.1.length c) /\ W.cell? ⟨D, 1, none⟩ = some (.slice Ar es.length cr) /\ ∀ i (_ : i < L.length), W.cell? ⟨gl, i * 2, none⟩ = some (.int .i64 L[i].1) /\ W.cell? ⟨gl, i * 2 + 1, none⟩ = some (av.getD i (.int .i64 0))) := ⟨_, rfl⟩
  have HB := Lib.hid (show ∀ W, SS W -> W.cell? ⟨D, 0, none⟩ = some (.slice A p.1.length c) /\ W.cell? ⟨D, 1, none⟩ = some (.slice Ar es.length cr) /\ ∀ i (_ : i < L.length), W.cell? ⟨gl, i * 2, none⟩ = some (.int .i64 L[i].1) /\ W.cell? ⟨gl, i * 2 + 1, none⟩ = some (av.getD i (.int .i64 0)) from by rw [hSS]; exact fun W hW => hW)
  have HC := Lib.hid (show ∀ W, zl g (g + 1) w4 W -> SS W from by
   rw [hSS]
   intro W hW
   have hk : ∀ j, W.cell? ⟨gl, j, none⟩ = w4.cell? ⟨gl, j, none⟩ := fun j => World.cell?_of_block (hW.block gl hgl2.2 (.inr (by omega)))
   refine ⟨(HBW.out W hW).1, (HBW.out W hW).2, fun i hi => ?_⟩
   rw [hk, hk]
   have hal := HAL.out
   have c0 := hcells (g := gl) rfl _ _ (zcM L av hal i hi (by omega)).1
   have c1 := hcells (g := gl) rfl _ _ (zcM L av hal i hi (by omega)).2
   rw [Go.WideShapes.add_plain, Nat.zero_add] at c0 c1
   refine ⟨c0, ?_⟩
   rw [c1]
   simp [show i < av.length by omega])
  clear hSS hcells
  have hL0 : 0 < L.length := HY.out rfl
  have hc4 : L.length <= c4 := by
   rcases HRW.out.2 with ⟨e, _⟩ | ⟨g2, cap, cur, e, _, _, h4, _⟩
   ·cases e
   ·injection e with _ _ e3
    omega
  go_upto_region 5 with (fail)
  refine zB SS 10 13 (by kernel_rfl) rfl ?_
  obtain ⟨wy, hwy⟩ : ∃ wy, wy = w5.drew := ⟨_, rfl⟩
  have HY5 := Lib.hid (show Rdr wy g bs q2 /\ zl g (g + 1) w4 wy by rw [hwy]; exact ⟨H5.out.1, ⟨H5.out.2.os, H5.out.2.tape, H5.out.2.output, H5.out.2.size, H5.out.2.block⟩⟩)
  rw [<- hwy]
  clear hwy
  have S0 := HC.out _ HY5.out.2
  refine za (i := 1) (oi := _) ?va1 rfl rfl (by kernel_rfl) (by decide) (fun _ _ _ h => h) rfl ?hya1 (fun _ => S0) ?resta1
  case hya1 => (intro W; go_simp; (try with_reducible rfl))
  try simp only [zs.a, zs.b, zs.c]
  refine za (i := 2) (oi := _) ?va2 rfl rfl (by kernel_rfl) (by decide) (fun _ _ _ h => h) rfl ?hya2 (fun _ => S0) ?resta2
  case hya2 => (intro W; go_simp; (try with_reducible rfl))
  try simp only [zs.a, zs.b, zs.c]
  refine za (i := 3) (oi := _) ?va3 rfl rfl (by kernel_rfl) (by decide) (fun _ _ _ h => h) rfl ?hya3 (fun _ => S0) ?resta3
  case hya3 => (intro W; go_simp; (try with_reducible rfl))
  try simp only [zs.a, zs.b, zs.c]
  refine za (i := 4) (oi := _) ?va4 rfl rfl (by kernel_rfl) (by decide) (fun _ _ _ h => h) rfl ?hya4 (fun _ => S0) ?resta4
  case hya4 => (intro W; go_simp; (try with_reducible rfl))
  try simp only [zs.a, zs.b, zs.c]
  refine zm (i := 0) (oi := _) ?va0 rfl rfl (by kernel_rfl) (fun _ _ _ h => h) rfl ?hya0 S0 ?resta0
  case hya0 => (intro W hW; obtain ⟨d0, d1, _⟩ := HB.out W hW; go_simp; (try with_reducible rfl))
  try simp only [zs.a, zs.b, zs.c]
  refine za (i := 5) (oi := _) ?va5 rfl rfl (by kernel_rfl) (by decide) (fun _ _ _ h => h) rfl ?hya5 (fun _ => S0) ?resta5
  case hya5 => (intro W; go_simp; (try with_reducible rfl))
  try simp only [zs.a, zs.b, zs.c]
  refine zh (i := 6) (by kernel_rfl) rfl (fun K hK => ?_)
  try rw [if_pos (show Region.wanted _ _ = true from rfl)]
  go_simp
  refine (zak g bs q2 (L.length : Int) wy HY5.out.1 (by omega) (by omega)).mono ?_
  rintro e w6 ⟨⟨x, rfl, hx⟩, hpk⟩
  have hxr := hx.1 (by omega)
  obtain ⟨i, rfl⟩ : ∃ i : Nat, x = (i : Int) := ⟨x.toNat, by omega⟩
  have hi : i < L.length := by omega
  have H6 := Lib.hid (show zl g (g + 1) w4 w6 from HY5.out.2.trans hpk.2)
  have S1 := HC.out _ H6.out
  clear hx hpk
  refine hK.out _ _ (fun _ => S1) ?_
  clear hK K
  try simp only [zs.a, zs.b, zs.c, Act.put]
  obtain ⟨f, hf⟩ : ∃ f, f = L[i] := ⟨_, rfl⟩
  have hfl : f.2.length <= 3072 := by
   rw [hf]
   have := zaz L i hi
   have := HLF.out.2
   omega
  have hav : zg w4 w3.heap.size w4.heap.size (av.getD i (.int .i64 0)) f.2 := by
   have h := HAV.out.own i (by simpa using hi) (by have := HAL.out; omega)
   have e : av.getD i (.int .i64 0) = av[i]'(by have := HAL.out; omega) := by simp [show i < av.length by have := HAL.out; omega]
   rw [e, hf]
   simpa using h
  obtain ⟨A6, c6, e6⟩ := hav.form
  have HE6 := Lib.hid e6
  rw [e6] at hav
  have hs6 := H6.out.size
  have HF6 := Lib.hid (show zU w6 w6.heap.size (.agg #[.int .i64 f.1, .slice A6 f.2.length c6]) f from ⟨_, rfl, (hav.only H6.out (.inr (by omega))).rd.more hs6⟩)
  have HFI := Lib.hid hf
  clear hav e6 hf
  refine za (i := 7) (oi := _) (.pointer (some ⟨gl, i * 2, none⟩)) rfl rfl (by kernel_rfl) (by decide) (fun _ _ _ h => h) rfl ?hyb7 (fun _ => S1) ?restb7
  case hyb7 => (intro W; go_simp; (try simp))
  try simp only [zs.a, zs.b, zs.c]
  refine zm (i := 8) (oi := _) (.agg #[.int .i64 f.1, .slice A6 f.2.length c6]) rfl rfl (by kernel_rfl) (fun _ _ _ h => h) rfl ?hyb8 S1 ?restb8
  case hyb8 =>
   intro W hW
   obtain ⟨_, _, hall⟩ := HB.out W hW
   obtain ⟨d1, d2⟩ := hall i hi
   rw [HE6.out] at d2
   rw [<- HFI.out] at d1
   clear hall
   go_simp
   try with_reducible rfl
  try simp only [zs.a, zs.b, zs.c]
  refine zh (i := 9) (by kernel_rfl) rfl (fun K hK => ?_)
  try rw [if_pos (show Region.wanted _ _ = true from rfl)]
  go_simp
  refine (zcs _ f w6 HF6.out (by omega)).mono ?_
  rintro e w7 ⟨A7, c7, rfl, o7, b7⟩
  have HO7 := Lib.hid o7
  have H7 := Lib.hid (show zl g (g + 1) w4 w7 from H6.out.trans (zl.of_below b7))
  have S2 := HC.out _ H7.out
  obtain ⟨b0, r0, f0, dp, df⟩ := HEND.out _ H7.out
  have j0 : w7.cell? ⟨w.heap.size, 0, none⟩ = some (.slice none 0 0) := r0.cell 0
  have j1 : w7.cell? ⟨w.heap.size, 1, none⟩ = some (.slice none 0 0) := r0.cell 1
  have j2 : w7.cell? ⟨w.heap.size + 1, 0, none⟩ = some (.int .i64 0) := f0.cell 0
  have j3 : w7.cell? ⟨w.heap.size + 1, 1, none⟩ = some (.slice none 0 0) := f0.cell 1
  have l0 := r0.frozen 0
  have l1 := r0.frozen 1
  have l2 := f0.frozen 0
  have l3 := f0.frozen 1
  have HJ := Lib.hid (And.intro b0 (And.intro r0 (And.intro f0 (And.intro dp df))))
  clear o7 b7 b0 r0 f0 dp df
  refine hK.out _ _ (fun _ => S2) ?_
  clear hK K
  try simp only [zs.a, zs.b, zs.c, Act.put]
  refine zh (i := 10) (by kernel_rfl) rfl (fun K hK => ?_)
  try rw [if_pos (show Region.wanted _ _ = true from rfl)]
  go_simp
  refine hK.out _ _ (fun hf => absurd hf (by decide)) ?_
  clear hK K
  try simp only [zs.a, zs.b, zs.c, Act.put]
  refine zh (i := 11) (by kernel_rfl) rfl (fun K hK => ?_)
  try rw [if_pos (show Region.wanted _ _ = true from rfl)]
  go_simp
  refine hK.out _ _ (fun hf => absurd hf (by decide)) ?_
  clear hK K
  try simp only [zs.a, zs.b, zs.c, Act.put]
  refine zh (i := 12) (by kernel_rfl) rfl (fun K hK => ?_)
  go_simp
  refine hK.out _ _ (fun hf => absurd hf (by decide)) ?_
  clear hK K
  refine zL (by kernel_rfl) ?_
  go_wp2_with (fail)
  obtain ⟨W, hW⟩ : ∃ W, W = (((w7.setCell ⟨w.heap.size, 0, none⟩ (.slice A p.1.length c)).setCell ⟨w.heap.size, 1, none⟩ (.slice Ar es.length cr)).setCell ⟨w.heap.size + 1, 0, none⟩ (.int .i64 f.1)).setCell ⟨w.heap.size + 1, 1, none⟩ (.slice A7 f.2.length c7) := ⟨_, rfl⟩
  rw [<- hW]
  obtain ⟨b0, r0, f0, dp, df⟩ := HJ.out
  obtain ⟨⟨d0, d1, d2, d3⟩, hoW, hszW, hBW⟩ := zmO r0 f0 b0 hW
  have hs0 := HS0.out
  have hs7 := H7.out.size
  have hs14 := HB14.out.size
  refine bodyPost_ret (v := .tuple #[.agg #[.slice A p.1.length c, .slice Ar es.length cr], .slice Af fs.length cf, .agg #[.int .i64 f.1, .slice A7 f.2.length c7]]) (by simp [results, Tryz.results19, go_sem, d0, d1, d2, d3]) rfl ?_
  refine ⟨_, p.1, p.2, Af, cf, fs, A7, c7, f.1, f.2, rfl, (dp.only2 hoW (by omega)).mono (by omega), ?_, ?_, hfl, ⟨hf1, hf2⟩, hBW⟩
  ·exact (df.only hoW (.inr (by omega))).rd.more (by omega)
  ·exact (HO7.out.only hoW (.inr (by omega))).rd.more (by omega)
open Go.RowKit
theorem zaR.endsAt {w : World} {g o e : Nat} {X : List FV} {E : List Nat} {R : Nat -> Value} (h : zaR w g X E o e R) (hm : 0 < E.length) : ∃ b c, R 1 = .slice (some ⟨b, 0, none⟩) E.length c /\ (∀ k, k < E.length -> w.cell? ⟨b, k, none⟩ = some (.int .i64 ((E.getD k 0 : Nat) : Int))) /\ E.length <= c := by
 have hcells := @World.ownsRow.cells w (g + 1) 3 1 _ E.length (E.map inN) h.raw.ends
 rcases h.raw.ends.2 with ⟨e1, e0⟩ | ⟨b, cap, cur, e1, hb, hg, hc, _⟩
 ·omega
 ·refine ⟨b, cap, e1, fun k hk => ?_, by omega⟩
  have hget : (E.map inN)[k]? = some (.int .i64 ((E.getD k 0 : Nat) : Int)) := by
   rw [List.getElem?_map, List.getElem?_eq_getElem hk]
   simp [inN, hk]
  have := hcells (g := b) (by rw [e1]; rfl) k _ hget
  rw [Go.WideShapes.add_plain, Nat.zero_add] at this
  exact this
set_option maxHeartbeats 4000000 in
theorem zjy (g : Nat) (X : List FV) (E : List Nat) (o e : Nat) (R : Nat -> Value) (k a b : Nat) (w0 w : World) (h0 : zaR w0 g X E o e R) (hbw : Below w0.heap.size w0 w) (hk : k < E.length) (ha : a = if k = 0 then 0 else E.getD (k - 1) 0) (hb : b = E.getD k 0) (hab : a <= b) (hbX : b <= X.length) (hX : X.length <= 1048576) (hE : E.length <= 1048576) :
 Calls Tryz.prog 55 #[.pointer (some ⟨g, 0, none⟩), .int .i64 (k : Int)] w fun e' w' =>
  ∃ A c, e' = .returned (.slice A (b - a) c) /\ zu w0 w0.heap.size (.slice A (b - a) c) (((zj X).take b).drop a) /\ Below w.heap.size w w' := by
 have h := h0.on hbw
 obtain ⟨A0, c0, hv0⟩ := h.raw.formL
 obtain ⟨b1, c1, hv1, hce, hc1⟩ := h.endsAt (by omega)
 have hgl := h.lt
 have q0 : w.cell? ⟨g, 0, none⟩ = some (.slice A0 X.length c0) := by rw [<- hv0]; exact h.raw.cellList
 have q1 : w.cell? ⟨g, 1, none⟩ = some (.slice (some ⟨b1, 0, none⟩) E.length c1) := by rw [<- hv1]; exact h.raw.cellEnds
 have d0 : w.drew.cell? ⟨g, 0, none⟩ = some (.slice A0 X.length c0) := q0
 have d1 : w.drew.cell? ⟨g, 1, none⟩ = some (.slice (some ⟨b1, 0, none⟩) E.length c1) := q1
 have k1 := hce k hk
 have dk1 : w.drew.cell? ⟨b1, k, none⟩ = some (.int .i64 ((E.getD k 0 : Nat) : Int)) := k1
 rw [<- hb] at k1 dk1
 have hXc : X.length <= c0 := by
  rcases h.raw.list.2 with ⟨e1, e0⟩ | ⟨b', cap, cur, e1, _, _, h2, _⟩
  ·rw [hv0] at e1; injection e1 with _ e2 e3; omega
  ·rw [hv0] at e1; injection e1 with _ e2 e3; omega
 have hlist := h0.raw.list
 rw [hv0] at hlist
 have HRD := Lib.hid (zmP hlist h0.raw.argsL hab hbX)
 have BB := Lib.hid (show Below w.heap.size w w.drew from (Below.refl _ _).drew)
 have hi1 : (k : Int) < (E.length : Int) := by omega
 have hi2 : (a : Int) <= (b : Int) := by omega
 have hi3 : (b : Int) <= (c0 : Int) := by omega
 have hi4 : (a : Int) <= (c0 : Int) := by omega
 rcases k with _ | k
 ·have ha0 : a = 0 := by rw [ha]; rfl
  subst ha0
  have HR2 := Lib.hid (show zu w0 w0.heap.size (.slice A0 (b - 0) c0) (((zj X).take b).drop 0) from rdX h0.raw.list h0.raw.argsL hbX hv0 (c' := c0) (by omega))
  clear h h0 hbw ha hb hce hv0 hv1 hlist
  go_enter Tryz.func55, Tryz.ntmps55
  go_upto_region 4 with fail
  go_big_region
  go_wp2_with fail
  go_ret
  exact ⟨_, _, rfl, HR2.out, BB.out⟩
 ·have k0 := hce k (by omega)
  rw [show E.getD k 0 = a by rw [ha]; rfl] at k0
  have hj1 : (k : Int) < (E.length : Int) := by omega
  have hpos : 0 < (k : Int) + 1 := by omega
  clear h h0 hbw ha hb hce hv0 hv1 hlist
  go_enter Tryz.func55, Tryz.ntmps55
  go_upto_region 4 with fail
  go_big_region
  go_wp2_with fail
  ·have hca := h
   have HR2 := Lib.hid (show zu w0 w0.heap.size (.slice A0 (b - a) 0) (((zj X).take b).drop a) from by
    have h1 := HRD.out
    rw [if_pos hca, hca, Nat.sub_self] at h1
    exact h1)
   go_ret
   exact ⟨_, _, rfl, HR2.out, BB.out⟩
  ·have hca := h
   have HR2 := Lib.hid (show zu w0 w0.heap.size (.slice (A0.map (·.add (a * 2))) (b - a) (c0 - a)) (((zj X).take b).drop a) from by
    have h1 := HRD.out
    rw [if_neg hca] at h1
    exact h1)
   go_ret
   exact ⟨_, _, rfl, HR2.out, BB.out⟩
open Go.RowKit
section
variable {w w' : World} {lo hi b : Nat} {v : Value} {hv : List Value} {FF : List (List zd)} {F : List zd} {P Q : Nat -> Nat}
theorem zq.none (w : World) (p q : Nat) : zq w p q (.slice none 0 0) [] := ⟨_, .nil, World.ownsRow_nil _ _ _ _, fun g hg => by cases hg⟩
theorem zbY.nils {n : Nat} (h : w.ownsRow lo 27 1 v n (List.replicate n (.slice none 0 0))) (hl : ∀ g, v.ownBlock = some g -> g < hi) (hlo : lo <= hi) :
 zbY w lo hi v (List.replicate n (.slice none 0 0)) (List.replicate n []) (fun _ => hi) (fun _ => hi) where
 row := by rw [List.length_replicate]; exact h
 lt := hl
 own i h1 h2 := by
  rw [List.getElem_replicate, List.getElem_replicate]
  exact ⟨hlo, ⟨Nat.le_refl _, Nat.le_refl _⟩, zq.none _ _ _, fun g hg => .inl (hl g hg)⟩
 ord _ _ _ _ := Nat.le_refl _
theorem zcf.none (w : World) (p q : Nat) : zcf w p q (.slice none 0 0) [] := ⟨[], fun _ => 0, fun _ => 0, ⟨World.ownsRow_nil _ _ _ _, fun g hg => (by cases hg), fun i h1 => absurd h1 (by simp), fun i j _ h1 => absurd h1 (by simp)⟩⟩
theorem zbY.only (h : zbY w lo hi v hv FF P Q) (ho : zl b (b + 1) w w') (hne : ∀ g, v.ownBlock = some g -> g ≠ b) (hP : ∀ i, i < FF.length -> b < P i) : zbY w' lo hi v hv FF P Q where
 row := zw h.row fun g hg => ho.block g (h.row.lt g hg).2 (by have := hne g hg; omega)
 lt := h.lt
 own i h1 h2 := by
  obtain ⟨g1, g2, g3, g4⟩ := h.own i h1 h2
  exact ⟨g1, g2, g3.only ho (.inr (hP i h1)), g4⟩
 ord := h.ord
theorem zbY.put {g c n j a m : Nat} {u : Value} (h : zbY w lo hi (.slice (some ⟨g, 0, none⟩) n c) hv FF P Q) (hn : FF.length = n) (hj : j < n) (hz : ∀ i, j <= i -> i < n -> hv[i]? = some (.slice none 0 0) /\ FF[i]? = some [])
 (hu : zq w a m u F) (ha : hi <= a) (ham : a <= m) (hm : m <= w.heap.size) :
 zbY (w.setCell ⟨g, j, none⟩ u) lo m (.slice (some ⟨g, 0, none⟩) n c) (hv.set j u) (FF.set j F) (fun i => if i < j then P i else if i = j then a else m) (fun i => if i < j then Q i else m) := by
 subst hn
 have hlen := h.len
 have hgl : g < hi := h.lt g rfl
 have hgw := h.row.lt g rfl
 have hst := h.row.stored j u
 have keep : ∀ {p q : Nat} {x : Value} {G : List zd}, zq w p q x G -> (g < p \/ q <= g) -> zq (w.setCell ⟨g, j, none⟩ u) p q x G := fun {p q x G} h0 hne => by
  have ho : zl g (g + 1) w (w.setCell ⟨g, j, none⟩ u) := zl.setCell (zl.refl g (g + 1) w) (p := ⟨g, j, none⟩) ⟨Nat.le_refl g, Nat.lt_succ_self g⟩ u
  exact h0.only ho (by omega)
 refine ⟨by rw [List.length_set]; exact hst.1, fun g2 hg2 => by have := h.lt g2 hg2; omega, fun i h1 h2 => ?_, fun i k hik hk => ?_⟩
 ·rw [List.length_set] at h1 h2
  obtain ⟨g1, g2, g3, g4⟩ := h.own i h1 h2
  by_cases e1 : i < j
  ·simp only [if_pos e1]
   rw [List.getElem_set_ne (by omega), List.getElem_set_ne (by omega)]
   exact ⟨g1, ⟨g2.1, by omega⟩, keep g3 (by have := g4 g rfl; omega), g4⟩
  ·by_cases e2 : i = j
   ·subst e2
    simp only [if_neg e1, if_true]
    rw [List.getElem_set_self, List.getElem_set_self]
    exact ⟨by omega, ⟨ham, Nat.le_refl _⟩, keep hu (by omega), fun g2 hg2 => by have := h.lt g2 hg2; omega⟩
   ·simp only [if_neg e1, if_neg e2]
    rw [List.getElem_set_ne (by omega), List.getElem_set_ne (by omega)]
    obtain ⟨z1, z2⟩ := hz i (by omega) h1
    rw [List.getElem?_eq_getElem h2] at z1
    rw [List.getElem?_eq_getElem h1] at z2
    injection z1 with z1
    injection z2 with z2
    rw [z1, z2]
    exact ⟨by omega, ⟨Nat.le_refl _, Nat.le_refl _⟩, zq.none _ _ _, fun g2 hg2 => by have := h.lt g2 hg2; omega⟩
 ·rw [List.length_set] at hk
  by_cases e1 : k < j
  ·simp only [if_pos e1, if_pos (show i < j by omega)]
   exact h.ord i k hik hk
  ·by_cases e2 : i < j
   ·simp only [if_pos e2, if_neg e1]
    have hi2 := (h.own i (by omega) (by omega)).2.1
    split <;> omega
   ·simp only [if_neg e2, if_neg e1, if_neg (show ¬ k = j by omega)]
    omega
end
def zbK (RS : List (List zd)) (k : Nat) : List (List zd) := RS.take k ++ List.replicate (RS.length - k) []
theorem zdh (RS : List (List zd)) {k : Nat} (h : k <= RS.length) : (zbK RS k).length = RS.length := by simp [zbK]; omega
theorem zkt (RS : List (List zd)) : zbK RS 0 = List.replicate RS.length [] := by simp [zbK]
theorem zlv (RS : List (List zd)) : zbK RS RS.length = RS := by simp [zbK]
theorem zfA (RS : List (List zd)) {k i : Nat} (hi : k <= i) (h : i < RS.length) : (zbK RS k)[i]? = some [] := by
 unfold zbK
 rw [List.getElem?_append_right (by simp; omega), List.getElem?_replicate, if_pos (by simp; omega)]
theorem zlu (RS : List (List zd)) {k : Nat} (h : k < RS.length) : (zbK RS k).set k RS[k] = zbK RS (k + 1) := by
 apply List.ext_getElem?
 intro i
 by_cases e : i = k
 ·subst e
  rw [List.getElem?_set_self (by rw [zdh _ (by omega)]; exact h)]
  unfold zbK
  rw [List.getElem?_append_left (by simp; omega), List.getElem?_take_of_lt (by omega), List.getElem?_eq_getElem h]
 ·rw [List.getElem?_set_ne (by omega)]
  by_cases e2 : i < k
  ·unfold zbK
   rw [List.getElem?_append_left (by simp; omega), List.getElem?_append_left (by simp; omega), List.getElem?_take_of_lt e2, List.getElem?_take_of_lt (by omega)]
  ·by_cases e3 : i < RS.length
   ·rw [zfA RS (by omega) e3, zfA RS (by omega) e3]
   ·rw [List.getElem?_eq_none (by rw [zdh _ (by omega)]; omega), List.getElem?_eq_none (by rw [zdh _ (by omega)]; omega)]
open Go.RowKit
def zF (p : zal) (fs : List zd) : List (List zd) := if zcb p fs then zad p.2 (zG fs) else []
def zgh (E : List Nat) (k : Nat) : Nat := if k = 0 then 0 else E.getD (k - 1) 0
theorem zeh.len_ {w : World} {g o m : Nat} {p : zal} {fs : List zd} {X : List FV} {E : List Nat} {R : Nat -> Value} (h : zeh w g p fs X E o R m) (hl : zcb p fs = true) : (zF p fs).length = E.length /\ E.length <= 2001 := by
 obtain ⟨h1, h2, h3, _⟩ := zbh hl
 have hm := zeM h1 h2 (zaI.set h3) h.rounds
 have h4 : zd9 p.2 (zG fs) <= 2000 := zeA p.2 (zG fs) 2000 0
 refine ⟨?_, by rw [h.len]; omega⟩
 unfold zF
 rw [if_pos hl, h.len]
 simp [zad, hm]
theorem zeh.at_k {w : World} {g o m : Nat} {p : zal} {fs : List zd} {X : List FV} {E : List Nat} {R : Nat -> Value} (h : zeh w g p fs X E o R m) (hl : zcb p fs = true) {k : Nat} (hk : k < E.length) (hk2 : k < (zF p fs).length) :
 zgh E k <= E.getD k 0 /\ E.getD k 0 <= X.length /\ zgh E (k + 1) = E.getD k 0 /\ zbt (zK zaa ((zj X).take (E.getD k 0))) p.1 = (zF p fs)[k] := by
 obtain ⟨h1, h2, h3, _⟩ := zbh hl
 have hm := zeM h1 h2 (zaI.set h3) h.rounds
 have hkm : k <= m := by have := h.len; omega
 obtain ⟨e1, e2⟩ := h.ends k hkm
 refine ⟨?_, e1, by simp [zgh], ?_⟩
 ·unfold zgh
  split
  ·omega
  ·have hp := h.up
   have h5 := List.pairwise_iff_getElem.1 hp (k - 1) k (by omega) hk (by omega)
   simp [List.getD_eq_getElem?_getD, hk, show k - 1 < E.length by omega]
   omega
 ·have ht := zej h1 (F := (zj X).take (E.getD k 0)) fun f hf => h.fit.fits f (List.mem_of_mem_take hf)
  have he : (zF p fs)[k] = zaj p.2 (zG fs) k := by
   simp [zF, hl, zad]
  rw [he]
  exact ht.1.unique (zhh (zaT _) k) fun f => (ht.2 f).trans (e2 f)
theorem zkQ {L : List zd} {a b : Nat} (h : a <= b) : zK (zK zaa (L.take a)) ((L.take b).drop a) = zK zaa (L.take b) := by
 conv => rhs; rw [zgo h]
 simp [zK, List.foldl_append]
set_option maxHeartbeats 4000000 in
theorem ziP (v v2 : Value) (p : zal) (fs : List zd) (w : World) (h : zb7 w w.heap.size v p) (h2 : zu w w.heap.size v2 fs) (hs : szP p <= 1048576) (hn : fs.length <= 1048576) (ht : tot fs <= 1048576) (hT : Tab w) :
 Calls Tryz.prog 20 #[v, v2] w fun e w' => ∃ A' c', e = .returned (.slice A' (zF p fs).length c') /\ zcf w' w.heap.size w'.heap.size (.slice A' (zF p fs).length c') (zF p fs) /\ Below w.heap.size w w' := by
 obtain ⟨i0, hi0, hz0, hz1, hz2⟩ := info_parts Tryz.infoFactS
 have HT := Lib.hid hT
 have HP := Lib.hid h
 have H2 := Lib.hid h2
 obtain ⟨a, b, rfl, hA, hR⟩ := h
 have HA := Lib.hid hA
 obtain ⟨A, c, rfl, hcA, _⟩ := hA
 obtain ⟨A2, c2, rfl, hcR, _⟩ := hR
 obtain ⟨A3, c3, rfl, hcF, _⟩ := h2
 obtain ⟨RS, hRS⟩ : ∃ RS, RS = zF p fs := ⟨_, rfl⟩
 have HRS := Lib.hid hRS
 rw [<- hRS]
 obtain ⟨n, hnR⟩ : ∃ n, n = RS.length := ⟨_, rfl⟩
 rw [<- hnR]
 have HNR := Lib.hid hnR
 clear hRS hT hnR
 go_enter Tryz.func20, Tryz.ntmps20
 go_upto_region 1 with fail
 obtain ⟨w1, hw1⟩ : ∃ w1, w1 = w.alloc (Obj.cells #[Value.slice A p.1.length c, Value.slice A2 p.2.length c2] 26) := ⟨_, rfl⟩
 have X1 : Blk w1 w.heap.size 26 #[.slice A p.1.length c, .slice A2 p.2.length c2] := by rw [hw1]; exact Blk.new _ _ _
 have B1 : Below w.heap.size w w1 := by rw [hw1]; exact ze _ _
 rw [<- hw1]
 clear hw1
 have x0 : w1.cell? ⟨w.heap.size, 0, none⟩ = some (.slice A p.1.length c) := X1.cell 0
 have x1 : w1.cell? ⟨w.heap.size, 1, none⟩ = some (.slice A2 p.2.length c2) := X1.cell 1
 have CG := Lib.hid (zgK _ _ p fs w1 (HP.out.on B1) (H2.out.on B1) hs hn ht)
 have HX1 := Lib.hid X1
 clear X1
 go_upto_region 2 with (go_at_call 30; refine CG.out.mono ?_; rintro e w2 ⟨hcase, b2⟩; rcases hcase with ⟨hno, rfl⟩ | ⟨hyes, g, X, E, o, Rg, m, rfl, hg, hgr⟩)
 ·go_wp2_with fail
  go_ret
  have e : RS = [] := by rw [HRS.out]; unfold zF; rw [hno]; rfl
  have e0 : n = 0 := by rw [HNR.out, e]; rfl
  rw [e, e0]
  exact ⟨none, 0, rfl, zcf.none _ _ _, zf B1 b2⟩
 ·have HGR := Lib.hid hgr
  have HY := Lib.hid hyes
  have hB2 := zf B1 b2
  have B2 := Lib.hid hB2
  have X2 := HX1.out.below b2 HX1.out.lt
  have HX2 := Lib.hid X2
  obtain ⟨har, _⟩ := zbh hyes
  have HAR := Lib.hid har
  obtain ⟨hlen, hE2⟩ := hgr.len_ hyes
  rw [<- HRS.out] at hlen
  have hne : n = E.length := by rw [HNR.out]; exact hlen
  have hlen0 := hgr.len
  obtain ⟨b1, c1, hv1, hce, hc1⟩ := hgr.at_.endsAt (by omega)
  have hgl := hgr.at_.lt
  have q1 : w2.cell? ⟨g, 1, none⟩ = some (.slice (some ⟨b1, 0, none⟩) n c1) := by rw [hne, <- hv1]; exact hgr.at_.raw.cellEnds
  have hn2 : n <= 2001 := by omega
  have hn3 : (n : Int) <= 2001 := by omega
  have HNE := Lib.hid (And.intro hne (HNR.out.symm))
  have HS2 := Lib.hid (show w.heap.size < w2.heap.size from X2.lt)
  have hmk := fun W => zby (P := Tryz.prog) 42 27 i0 (.slice none 0 0) Tryz.underlying42 hi0 hz0 .i64 .i64 n n (Nat.le_refl _) (by rw [hz2]; omega) (by omega) W
  rw [hz1] at hmk
  simp only [Value.cells] at hmk
  obtain ⟨cs, hcs⟩ : ∃ cs, cs = madeCells #[Value.slice none 0 0] (n * 1) := ⟨_, rfl⟩
  have HCS := Lib.hid (show cs.size = n * 1 /\ cs.toList = List.replicate n (.slice none 0 0) by rw [hcs]; exact ⟨size_madeCells _ _, by rw [Nat.mul_one]; exact toList_madeCells_one _ _⟩)
  rw [<- hcs] at hmk
  clear hgr hyes b2 x0 x1 har hv1 hce hlen hne hlen0 hcs B1 X2 HX1 hi0 hz0 hz1 hz2
  go_upto_region 6 with fail
  obtain ⟨w3, hw3⟩ : ∃ w3, w3 = w2.alloc (Obj.cells cs 27) := ⟨_, rfl⟩
  have b3 : Below w2.heap.size w2 w3 := by rw [hw3]; exact ze _ _
  have hs3 : w3.heap.size = w2.heap.size + 1 := by rw [hw3]; simp
  have r3 : w3.ownsRow w2.heap.size 27 1 (.slice (some ⟨w2.heap.size, 0, none⟩) n n) n (List.replicate n (.slice none 0 0)) := by
   rw [hw3, <- HCS.out.2]
   exact World.ownsRow_lit w2 cs n (Nat.le_refl _) (by unfold maxLen; omega) HCS.out.1
  rw [<- hw3]
  clear hw3 hmk
  obtain ⟨zs, hzs⟩ : ∃ zs, zs = (#[Value.int IntKind.u64 0, Value.int IntKind.u64 0, Value.int IntKind.u64 0, Value.int IntKind.u64 0, Value.int IntKind.u64 0, Value.int IntKind.u64 0, Value.int IntKind.u64 0, Value.int IntKind.u64 0, Value.int IntKind.u64 0, Value.int IntKind.u64 0, Value.int IntKind.u64 0, Value.int IntKind.u64 0, Value.int IntKind.u64 0, Value.int IntKind.u64 0, Value.int IntKind.u64 0, Value.int IntKind.u64 0, Value.int IntKind.u64 0, Value.int IntKind.u64 0, Value.int IntKind.u64 0, Value.int IntKind.u64 0, Value.int IntKind.u64 0, Value.int IntKind.u64 0, Value.int IntKind.u64 0, Value.int IntKind.u64 0] : Array Value) := ⟨_, rfl⟩
  have hzt : zs = tabCells zaa := by rw [hzs]; rfl
  rw [<- hzs]
  clear hzs
  obtain ⟨w4, hw4⟩ : ∃ w4, w4 = w3.alloc (Obj.cells zs 54) := ⟨_, rfl⟩
  have T4 : TabAt w4 (w2.heap.size + 1) zaa := by rw [hw4, hzt, <- hs3]; exact TabAt.zero _
  have b4 : Below w3.heap.size w3 w4 := by rw [hw4]; exact ze _ _
  have hs4 : w4.heap.size = w2.heap.size + 2 := by rw [hw4]; simp [hs3]
  rw [<- hw4]
  clear hw4 hzt
  have F4 : zbY w4 w2.heap.size (w2.heap.size + 2) (.slice (some ⟨w2.heap.size, 0, none⟩) n n) (List.replicate n (.slice none 0 0)) (List.replicate n []) (fun _ => w2.heap.size + 2) (fun _ => w2.heap.size + 2) :=
   zbY.nils (zaB r3 (hi := w3.heap.size) (fun g hg => by simp [Value.ownBlock] at hg; omega) b4 (Nat.le_refl _)) (fun g hg => by simp [Value.ownBlock] at hg; omega) (by omega)
  have HB4 := Lib.hid (show Below w2.heap.size w2 w4 from zf b3 b4)
  have HF4 := Lib.hid (And.intro T4 (And.intro F4 hs4))
  clear T4 F4 b3 b4 r3 hs3 hs4 q1
  go_wp2_with fail
  go_loopw [26] (fun i wr => ∃ (k hi : Nat) (hv : List Value) (P Q : Nat -> Nat), k <= n /\ i = .int .i64 k /\ TabAt wr (w2.heap.size + 1) (zK zaa ((zj X).take (zgh E k))) /\
   zbY wr w2.heap.size hi (.slice (some ⟨w2.heap.size, 0, none⟩) n n) hv (zbK RS k) P Q /\ hi <= wr.heap.size /\ (∀ i, i < n -> w2.heap.size + 1 < P i) /\ (∀ i, k <= i -> i < n -> hv[i]? = some (.slice none 0 0)) /\ zl w2.heap.size (w2.heap.size + 2) w4 wr) (fun i _ => n - (intOf i).toNat)
  case atStart =>
   exact ⟨0, w2.heap.size + 2, _, _, _, Nat.zero_le _, rfl, HF4.out.1, by rw [zkt, HNE.out.2]; exact HF4.out.2.1, by have := HF4.out.2.2; omega, fun _ _ => by omega, fun i _ hi => by rw [List.getElem?_replicate, if_pos hi], zl.refl _ _ _⟩
  case round =>
   obtain ⟨k, hi, hv, P, Q, hk, rfl, hat, hff, hhi, hPP, hzz, hon⟩ := hrel
   by_cases hlt : k < n
   ·have hbe : Below w2.heap.size w2 wr := zl.then_ HB4.out hon (Nat.le_refl _)
    have HBE := Lib.hid hbe
    have hk1 : k < E.length := by rw [<- HNE.out.1]; exact hlt
    have hkR : k < RS.length := by rw [HNE.out.2]; exact hlt
    obtain ⟨F, hF⟩ : ∃ F, F = RS[k] := ⟨_, rfl⟩
    have hat4 : zgh E k <= E.getD k 0 /\ E.getD k 0 <= X.length /\ zgh E (k + 1) = E.getD k 0 /\ zbt (zK zaa ((zj X).take (E.getD k 0))) p.1 = F := by
     have hh := HRS.out
     subst hh
     rw [hF]
     exact HGR.out.at_k HY.out hk1 hkR
    obtain ⟨e1, e2, e3, e4⟩ := hat4
    have hX2 : X.length <= 1536 := HGR.out.at_.few HAR.out HGR.out.fit
    have CB := Lib.hid (zjy g X E o X.length Rg k (zgh E k) (E.getD k 0) w2 wr HGR.out.at_ hbe hk1 rfl rfl e1 e2 (by omega) (by omega))
    have HFF := Lib.hid hff
    have HAT := Lib.hid hat
    have HON := Lib.hid hon
    have HPZ := Lib.hid (And.intro hPP hzz)
    have HF := Lib.hid hF
    have hEL : E.length <= 2001 := by rw [<- HNE.out.1]; exact hn2
    have HE3 := Lib.hid e3
    have hlL : (((zj X).take (E.getD k 0)).drop (zgh E k)).length = E.getD k 0 - zgh E k := by rw [List.length_drop, List.length_take, zae]; omega
    have HTF := Lib.hid (show ∀ f ∈ ((zj X).take (E.getD k 0)).drop (zgh E k), zkG f from fun f hf => by
     have hff := HGR.out.fit.fits f (List.mem_of_mem_take (List.mem_of_mem_drop hf))
     have h1 := zav hff
     have h2 : p.1.length <= 24 := by have := HAR.out; simp only [zr, Bool.and_eq_true, decide_eq_true_eq] at this; exact this.1
     exact ⟨h1.1.1, by omega, h1.2, zbb HAR.out hff⟩)
    have HMID := Lib.hid (zkQ (L := zj X) e1)
    obtain ⟨L, hL⟩ : ∃ L, L = ((zj X).take (E.getD k 0)).drop (zgh E k) := ⟨_, rfl⟩
    obtain ⟨T, hTe⟩ : ∃ T, T = zK zaa ((zj X).take (zgh E k)) := ⟨_, rfl⟩
    obtain ⟨T2, hT2⟩ : ∃ T2, T2 = zK zaa ((zj X).take (E.getD k 0)) := ⟨_, rfl⟩
    rw [<- hL] at CB hlL HTF HMID
    rw [<- hTe] at HMID HAT
    rw [<- hT2] at HMID e4
    have HT2 := Lib.hid hT2
    have HE4 := Lib.hid e4
    obtain ⟨d, hd⟩ : ∃ d, d = E.getD k 0 - zgh E k := ⟨_, rfl⟩
    rw [<- hd] at CB hlL
    have hLn : L.length <= 1048576 := by omega
    have HLL := Lib.hid hlL
    clear hff hat hon hPP hzz hF e1 e2 e3 e4 hL hTe hT2 hd hbe hlL
    go_upto_region 10 with (first
     | (go_at_call 55; refine CB.out.mono ?_; rintro e5 w5 ⟨A5, c5, rfl, r5, b5⟩
        have H5 := Lib.hid b5
        have HADD := Lib.hid (zmG (w2.heap.size + 1) w2.heap.size T (.slice A5 d c5) L w5 (HAT.out.below b5 HAT.out.1.lt) (r5.below (zf HBE.out b5) (Nat.le_refl _)) (Nat.le_succ _) HTF.out hLn)
        rw [HMID.out] at HADD
        clear r5 b5)
     | (go_at_call 42; refine HADD.out.mono ?_; rintro e6 w6 ⟨rfl, t6, o6⟩; have H6 := Lib.hid (And.intro t6 o6); clear t6 o6))
    have h6s := H6.out.2.size
    have h5s := H5.out.size
    have hrs := HBE.out.size
    have hb6 : Below w2.heap.size w2 w6 := (zf HBE.out H5.out).trans (H6.out.2.below (Nat.le_succ _) (by omega))
    have HB6 := Lib.hid (show Below w.heap.size w w6 from B2.out.trans (hb6.mono (by have := HS2.out; omega)))
    have x6 : w6.cell? ⟨w.heap.size, 0, none⟩ = some (.slice A p.1.length c) := (HX2.out.below hb6 HX2.out.lt).cell 0
    have CF := Lib.hid (zgp (w2.heap.size + 1) T2 (.slice A p.1.length c) p.1 w6 H6.out.1 (HA.out.on HB6.out) HAR.out (HT.out.below HB6.out))
    rw [HE4.out] at CF
    have FF6 := (HFF.out.below H5.out hhi).only H6.out.2 (fun g hg => by simp [Value.ownBlock] at hg; omega) (fun i hi => HPZ.out.1 i (by rw [zdh RS (by omega), HNE.out.2] at hi; exact hi))
    have HFF6 := Lib.hid FF6
    have HFN := Lib.hid (show (zbK RS k).length = n by rw [zdh RS (by have := HNR.out; omega)]; exact HNR.out.symm)
    clear hb6 FF6
    have hsz6 : w2.heap.size + 2 <= w6.heap.size := by have := H6.out.1.1.lt; omega
    have hhi6 : hi <= w6.heap.size := by omega
    go_wp2_with (first
     | (go_at_call 31; refine CF.out.mono ?_; rintro e7 w7 ⟨A7, c7, rfl, o7, b7⟩
        have FF7 := HFF6.out.below b7 hhi6
        have row7 := FF7.row
        rw [HFN.out] at row7
        have hz7 := (row7.cellAt k (by omega)).trans (HPZ.out.2 k (Nat.le_refl _) hlt)
        have hf7 := row7.frozenAt k
        have H7 := Lib.hid (And.intro o7 b7)
        clear o7 b7 FF7 row7))
    have HN := Lib.hid (show ∀ W, W = w7.setCell ⟨w2.heap.size, k, none⟩ (.slice A7 F.length c7) -> TabAt W (w2.heap.size + 1) (zK zaa ((zj X).take (zgh E (k + 1)))) /\
     ∃ hi' hv' P' Q', zbY W w2.heap.size hi' (.slice (some ⟨w2.heap.size, 0, none⟩) n n) hv' (zbK RS (k + 1)) P' Q' /\ hi' <= W.heap.size /\ (∀ i, i < n -> w2.heap.size + 1 < P' i) /\ (∀ i, k + 1 <= i -> i < n -> hv'[i]? = some (.slice none 0 0)) /\ zl w2.heap.size (w2.heap.size + 2) w4 W from fun W hW => by
     subst hW
     have FF7 := HFF6.out.below H7.out.2 hhi6
     have h7s := H7.out.2.size
     have ho : zl w2.heap.size (w2.heap.size + 1) w7 (w7.setCell ⟨w2.heap.size, k, none⟩ (.slice A7 F.length c7)) := zl.setCell (zl.refl _ _ _) (p := ⟨w2.heap.size, k, none⟩) ⟨Nat.le_refl _, Nat.lt_succ_self _⟩ _
     have o6 : zl w2.heap.size (w2.heap.size + 2) w5 w6 := ⟨H6.out.2.os, H6.out.2.tape, H6.out.2.output, H6.out.2.size, fun j h1 h2 => H6.out.2.block j h1 (by omega)⟩
     have o7 : zl w2.heap.size (w2.heap.size + 2) w7 (w7.setCell ⟨w2.heap.size, k, none⟩ (.slice A7 F.length c7)) := ⟨ho.os, ho.tape, ho.output, ho.size, fun j h1 h2 => ho.block j h1 (by omega)⟩
     have hfn := HFN.out
     have hp := FF7.put hfn hlt (fun i h1 h2 => ⟨HPZ.out.2 i h1 h2, zfA RS h1 (by rw [<- HNR.out]; exact h2)⟩) H7.out.1 hhi6 h7s (Nat.le_refl _)
     have hkR : k < RS.length := by rw [<- HNR.out]; exact hlt
     rw [HF.out, zlu RS hkR, <- HF.out] at hp
     refine ⟨?_, _, _, _, _, hp, by simp, fun i hi => ?_, fun i h1 h2 => ?_, ((((HON.out.trans (zl.of_below H5.out)).trans o6).trans (zl.of_below H7.out.2)).trans o7)⟩
     ·rw [HE3.out, <- HT2.out]
      exact (H6.out.1.below H7.out.2 (by omega)).only ho (.inr (Nat.le_refl _))
     ·have h8 := HPZ.out.1 i hi
      show w2.heap.size + 1 < if i < k then P i else if i = k then w6.heap.size else w7.heap.size
      split
      ·exact h8
      ·split <;> omega
     ·rw [List.getElem?_set_ne (by omega)]
      exact HPZ.out.2 i (by omega) h2)
    have HN2 := Lib.hid (HN.out _ rfl)
    clear hz7 hf7 x6
    obtain ⟨z1, hi', hv', P', Q', z2, z3, z4, z5, z6⟩ := HN2.out
    go_roundw
    case rel => exact ⟨k + 1, hi', hv', P', Q', by omega, by go_num, z1, z2, z3, z4, z5, z6⟩
    case measure => simp [intOf]; omega
   ·have hkn : k = n := by omega
    have HFIN := Lib.hid (show zcf wr w2.heap.size wr.heap.size (.slice (some ⟨w2.heap.size, 0, none⟩) n n) RS from by
     have h1 := hff.mono (Nat.le_refl _) hhi
     rw [hkn, <- HNE.out.2, zlv] at h1
     exact ⟨_, _, _, by rw [<- HNE.out.2]; exact h1⟩)
    have HBF := Lib.hid (show Below w.heap.size w wr from B2.out.trans ((zl.then_ HB4.out hon (Nat.le_refl _)).mono (by have := HS2.out; omega)))
    have HN2 := Lib.hid HNE.out.2
    clear hat hff hhi hPP hzz hon
    go_wp2_with fail
    go_ret
    exact ⟨some ⟨w2.heap.size, 0, none⟩, n, rfl, HFIN.out.mono (by have := HS2.out; omega) (Nat.le_refl _), HBF.out⟩
open Go.RowKit
def zdb (f : zd) : List (List zd) -> Nat -> Int
 | [], _ => -1
 | F :: FF, k => if f ∈ F then (k : Int) else zdb f FF (k + 1)
theorem zdy {f : zd} : ∀ {FF : List (List zd)} {k : Nat}, (∀ F ∈ FF, f ∉ F) -> zdb f FF k = -1
 | [], _, _ => rfl
 | F :: FF, k, h => by
  rw [zdb, if_neg (h F List.mem_cons_self)]
  exact zdy fun G hG => h G (List.mem_cons_of_mem _ hG)
theorem zgb {f : zd} : ∀ {FF : List (List zd)} {k r : Nat} (hr : r < FF.length), f ∈ FF[r] -> (∀ i (h : i < FF.length), i < r -> f ∉ FF[i]) -> zdb f FF k = (k : Int) + r
 | [], _, _, hr, _, _ => absurd hr (by simp)
 | F :: FF, k, 0, _, h, _ => by
  rw [zdb, if_pos (show f ∈ F from h)]
  simp
 | F :: FF, k, r + 1, hr, h, hn => by
  rw [zdb, if_neg (show f ∉ F from hn 0 (by simp) (by omega)), zgb (FF := FF) (k := k + 1) (r := r) (by simpa using hr) h fun i hi hir => hn (i + 1) (by simpa using hi) (by omega)]
  omega
def zbv (p : zal) (fs : List zd) (f : zd) : Int := zdb f (zF p fs) 0
theorem zfs {L : List zd} {f : zd} {k n : Nat} (hn : L.Nodup) (hk : k < L.length) (e : L[k] = f) : f ∈ L.take n <-> k < n := by
 rw [List.mem_take_iff_getElem]
 constructor
 ·rintro ⟨i, hi, e2⟩
  have : i = k := (List.getElem_inj hn).1 (e2.trans e.symm)
  omega
 ·intro h
  exact ⟨k, by omega, e⟩
theorem zeh.ix {w : World} {g o m : Nat} {p : zal} {fs : List zd} {X : List FV} {E : List Nat} {R : Nat -> Value} (h : zeh w g p fs X E o R m) (hl : zcb p fs = true) (f : zd) :
 (f ∉ zj X -> zbv p fs f = -1) /\ ∀ r k : Nat, (∃ hk : k < (zj X).length, (zj X)[k] = f) -> r <= E.length -> (∀ i, i < r -> i < E.length -> E.getD i 0 <= k) -> (∀ i, r <= i -> i < E.length -> k < E.getD i 0) -> zbv p fs f = (r : Int) := by
 obtain ⟨hlen, _⟩ := h.len_ hl
 have hat : ∀ i (hi : i < (zF p fs).length), f ∈ (zF p fs)[i] <-> f ∈ (zj X).take (E.getD i 0) := fun i hi => by
  have him : i <= m := by have := h.len; omega
  have he : (zF p fs)[i] = zaj p.2 (zG fs) i := by
   obtain ⟨h1, h2, h3, _⟩ := zbh hl
   simp [zF, hl, zad]
  rw [he]
  exact ((h.ends i him).2 f).symm
 refine ⟨fun hn => zdy fun F hF => ?_, fun r k ⟨hk, e⟩ hr h1 h2 => ?_⟩
 ·obtain ⟨i, hi, rfl⟩ := List.getElem_of_mem hF
  rw [hat i hi]
  exact fun hm => hn (List.mem_of_mem_take hm)
 ·have hlm := h.len
  have hr2 : r < E.length := by
   apply Classical.byContradiction
   intro hc
   have h3 := h1 m (by omega) (by omega)
   have h4 : f ∈ zj X := by rw [<- e]; exact List.getElem_mem hk
   rw [h.now, <- (h.ends m (Nat.le_refl _)).2, zfs h.fit.nodup hk e] at h4
   omega
  unfold zbv
  rw [zgb (r := r) (by omega) ((hat r (by omega)).2 ((zfs h.fit.nodup hk e).2 (h2 r (Nat.le_refl _) hr2))) fun i hi hir => by
   rw [hat i hi, zfs h.fit.nodup hk e]
   have := h1 i hir (by omega)
   omega]
  simp
open Go.RowKit
theorem zeh.least {w : World} {g o m : Nat} {p : zal} {fs : List zd} {X : List FV} {E : List Nat} {R : Nat -> Value} (h : zeh w g p fs X E o R m) (hl : zcb p fs = true) : zbt (zK zaa (zj X)) p.1 = zel p fs := by
 obtain ⟨h1, h2, h3, _⟩ := zbh hl
 have hm := zeM h1 h2 (zaI.set h3) h.rounds
 have ht := zej h1 h.fit.fits
 unfold zel zcc
 rw [hl, hm]
 exact ht.1.unique (zhh (zaT _) m) fun f => (ht.2 f).trans (h.now f)
open Go.RowKit
open Go.RowKit
theorem zoe {rs : List zJ} {F : List zd} (n : Nat) : ∀ f ∈ zaj rs F n, f ∈ zaj rs F (n + 1) := fun f hf => (zew f).2 (.inl hf)
theorem zjP {rs : List zJ} {F : List zd} {n : Nat} : ∀ m, n <= m -> ∀ f ∈ zaj rs F n, f ∈ zaj rs F m
 | 0, h, f, hf => by
  have : n = 0 := by omega
  subst this
  exact hf
 | m + 1, h, f, hf => by
  by_cases e : n = m + 1
  ·subst e; exact hf
  ·exact zoe m f (zjP m (by omega) f hf)
section
variable {ar : List Int} {rs : List zJ} {F G : List zd}
end
theorem zmV {p : zal} {fs : List zd} (h : zcb p fs = true) : (∀ r ∈ p.2, zdP r = true) /\ zaW p = true /\ Asc fs := by
 simp only [zcb, zaN, Bool.and_eq_true, List.all_eq_true] at h
 exact ⟨h.1.2, h.1.1, (zep h.2).2.2⟩
theorem zoF {fs : List zd} (h : Asc fs) : zG fs = fs := (zaT fs).unique h fun f => zao fs f
theorem zpr {ar : List Int} {fs : List zd} (ha : zr ar = true) (hf : ∀ f ∈ fs, zE ar f = true) (h : Asc fs) : zat ar fs = true := by
 unfold zat
 rw [ha, Bool.true_and, List.all_eq_true]
 intro k hk
 rw [List.mem_range] at hk
 unfold zbT
 rw [zbU hk, hf _ (List.getElem_mem hk), Bool.true_and, Bool.or_eq_true, decide_eq_true_eq, decide_eq_true_eq]
 by_cases e : k = 0
 ·exact .inl e
 ·rw [zbU (show k - 1 < fs.length by omega)]
  exact .inr (List.pairwise_iff_getElem.1 h (k - 1) k (by omega) hk (by omega))
theorem zl0 {p : zal} {fs : List zd} (h : zcb p fs = true) : (zF p fs).length = zd9 p.2 (zG fs) + 1 := by
 unfold zF zad
 rw [h]
 simp
theorem zc2 {p : zal} {fs : List zd} (h : zcb p fs = true) {i : Nat} (hi : i < (zF p fs).length) : (zF p fs)[i] = zaj p.2 (zG fs) i := by
 have e : zF p fs = zad p.2 (zG fs) := by unfold zF; rw [h]; rfl
 simp only [e, zad, List.getElem_map, List.getElem_range]
theorem zhe {p : zal} {fs : List zd} (h : zcb p fs = false) : zF p fs = [] := by
 unfold zF
 rw [h]
 rfl
theorem zkd {p : zal} {fs : List zd} (h : zcb p fs = true) (hi : 0 < (zF p fs).length) : (zF p fs)[0] = fs := by
 rw [zc2 h hi]
 exact zoF (zmV h).2.2
theorem zkZ {p : zal} {fs : List zd} (h : zcb p fs = true) {i : Nat} (hi : i + 1 < (zF p fs).length) : (zF p fs)[i + 1] = zG ((zF p fs)[i] ++ zfC p (zF p fs)[i]) := by
 obtain ⟨h1, h2, h3, h4⟩ := zbh h
 rw [zc2 h hi, zc2 h (show i < _ by omega)]
 have h5 := zpr h1 (zbP h2 (zaI.set h3) i).fits (zhh (rs := p.2) (zaT fs) i)
 unfold zfC
 rw [(zmV h).2.1, h5]
 rfl
theorem zk0 {p : zal} {fs : List zd} (f : zd) (h : zcb p fs = true) (hi : (zF p fs).length - 1 < (zF p fs).length) : zaQ ((zF p fs)[(zF p fs).length - 1]) f = decide (0 <= zbv p fs f) := by
 rw [zbe]
 congr 1
 rw [zc2 h hi]
 refine propext ⟨fun hf => ?_, fun hf => ?_⟩
 ·unfold zbv
  have h2 : ∀ (FF : List (List zd)) (k : Nat), (∃ G ∈ FF, f ∈ G) -> 0 <= zdb f FF k := fun FF => by
   induction FF with
   | nil => rintro k ⟨G, hG, _⟩; exact absurd hG (by simp)
   | cons G FF ih =>
    rintro k ⟨H, hH, hfH⟩
    rw [zdb]
    split
    ·omega
    ·rename_i hn
     rcases List.mem_cons.1 hH with rfl | hH
     ·exact absurd hfH hn
     ·exact ih (k + 1) ⟨H, hH, hfH⟩
  refine h2 _ 0 ⟨(zF p fs)[(zF p fs).length - 1], List.getElem_mem hi, ?_⟩
  rw [zc2 h hi]
  exact hf
 ·have h2 : ¬ ∀ G ∈ zF p fs, f ∉ G := fun h3 => by
   have := zdy (f := f) (k := 0) h3
   unfold zbv at hf
   omega
  obtain ⟨G, h3⟩ := Classical.not_forall.1 h2
  rw [Classical.not_imp] at h3
  obtain ⟨h4, h5⟩ := h3
  obtain ⟨i, hi2, rfl⟩ := List.getElem_of_mem h4
  rw [Classical.not_not, zc2 h hi2] at h5
  exact zjP _ (by omega) f h5
theorem zl2 {p : zal} {fs : List zd} (f : zd) (h : zcb p fs = false) : zbv p fs f = -1 := by
 unfold zbv
 rw [zhe h]
 rfl
open Go.RowKit
section
variable {w w' : World} {lo hi j B : Nat} {v : Value} {hv : List Value} {FF : List (List zd)} {F' : List zd} {P Q : Nat -> Nat}
theorem zbY.set (h : zbY w lo hi v hv FF P Q) (hj : j < FF.length) (hj' : j < hv.length) (hu : zq w' (P j) (Q j) hv[j] F') (ho : zl (P j) (Q j) w w') : zbY w' lo hi v hv (FF.set j F') P Q := by
 obtain ⟨k1, k2, k3, k4⟩ := h.own j hj hj'
 refine ⟨by rw [List.length_set]; exact zw h.row fun b hb => ho.block b (h.row.lt b hb).2 (by have := k4 b hb; omega), h.lt, fun i a b => ?_, fun i m hi hm => h.ord i m hi (by simpa using hm)⟩
 by_cases e : i = j
 ·subst e
  rw [List.getElem_set_self]
  exact ⟨k1, k2, hu, k4⟩
 ·rw [List.length_set] at a
  rw [List.getElem_set_ne (Ne.symm e)]
  obtain ⟨g1, g2, g3, g4⟩ := h.own i a b
  refine ⟨g1, g2, g3.only ho ?_, g4⟩
  rcases Nat.lt_or_gt_of_ne e with h1 | h1
  ·exact .inl (h.ord i j h1 hj)
  ·exact .inr (h.ord j i h1 a)
end
def zkO (FF : List (List zd)) : Nat := (FF.map szF).sum
def zpd (FF : List (List zd)) : Nat := FF.length + zkO FF
theorem zm3 {FF : List (List zd)} {n m : Nat} (hn : FF.length <= n) (hm : ∀ F ∈ FF, szF F <= m) : zkO FF <= n * m := by
 have key : ∀ (l : List (List zd)), (∀ x ∈ l, szF x <= m) -> zkO l <= l.length * m := by
  intro l
  induction l with
  | nil => intro _; simp [zkO]
  | cons x l ih =>
   intro h
   have h1 := h x List.mem_cons_self
   have h2 := ih fun y hy => h y (List.mem_cons_of_mem _ hy)
   simp only [zkO, List.map_cons, List.sum_cons, List.length_cons, Nat.add_mul] at h2 ⊢
   omega
 exact Nat.le_trans (key FF hm) (Nat.mul_le_mul_right m hn)
open Go.RowKit
theorem zcf.only {w w' : World} {lo hi a b : Nat} {v : Value} {FF : List (List zd)} (h : zcf w lo hi v FF) (ho : zl a b w w') (hd : hi <= a \/ b <= lo) : zcf w' lo hi v FF := by
 obtain ⟨hv, P, Q, h⟩ := h
 refine ⟨hv, P, Q, zw h.row fun g hg => ho.block g (h.row.lt g hg).2 (by have := h.lt g hg; have := (h.row.lt g hg).1; omega), h.lt, fun i h1 h2 => ?_, h.ord⟩
 obtain ⟨g1, g2, g3, g4⟩ := h.own i h1 h2
 exact ⟨g1, g2, g3.only ho (by omega), g4⟩
theorem zhH (p : zal) (fs : List zd) : zpd (zF p fs) <= 1073741824 /\ ∀ F ∈ zF p fs, szF F <= 1048576 := by
 have hF : ∀ F ∈ zF p fs, szF F <= 4608 := fun F hF => by
  unfold zF at hF
  cases h : zcb p fs
  ·rw [h] at hF
   simp at hF
  ·obtain ⟨h1, h2, h3, _⟩ := zbh h
   rw [h] at hF
   simp only [if_true, zad, List.mem_map] at hF
   obtain ⟨k, _, rfl⟩ := hF
   have := zgG h1 h2 (zaI.set h3) k
   unfold szF
   omega
 have hn : (zF p fs).length <= 2001 := by
  unfold zF
  split
  ·have h4 : zd9 p.2 (zG fs) <= 2000 := zeA p.2 (zG fs) 2000 0
   simp [zad]
   omega
  ·simp
 have := zm3 hn hF
 exact ⟨by unfold zpd; omega, fun F h => by have := hF F h; omega⟩
set_option maxHeartbeats 2000000 in
theorem zfi (v v2 : Value) (p : zal) (fs : List zd) (w : World) (h : zb7 w w.heap.size v p) (h2 : zu w w.heap.size v2 fs) (hs : szP p <= 1048576) (hn : fs.length <= 1048576) (ht : tot fs <= 1048576) :
 Calls Tryz.prog 21 #[v, v2] w fun e w' => ∃ A' c', e = .returned (.slice A' (zF p fs).length c') /\ zcf w' w.heap.size w'.heap.size (.slice A' (zF p fs).length c') (zF p fs) /\ Below w.heap.size w w' := by
 have HP := Lib.hid h
 have H2 := Lib.hid h2
 have hs' := hs
 unfold szP at hs'
 obtain ⟨a, b, rfl, hA, hR⟩ := h
 have HR := Lib.hid hR
 obtain ⟨A, c, rfl, hcA, _⟩ := hA
 obtain ⟨A2, c2, rfl, hcR, _⟩ := hR
 obtain ⟨A3, c3, rfl, hcF, _⟩ := h2
 obtain ⟨po, hpo⟩ : ∃ po, po = zcb p fs := ⟨_, rfl⟩
 obtain ⟨R, hRR⟩ : ∃ R, R = zF p fs := ⟨_, rfl⟩
 have HRR := Lib.hid (show R = if po then zad p.2 (zG fs) else [] by rw [hRR, hpo]; rfl)
 rw [<- hRR]
 clear hRR
 go_enter Tryz.func21, Tryz.ntmps21
 go_upto_region 1 with fail
 obtain ⟨w1, hw1⟩ : ∃ w1, w1 = w.alloc (Obj.cells #[Value.slice A p.1.length c, Value.slice A2 p.2.length c2] 26) := ⟨_, rfl⟩
 have X1 : Blk w1 w.heap.size 26 #[.slice A p.1.length c, .slice A2 p.2.length c2] := by rw [hw1]; exact Blk.new _ _ _
 have B1 : Below w.heap.size w w1 := by rw [hw1]; exact ze _ _
 rw [<- hw1]
 clear hw1
 have x0 : w1.cell? ⟨w.heap.size, 0, none⟩ = some (.slice A p.1.length c) := X1.cell 0
 have x1 : w1.cell? ⟨w.heap.size, 1, none⟩ = some (.slice A2 p.2.length c2) := X1.cell 1
 have CP := Lib.hid ((zle _ _ p fs w1 (HP.out.on B1) (H2.out.on B1) hs hn ht).mono fun e w' (hh : e = .returned (.bool (zcb p fs)) /\ Below w1.heap.size w1 w') => (⟨by rw [hh.1, hpo], hh.2⟩ : e = .returned (.bool po) /\ Below w1.heap.size w1 w'))
 have HPO := Lib.hid hpo
 have HX1 := Lib.hid X1
 clear hpo X1
 cases po
 ·go_wp2_with (go_at_call 33; refine CP.out.mono ?_; rintro e w2 ⟨rfl, b2⟩; have B2 := Lib.hid (zf B1 b2); clear b2)
  go_ret
  have e : R = [] := by rw [HRR.out]; rfl
  rw [e]
  exact ⟨none, 0, rfl, zcf.none _ _ _, B2.out⟩
 ·obtain ⟨har, hfit, hff, hrl⟩ := zbh HPO.out.symm
  have CA := Lib.hid (fun W (hW : Below w.heap.size w W) => zgD p.1 har p.2 hfit (by omega) (by omega) (.slice A2 p.2.length c2) (.slice A3 fs.length c3) fs W (HR.out.on hW) (H2.out.on hW) hff hn ht)
  have HRE := Lib.hid (show R = zad p.2 (zG fs) by rw [HRR.out]; rfl)
  rw [<- HRE.out] at CA
  clear har hfit hff hrl
  go_wp2_with (first
   | (go_at_call 33; refine CP.out.mono ?_; rintro e w2 ⟨rfl, b2⟩; have B2 := Lib.hid (zf B1 b2)
      have x21 : w2.cell? ⟨w.heap.size, 1, none⟩ = some (.slice A2 p.2.length c2) := (HX1.out.below b2 HX1.out.lt).cell 1
      clear b2)
   | (go_at_call 56; refine (CA.out _ B2.out).mono ?_; rintro e w4 ⟨A4, c4, rfl, o4, b4⟩; have B4 := Lib.hid (zf B2.out b4)
      have O4 := Lib.hid (o4.mono B2.out.size (Nat.le_refl _))
      clear o4 b4))
  go_ret
  exact ⟨A4, c4, rfl, O4.out, B4.out⟩
open Go.RowKit
theorem znb (f g : zd) : (zk f g == 0) = decide (f = g) := by
 by_cases h : f = g
 ·subst h
  simp [zaZ]
 ·rw [decide_eq_false h]
  simpa using fun e => h (zbO e)
set_option maxHeartbeats 1000000 in
theorem zlY (b0 : Nat) (f h : zd) (A A2 : Option Addr) (c c2 : Nat) (w : World) (hf : zv w w.heap.size (.slice A f.2.length c) f.2) (hb : Blk w b0 39 #[.int .i64 h.1, .slice A2 h.2.length c2]) (hh : zv w w.heap.size (.slice A2 h.2.length c2) h.2) (hn : f.2.length <= 1048576) (hn2 : h.2.length <= 1048576) :
 Calls Tryz.prog 91 #[.agg #[.int .i64 f.1, .slice A f.2.length c], .pointer (some ⟨b0, 0, none⟩)] w fun e w' => e = .returned (.bool (decide (f = h))) /\ Below w.heap.size w w' := by
 have HF := Lib.hid hf
 have HH := Lib.hid hh
 have HB := Lib.hid hb
 have hbl := hb.lt
 clear hf hh hb
 go_enter Tryz.func91, Tryz.ntmps91
 go_upto_region 1 with fail
 obtain ⟨w1, hw1⟩ : ∃ w1, w1 = w.alloc (Obj.cells #[Value.int IntKind.i64 f.1, Value.slice A f.2.length c] 39) := ⟨_, rfl⟩
 have X1 : Blk w1 w.heap.size 39 #[.int .i64 f.1, .slice A f.2.length c] := by rw [hw1]; exact Blk.new _ _ _
 have B1 : Below w.heap.size w w1 := by rw [hw1]; exact ze _ _
 rw [<- hw1]
 clear hw1
 have Y1 := HB.out.below B1 hbl
 have y0 : w1.cell? ⟨b0, 0, none⟩ = some (.int .i64 h.1) := Y1.cell 0
 have y1 : w1.cell? ⟨b0, 1, none⟩ = some (.slice A2 h.2.length c2) := Y1.cell 1
 have x0 : w1.cell? ⟨w.heap.size, 0, none⟩ = some (.int .i64 f.1) := X1.cell 0
 have x1 : w1.cell? ⟨w.heap.size, 1, none⟩ = some (.slice A f.2.length c) := X1.cell 1
 have CS := Lib.hid ((zfX (.agg #[.int .i64 f.1, .slice A f.2.length c]) (.agg #[.int .i64 h.1, .slice A2 h.2.length c2]) f h w1 ⟨_, rfl, HF.out.on B1⟩ ⟨_, rfl, HH.out.on B1⟩ hn hn2).mono fun e w' (hx : e = .returned (.bool (zk f h == 0)) /\ Gr w1 w') => (⟨by rw [hx.1, znb], hx.2.below⟩ : e = .returned (.bool (decide (f = h))) /\ Below w1.heap.size w1 w'))
 have HB1 := Lib.hid B1
 clear X1 Y1 B1
 go_wp2_with (go_at_call 87; refine CS.out.mono ?_; rintro e w2 ⟨rfl, b2⟩; have HB2 := Lib.hid (zf HB1.out b2); clear b2)
 go_ret
 exact ⟨rfl, HB2.out⟩
set_option maxHeartbeats 2000000 in
theorem zjt (v : Value) (fs : List zd) (b0 : Nat) (h : zd) (A2 : Option Addr) (c2 : Nat) (w : World) (hr : zu w w.heap.size v fs) (hb : Blk w b0 39 #[.int .i64 h.1, .slice A2 h.2.length c2]) (hh : zv w w.heap.size (.slice A2 h.2.length c2) h.2) (hn : fs.length <= 1048576) (hn1 : ∀ f ∈ fs, f.2.length <= 1048576) (hn2 : h.2.length <= 1048576) :
 Calls Tryz.prog 90 #[v, .func (.func 91) #[] #[.pointer (some ⟨b0, 0, none⟩)]] w fun e w' =>
  ((e = .returned (.int .i64 (-1)) /\ h ∉ fs) \/ ∃ k : Nat, e = .returned (.int .i64 k) /\ (∃ hk : k < fs.length, fs[k] = h)) /\ Below w.heap.size w w' := by
 have H := Lib.hid hr
 have HB := Lib.hid hb
 have HH := Lib.hid hh
 have HL := Lib.hid hn1
 have hbl := hb.lt
 obtain ⟨A, c, rfl, hc, _⟩ := hr
 clear hb hh hn1
 go_enter Tryz.func90, Tryz.ntmps90
 go_wp2_with fail
 go_loopw [8] (fun i wr => ∃ k : Nat, k <= fs.length /\ i = .int .i64 k /\ (∀ j (hj : j < fs.length), j < k -> fs[j] ≠ h) /\ Below w.heap.size w wr) (fun i _ => fs.length - (intOf i).toNat)
 case atStart => exact ⟨0, Nat.zero_le _, rfl, fun j _ h => absurd h (by omega), Below.refl _ _⟩
 case round =>
  obtain ⟨k, hk, rfl, hs, hbe⟩ := hrel
  by_cases hlt : k < fs.length
  ·obtain ⟨b, o, A3, c3, rfl, hbB, k1, k2, k3⟩ := (H.out.below hbe (Nat.le_refl _)).get hlt
   have hsz := hbe.size
   have CI := Lib.hid (zlY b0 fs[k] h A3 A2 c3 c2 wr (k3.more (by omega)) (HB.out.below hbe hbl) (HH.out.on hbe) (HL.out _ (List.getElem_mem hlt)) hn2)
   obtain ⟨f, hfe⟩ : ∃ f, f = fs[k] := ⟨_, rfl⟩
   rw [<- hfe] at CI k1 k2
   have HFE := Lib.hid hfe
   have HS := Lib.hid hs
   have HBE := Lib.hid hbe
   clear k3 hs hbe hfe
   by_cases h0 : f = h
   ·rw [decide_eq_true h0] at CI
    have H0 := Lib.hid h0
    clear h0
    go_wp2_with (go_at_call 91; refine CI.out.mono ?_; rintro e w2 ⟨rfl, hb2⟩; have HB2 := Lib.hid (zf HBE.out hb2); clear hb2)
    go_ret
    exact ⟨.inr ⟨k, rfl, hlt, by rw [<- HFE.out]; exact H0.out⟩, HB2.out⟩
   ·rw [decide_eq_false h0] at CI
    have H0 := Lib.hid h0
    clear h0
    go_wp2_with (go_at_call 91; refine CI.out.mono ?_; rintro e w2 ⟨rfl, hb2⟩; have HB2 := Lib.hid (zf HBE.out hb2); clear hb2)
    go_roundw
    case rel => exact ⟨k + 1, by omega, by go_num, fun j hj hjk => by
     by_cases e : j = k
     ·subst e
      have := H0.out
      rw [HFE.out] at this
      exact this
     ·exact HS.out j hj (by omega), HB2.out⟩
    case measure => simp [intOf]; omega
  ·have HBE := Lib.hid hbe
   have HNO := Lib.hid (show h ∉ fs from fun hm => by
    obtain ⟨j, hj, e⟩ := List.getElem_of_mem hm
    exact hs j hj (by omega) e)
   clear hs hbe
   go_wp2_with fail
   go_ret
   exact ⟨.inl ⟨rfl, HNO.out⟩, HBE.out⟩
end Go.Proofs.YtofkcmihcgmmpaaGreatDoor
