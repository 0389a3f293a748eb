/-
  Texts that the claim's last one imports, laid together: part 15 of 16. No condition of its own.
-/
import Derived.Shelf.SlSortCmp.NoneTotal
import Derived.Laws.BitsAllLaws
import Derived.Test.YtofkcmihcgmmpaaGreatDoorMLq1
import Derived.Test.YtofkcmihcgmmpaaGreatDoorMLq2
import Derived.Test.YtofkcmihcgmmpaaGreatDoorMLq7
import Derived.Test.YtofkcmihcgmmpaaGreatDoorMLq10
import Derived.Test.YtofkcmihcgmmpaaGreatDoorMLq11
import Derived.Test.YtofkcmihcgmmpaaGreatDoorMLq13
import Derived.Test.YtofkcmihcgmmpaaGreatDoorMLq14
namespace Go.Proofs.YtofkcmihcgmmpaaGreatDoor
set_option maxRecDepth 100000
open Go.RowKit
theorem ziy {w w1 W : World} {a b : Value} (hx : Blk w1 w.heap.size 26 #[.slice none 0 0, .slice none 0 0]) (hb : Below w.heap.size w w1) (hW : W = (w1.setCell ⟨w.heap.size, 0, none⟩ a).setCell ⟨w.heap.size, 1, none⟩ b) :
 (W.cell? ⟨w.heap.size, 0, none⟩ = some a /\ W.cell? ⟨w.heap.size, 1, none⟩ = some b) /\ zl w.heap.size (w.heap.size + 1) w1 W /\ w1.heap.size = W.heap.size /\ Below w.heap.size w W := by
 have hbk := (hx.set_ 0 a).set_ 1 b
 rw [<- hW] at hbk
 refine ⟨⟨by rw [hbk.cell 0]; simp, by rw [hbk.cell 1]; simp⟩, ?_, by rw [hW]; simp, by rw [hW]; exact (hb.setCell (Nat.le_refl _) _).setCell (Nat.le_refl _) _⟩
 rw [hW]
 exact ((zl.refl _ _ _).setCell (p := ⟨w.heap.size, 0, none⟩) ⟨Nat.le_refl _, Nat.lt_succ_self _⟩ _).setCell (p := ⟨w.heap.size, 1, none⟩) ⟨Nat.le_refl _, Nat.lt_succ_self _⟩ _
theorem zaM.only {lo g : Nat} {w1 W : World} {u : Value} {p : zav} (h : zaM lo w1 u p) (ho : zl g (g + 1) w1 W) (hg : g < lo) : zaM lo W u p := h.keep ho.size fun k k1 k2 => ho.block k k2 (.inr (by omega))
theorem zaM.on {lo : Nat} {w1 W : World} {u : Value} {p : zav} (h : zaM lo w1 u p) (hb : Below w1.heap.size w1 W) : zaM lo W u p := h.keep hb.size fun k _ k2 => hb.block k k2
theorem zaM.prog {lo : Nat} {w1 : World} {u : Value} {p : zav} (h : zaM lo w1 u p) : zbV w1 w1.heap.size u p := by
 obtain ⟨A, A2, c, c2, rfl, h1, h2⟩ := h.rd
 exact ⟨_, _, rfl, h1, h2⟩
set_option maxHeartbeats 4000000 in
theorem zi2 (v : Value) (code : List Nat) (w : World) (h : zbB w w.heap.size v code) (hby : ∀ b ∈ code, b < 256) (hn : code.length <= 1073741824) :
 Calls Tryz.prog 29 #[v] w fun e w' => ∃ (u : Value) (p : zav) (Af : Option Addr) (cf : Nat) (fs : List zd), e = .returned (.tuple #[u, .slice Af fs.length cf]) /\ zaM w.heap.size w' u p /\ zp w' w.heap.size w'.heap.size (.slice Af fs.length cf) fs /\ fs.length <= 8 /\ tot fs <= 24 /\ Below w.heap.size w w' := by
 have HV := Lib.hid h
 obtain ⟨Av, cv, rfl, hcv, _⟩ := h
 go_enter Tryz.func29, Tryz.ntmps29
 go_upto_region 1 with fail
 obtain ⟨w0, hw0⟩ : ∃ w0, w0 = w.alloc (Obj.cells #[Value.slice none 0 0, Value.slice none 0 0] 26) := ⟨_, rfl⟩
 have HRA := Lib.hid (show Blk w0 w.heap.size 26 #[.slice none 0 0, .slice none 0 0] by rw [hw0]; exact Blk.new _ _ _)
 have HB0 := Lib.hid (show Below w.heap.size w w0 by rw [hw0]; exact ze _ _)
 have HS0 := Lib.hid (show w0.heap.size = w.heap.size + 1 by rw [hw0]; simp)
 rw [<- hw0]
 clear hw0
 by_cases h9 : code.length % 9 = 0
 ·have hb9 : ((code.length : Int) % 9 == 0) = true := by rw [beq_iff_eq]; omega
  go_wp2_with (go_at_call 40; refine (zga _ code 1 w0 (HV.out.onM HB0.out) hby hn).mono ?_
               rintro e w1 ⟨u, p, Af, cf, fs, rfl, hd, hf, hf1, hf2, hb1⟩
               obtain ⟨A, Ar, c, cr, B, es, rfl, e2, e3⟩ := hd
               have HD := Lib.hid (And.intro e2 e3)
               have HF := Lib.hid (And.intro hf (And.intro hf1 hf2))
               have HB1 := Lib.hid hb1
               have HRA1 := Lib.hid (HRA.out.below hb1 HRA.out.lt)
               have j0 : w1.cell? ⟨w.heap.size, 0, none⟩ = some (.slice none 0 0) := HRA1.out.cell 0
               have j1 : w1.cell? ⟨w.heap.size, 1, none⟩ = some (.slice none 0 0) := HRA1.out.cell 1
               have l0 := HRA1.out.frozen 0
               have l1 := HRA1.out.frozen 1
               clear e2 e3 hb1 hf hf1 hf2)
  obtain ⟨W, hW⟩ : ∃ W, W = (w1.setCell ⟨w.heap.size, 0, none⟩ (.slice A p.1.length c)).setCell ⟨w.heap.size, 1, none⟩ (.slice Ar es.length cr) := ⟨_, rfl⟩
  rw [<- hW]
  obtain ⟨⟨d0, d1⟩, hoW, hsz, hBW⟩ := ziy HRA1.out (zf HB0.out HB1.out) hW
  have hs := HS0.out
  refine bodyPost_ret (v := .tuple #[.agg #[.slice A p.1.length c, .slice Ar es.length cr], .slice Af fs.length cf]) (by simp [results, Tryz.results29, go_sem, d0, d1]) rfl ?_
  exact ⟨_, p, Af, cf, fs, rfl, ((show zaM w0.heap.size w1 _ p from ⟨A, Ar, c, cr, B, es, rfl, HD.out.1, HD.out.2⟩).only hoW (by omega)).mono (by omega), (HF.out.1.only hoW (.inr (by omega))).mono (by omega) (Nat.le_of_eq hsz), HF.out.2.1, HF.out.2.2, hBW⟩
 ·have hb9 : ((code.length : Int) % 9 == 0) = false := by rw [beq_eq_false_iff_ne]; omega
  go_wp2_with (go_at_call 40; refine (zga _ code 0 w0 (HV.out.onM HB0.out) hby hn).mono ?_
               rintro e w1 ⟨u, p, Af, cf, fs, rfl, hd, hf, hf1, hf2, hb1⟩
               obtain ⟨A, Ar, c, cr, B, es, rfl, e2, e3⟩ := hd
               have HD := Lib.hid (And.intro e2 e3)
               have HF := Lib.hid (And.intro hf (And.intro hf1 hf2))
               have HB1 := Lib.hid hb1
               have HRA1 := Lib.hid (HRA.out.below hb1 HRA.out.lt)
               have j0 : w1.cell? ⟨w.heap.size, 0, none⟩ = some (.slice none 0 0) := HRA1.out.cell 0
               have j1 : w1.cell? ⟨w.heap.size, 1, none⟩ = some (.slice none 0 0) := HRA1.out.cell 1
               have l0 := HRA1.out.frozen 0
               have l1 := HRA1.out.frozen 1
               clear e2 e3 hb1 hf hf1 hf2)
  obtain ⟨W, hW⟩ : ∃ W, W = (w1.setCell ⟨w.heap.size, 0, none⟩ (.slice A p.1.length c)).setCell ⟨w.heap.size, 1, none⟩ (.slice Ar es.length cr) := ⟨_, rfl⟩
  rw [<- hW]
  obtain ⟨⟨d0, d1⟩, hoW, hsz, hBW⟩ := ziy HRA1.out (zf HB0.out HB1.out) hW
  have hs := HS0.out
  refine bodyPost_ret (v := .tuple #[.agg #[.slice A p.1.length c, .slice Ar es.length cr], .slice Af fs.length cf]) (by simp [results, Tryz.results29, go_sem, d0, d1]) rfl ?_
  exact ⟨_, p, Af, cf, fs, rfl, ((show zaM w0.heap.size w1 _ p from ⟨A, Ar, c, cr, B, es, rfl, HD.out.1, HD.out.2⟩).only hoW (by omega)).mono (by omega), (HF.out.1.only hoW (.inr (by omega))).mono (by omega) (Nat.le_of_eq hsz), HF.out.2.1, HF.out.2.2, hBW⟩
set_option maxHeartbeats 4000000 in
theorem zjB (v : Value) (code : List Nat) (w : World) (h : zbB w w.heap.size v code) (hby : ∀ b ∈ code, b < 256) (hn : code.length <= 1073741824) :
 Calls Tryz.prog 6 #[v] w fun e w' => ∃ (u : Value) (p : zav) (Af : Option Addr) (cf : Nat) (fs : List zd), e = .returned (.tuple #[u, .slice Af fs.length cf]) /\ zaM w.heap.size w' u p /\ zp w' w.heap.size w'.heap.size (.slice Af fs.length cf) fs /\ fs.length <= 8 /\ tot fs <= 24 /\ Below w.heap.size w w' := by
 have HV := Lib.hid h
 obtain ⟨Av, cv, rfl, hcv, _⟩ := h
 go_enter Tryz.func6, Tryz.ntmps6
 go_upto_region 1 with fail
 obtain ⟨w0, hw0⟩ : ∃ w0, w0 = w.alloc (Obj.cells #[Value.slice none 0 0, Value.slice none 0 0] 26) := ⟨_, rfl⟩
 have HRA := Lib.hid (show Blk w0 w.heap.size 26 #[.slice none 0 0, .slice none 0 0] by rw [hw0]; exact Blk.new _ _ _)
 have HB0 := Lib.hid (show Below w.heap.size w w0 by rw [hw0]; exact ze _ _)
 have HS0 := Lib.hid (show w0.heap.size = w.heap.size + 1 by rw [hw0]; simp)
 rw [<- hw0]
 clear hw0
 go_wp2_with (go_at_call 29; refine (zi2 _ code w0 (HV.out.onM HB0.out) hby hn).mono ?_
              rintro e w1 ⟨u, p, Af, cf, fs, rfl, hd, hf, hf1, hf2, hb1⟩
              obtain ⟨A, Ar, c, cr, B, es, rfl, e2, e3⟩ := hd
              have HD := Lib.hid (And.intro e2 e3)
              have HF := Lib.hid (And.intro hf (And.intro hf1 hf2))
              have HB1 := Lib.hid hb1
              have HRA1 := Lib.hid (HRA.out.below hb1 HRA.out.lt)
              have j0 : w1.cell? ⟨w.heap.size, 0, none⟩ = some (.slice none 0 0) := HRA1.out.cell 0
              have j1 : w1.cell? ⟨w.heap.size, 1, none⟩ = some (.slice none 0 0) := HRA1.out.cell 1
              have l0 := HRA1.out.frozen 0
              have l1 := HRA1.out.frozen 1
              clear e2 e3 hb1 hf hf1 hf2)
 obtain ⟨W, hW⟩ : ∃ W, W = (w1.setCell ⟨w.heap.size, 0, none⟩ (.slice A p.1.length c)).setCell ⟨w.heap.size, 1, none⟩ (.slice Ar es.length cr) := ⟨_, rfl⟩
 rw [<- hW]
 obtain ⟨⟨d0, d1⟩, hoW, hsz, hBW⟩ := ziy HRA1.out (zf HB0.out HB1.out) hW
 have hs := HS0.out
 refine bodyPost_ret (v := .tuple #[.agg #[.slice A p.1.length c, .slice Ar es.length cr], .slice Af fs.length cf]) (by simp [results, Tryz.results6, go_sem, d0, d1]) rfl ?_
 exact ⟨_, p, Af, cf, fs, rfl, ((show zaM w0.heap.size w1 _ p from ⟨A, Ar, c, cr, B, es, rfl, HD.out.1, HD.out.2⟩).only hoW (by omega)).mono (by omega), (HF.out.1.only hoW (.inr (by omega))).mono (by omega) (Nat.le_of_eq hsz), HF.out.2.1, HF.out.2.2, hBW⟩
set_option maxHeartbeats 4000000 in
theorem zi3 (v : Value) (code : List Nat) (w : World) (h : zbB w w.heap.size v code) (hby : ∀ b ∈ code, b < 256) (hn : code.length <= 1073741824) :
 Calls Tryz.prog 13 #[v] w fun e w' => ∃ (u : Value) (p : zav) (Af : Option Addr) (cf : Nat) (fs : List zd), e = .returned (.tuple #[u, .slice Af fs.length cf]) /\ zaM w.heap.size w' u p /\ zp w' w.heap.size w'.heap.size (.slice Af fs.length cf) fs /\ fs.length <= 1536 /\ tot fs <= 3072 /\ Below w.heap.size w w' := by
 have HV := Lib.hid h
 obtain ⟨Av, cv, rfl, hcv, _⟩ := h
 go_enter Tryz.func13, Tryz.ntmps13
 go_upto_region 1 with fail
 obtain ⟨w0, hw0⟩ : ∃ w0, w0 = w.alloc (Obj.cells #[Value.slice none 0 0, Value.slice none 0 0] 26) := ⟨_, rfl⟩
 have HRA := Lib.hid (show Blk w0 w.heap.size 26 #[.slice none 0 0, .slice none 0 0] by rw [hw0]; exact Blk.new _ _ _)
 have HB0 := Lib.hid (show Below w.heap.size w w0 by rw [hw0]; exact ze _ _)
 have HS0 := Lib.hid (show w0.heap.size = w.heap.size + 1 by rw [hw0]; simp)
 rw [<- hw0]
 clear hw0
 go_upto_region 2 with (go_at_call 40; refine (zga _ code 0 w0 (HV.out.onM HB0.out) hby hn).mono ?_
                        rintro e w1 ⟨u, p, Af, cf, fs, rfl, hd, hf, hf1, hf2, hb1⟩
                        have hsz := hd.sz
                        have HPR := Lib.hid hd.prog
                        obtain ⟨A, Ar, c, cr, B, es, rfl, e2, e3⟩ := hd
                        have HD := Lib.hid (show zaM w0.heap.size w1 (.agg #[.slice A p.1.length c, .slice Ar es.length cr]) p from ⟨A, Ar, c, cr, B, es, rfl, e2, e3⟩)
                        have HF := Lib.hid (And.intro hf (And.intro hf1 hf2))
                        have HB1 := Lib.hid hb1
                        have HRA1 := Lib.hid (HRA.out.below hb1 HRA.out.lt)
                        clear e2 e3 hb1 hf)
 obtain ⟨D, hD⟩ : ∃ D, D = w1.heap.size := ⟨_, rfl⟩
 obtain ⟨w2, hw2⟩ : ∃ w2, w2 = w1.alloc (Obj.cells #[Value.slice A p.1.length c, Value.slice Ar es.length cr] 26) := ⟨_, rfl⟩
 have b2 : Below w1.heap.size w1 w2 := by rw [hw2]; exact ze _ _
 have BX : Blk w2 D 26 #[.slice A p.1.length c, .slice Ar es.length cr] := by rw [hw2, hD]; exact Blk.new _ _ _
 rw [<- hw2]
 have hD1 : w0.heap.size <= D := by rw [hD]; exact HB1.out.size
 rw [<- hD]
 have HD2 := Lib.hid (HD.out.on b2)
 have HF2 := Lib.hid (HF.out.1.below b2 (Nat.le_refl _))
 have hDl := BX.lt
 have HDD := Lib.hid hD
 clear hw2 hD
 have hs0 := HS0.out
 have HB2 := Lib.hid (zf HB1.out b2)
 have HRA2 := Lib.hid (HRA1.out.below b2 HRA1.out.lt)
 have HBX := Lib.hid (show ∀ W, Below w2.heap.size w2 W -> W.cell? ⟨D, 0, none⟩ = some (.slice A p.1.length c) /\ W.cell? ⟨D, 1, none⟩ = some (.slice Ar es.length cr) from fun W hW => ⟨(BX.below hW BX.lt).cell 0, (BX.below hW BX.lt).cell 1⟩)
 have HPW := Lib.hid (show ∀ W, Below w2.heap.size w2 W -> zbV W W.heap.size (.agg #[.slice A p.1.length c, .slice Ar es.length cr]) p from fun W hW => ((HD2.out.on hW).prog))
 have HFW := Lib.hid (show ∀ W, Below w2.heap.size w2 W -> zt W W.heap.size (.slice Af fs.length cf) fs from fun W hW => (HF.out.1.rd.on b2).on hW)
 clear BX b2
 obtain ⟨SS, hSS⟩ : ∃ SS : World -> Prop, SS = (fun W => W.cell? ⟨D, 0, none⟩ = some (.slice A p.1.length c) /\ W.cell? ⟨D, 1, none⟩ = some (.slice Ar es.length cr)) := ⟨_, rfl⟩
 have HB := Lib.hid (show ∀ W, SS W -> W.cell? ⟨D, 0, none⟩ = some (.slice A p.1.length c) /\ W.cell? ⟨D, 1, none⟩ = some (.slice Ar es.length cr) from by rw [hSS]; exact fun W hW => hW)
 have HC := Lib.hid (show ∀ W, Below w2.heap.size w2 W -> SS W from by rw [hSS]; exact fun W hW => HBX.out W hW)
 clear hSS
 have COK := Lib.hid (fun W (hW : Below w2.heap.size w2 W) => zlv (.agg #[.slice A p.1.length c, .slice Ar es.length cr]) (.slice Af fs.length cf) p fs W (HPW.out _ hW) (HFW.out _ hW) (by omega) (by omega) (by omega))
 obtain ⟨x0, x1⟩ := HBX.out _ (Below.refl _ _)
 obtain ⟨fl, wt, hfl⟩ : ∃ (fl : Bool) (wt : World), True := ⟨true, w2, trivial⟩
 clear hfl wt fl
 go_cut [19] (fun s19 wx => (∃ y, s19 = .bool y) /\ Below w2.heap.size w2 wx)
 case first =>
  by_cases h2 : code.length % 2 = 0
  ·have hb2 : ((code.length : Int) % 2 == 0) = true := by rw [beq_iff_eq]; omega
   go_wp2_with (go_at_call 33; refine (COK.out _ (Below.refl _ _)).mono ?_
                rintro e w3 ⟨rfl, b3⟩
                have B3 := Lib.hid b3
                clear b3)
   go_meet
   exact ⟨⟨_, rfl⟩, B3.out⟩
  ·have hb2 : ((code.length : Int) % 2 == 0) = false := by rw [beq_eq_false_iff_ne]; omega
   go_wp2_with (fail)
   go_meet
   exact ⟨⟨_, rfl⟩, Below.refl _ _⟩
 case rest =>
 obtain ⟨⟨y, rfl⟩, hb3⟩ := hcut
 rename World => w3
 have B3 := Lib.hid hb3
 clear hb3 x0 x1
 cases y
 ·obtain ⟨x0, x1⟩ := HBX.out _ B3.out
  have J := HRA2.out.below B3.out HRA2.out.lt
  have j0 : w3.cell? ⟨w.heap.size, 0, none⟩ = some (.slice none 0 0) := J.cell 0
  have j1 : w3.cell? ⟨w.heap.size, 1, none⟩ = some (.slice none 0 0) := J.cell 1
  have l0 := J.frozen 0
  have l1 := J.frozen 1
  clear J
  go_wp2_with (fail)
  obtain ⟨W, hW⟩ : ∃ W, W = (w3.setCell ⟨w.heap.size, 0, none⟩ (.slice A p.1.length c)).setCell ⟨w.heap.size, 1, none⟩ (.slice Ar es.length cr) := ⟨_, rfl⟩
  rw [<- hW]
  obtain ⟨⟨d0, d1⟩, hoW, hszW, hBW⟩ := ziy (HRA2.out.below B3.out HRA2.out.lt) (zf HB0.out (zf HB2.out B3.out)) hW
  refine bodyPost_ret (v := .tuple #[.agg #[.slice A p.1.length c, .slice Ar es.length cr], .slice Af fs.length cf]) (by simp [results, Tryz.results13, go_sem, d0, d1]) rfl ?_
  exact ⟨_, p, _, _, fs, rfl, (((HD2.out.on B3.out).only hoW (by omega)).mono (by omega)), ((HF2.out.below B3.out (by have := HDD.out; have := HB2.out.size; omega)).only hoW (.inr (by omega))).mono (by omega) (by have := hszW; have := B3.out.size; have := HDD.out; omega), by have := HF.out.2.1; omega, by have := HF.out.2.2; omega, hBW⟩
 ·go_upto_region 3 with fail
  have CL := Lib.hid (fun W (hW : Below w2.heap.size w2 W) => zfV (.agg #[.slice A p.1.length c, .slice Ar es.length cr]) (.slice Af fs.length cf) p fs W (HPW.out _ hW) (HFW.out _ hW) (by omega) (by omega) (by omega))
  obtain ⟨L, hL⟩ : ∃ L, L = zaA p fs := ⟨_, rfl⟩
  have HLF := Lib.hid (show L.length <= 1536 /\ tot L <= 3072 by rw [hL]; exact zf9 p fs)
  rw [<- hL] at CL
  clear hL
  refine zC SS 4 6 (by kernel_rfl) rfl ?_
  have B3d := Lib.hid (zf B3.out (Below.refl _ w3).drew)
  obtain ⟨wy, hwy⟩ : ∃ wy, wy = w3.drew := ⟨_, rfl⟩
  rw [<- hwy] at B3d ⊢
  clear hwy
  have S0 := HC.out _ B3d.out
  refine za (i := 2) (oi := _) ?va2 rfl rfl (by kernel_rfl) (by decide) (fun _ _ _ h => h) rfl ?hya2 (fun _ => S0) ?resta2
  case hya2 => (intro W; go_simp; (try with_reducible rfl))
  try simp only [zs.a, zs.b, zs.c]
  refine zk (i := 0) (oi := _) ?va0 rfl rfl (by kernel_rfl) (fun _ _ _ h => h) rfl ?hya0 S0 ?resta0
  case hya0 => (intro W hW; obtain ⟨d0, d1⟩ := HB.out W hW; go_simp; (try with_reducible rfl))
  try simp only [zs.a, zs.b, zs.c]
  refine zk (i := 1) (oi := _) ?va1 rfl rfl (by kernel_rfl) (fun _ _ _ h => h) rfl ?hya1 S0 ?resta1
  case hya1 => (intro W hW; obtain ⟨d0, d1⟩ := HB.out W hW; go_simp; (try with_reducible rfl))
  try simp only [zs.a, zs.b, zs.c]
  refine zh (i := 3) (by kernel_rfl) rfl (fun K hK => ?_)
  try rw [if_pos (show Region.wanted _ _ = true from rfl)]
  go_simp
  refine (CL.out _ B3d.out).mono ?_
  rintro e w4 ⟨A4, c4, rfl, o4, b4⟩
  have B4 := Lib.hid (zf B3d.out b4)
  have HO4 := Lib.hid o4
  have hs3 := B3d.out.size
  have S1 := HC.out _ B4.out
  have J := HRA2.out.below B4.out HRA2.out.lt
  have j0 : w4.cell? ⟨w.heap.size, 0, none⟩ = some (.slice none 0 0) := J.cell 0
  have j1 : w4.cell? ⟨w.heap.size, 1, none⟩ = some (.slice none 0 0) := J.cell 1
  have l0 := J.frozen 0
  have l1 := J.frozen 1
  clear o4 b4 J
  refine hK.out _ _ (fun _ => S1) ?_
  clear hK K
  try simp only [zs.a, zs.b, zs.c, Act.put]
  refine zh (i := 4) (by kernel_rfl) rfl (fun K hK => ?_)
  try rw [if_pos (show Region.wanted _ _ = true from rfl)]
  go_simp
  refine hK.out _ _ (fun hf => absurd hf (by decide)) ?_
  clear hK K
  try simp only [zs.a, zs.b, zs.c, Act.put]
  refine zh (i := 5) (by kernel_rfl) rfl (fun K hK => ?_)
  go_simp
  refine hK.out _ _ (fun hf => absurd hf (by decide)) ?_
  clear hK K
  refine zK (by kernel_rfl) ?_
  go_wp2_with (fail)
  obtain ⟨W, hW⟩ : ∃ W, W = (w4.setCell ⟨w.heap.size, 0, none⟩ (.slice A p.1.length c)).setCell ⟨w.heap.size, 1, none⟩ (.slice Ar es.length cr) := ⟨_, rfl⟩
  rw [<- hW]
  obtain ⟨⟨d0, d1⟩, hoW, hszW, hBW⟩ := ziy (HRA2.out.below B4.out HRA2.out.lt) (zf HB0.out (zf HB2.out B4.out)) hW
  refine bodyPost_ret (v := .tuple #[.agg #[.slice A p.1.length c, .slice Ar es.length cr], .slice A4 L.length c4]) (by simp [results, Tryz.results13, go_sem, d0, d1]) rfl ?_
  exact ⟨_, p, _, _, L, rfl, (((HD2.out.on B4.out).only hoW (by omega)).mono (by omega)), (HO4.out.only hoW (.inr (by omega))).mono (by omega) (by have := hszW; have := B4.out.size; have := HDD.out; omega), HLF.out.1, HLF.out.2, hBW⟩
open Go.RowKit
open Go.RowKit
section
variable {w w' : World} {lo hi b : Nat} {v : Value} {hv : List Value} {FF : List (List zd)} {F : List zd} {P Q : Nat -> Nat}
theorem zp.none (w : World) (p q : Nat) : zp w p q (.slice none 0 0) [] := ⟨_, .nil, World.ownsRow_nil _ _ _ _, fun g hg => by cases hg⟩
theorem zfE.none (w : World) (p q : Nat) : zfE w p q (.slice none 0 0) [] := ⟨[], fun _ => 0, fun _ => 0, ⟨World.ownsRow_nil _ _ _ _, fun g hg => (by cases hg), fun i h1 => absurd h1 (by simp), fun i j _ h1 => absurd h1 (by simp)⟩⟩
theorem zde.only (h : zde w lo hi v hv FF P Q) (ho : zl b (b + 1) w w') (hne : ∀ g, v.ownBlock = some g -> g ≠ b) (hP : ∀ i, i < FF.length -> b < P i) : zde w' lo hi v hv FF P Q where
 row := zD h.row fun g hg => ho.block g (h.row.lt g hg).2 (by have := hne g hg; omega)
 lt := h.lt
 own i h1 h2 := by
  obtain ⟨g1, g2, g3, g4⟩ := h.own i h1 h2
  exact ⟨g1, g2, g3.only ho (.inr (hP i h1)), g4⟩
 ord := h.ord
theorem zde.put {g c n j a m : Nat} {u : Value} (h : zde w lo hi (.slice (some ⟨g, 0, none⟩) n c) hv FF P Q) (hn : FF.length = n) (hj : j < n) (hz : ∀ i, j <= i -> i < n -> hv[i]? = some (.slice none 0 0) /\ FF[i]? = some [])
 (hu : zp w a m u F) (ha : hi <= a) (ham : a <= m) (hm : m <= w.heap.size) :
 zde (w.setCell ⟨g, j, none⟩ u) lo m (.slice (some ⟨g, 0, none⟩) n c) (hv.set j u) (FF.set j F) (fun i => if i < j then P i else if i = j then a else m) (fun i => if i < j then Q i else m) := by
 subst hn
 have hlen := h.len
 have hgl : g < hi := h.lt g rfl
 have hgw := h.row.lt g rfl
 have hst := h.row.stored j u
 have keep : ∀ {p q : Nat} {x : Value} {G : List zd}, zp w p q x G -> (g < p \/ q <= g) -> zp (w.setCell ⟨g, j, none⟩ u) p q x G := fun {p q x G} h0 hne => by
  have ho : zl g (g + 1) w (w.setCell ⟨g, j, none⟩ u) := zl.setCell (zl.refl g (g + 1) w) (p := ⟨g, j, none⟩) ⟨Nat.le_refl g, Nat.lt_succ_self g⟩ u
  exact h0.only ho (by omega)
 refine ⟨by rw [List.length_set]; exact hst.1, fun g2 hg2 => by have := h.lt g2 hg2; omega, fun i h1 h2 => ?_, fun i k hik hk => ?_⟩
 ·rw [List.length_set] at h1 h2
  obtain ⟨g1, g2, g3, g4⟩ := h.own i h1 h2
  by_cases e1 : i < j
  ·simp only [if_pos e1]
   rw [List.getElem_set_ne (by omega), List.getElem_set_ne (by omega)]
   exact ⟨g1, ⟨g2.1, by omega⟩, keep g3 (by have := g4 g rfl; omega), g4⟩
  ·by_cases e2 : i = j
   ·subst e2
    simp only [if_neg e1, if_true]
    rw [List.getElem_set_self, List.getElem_set_self]
    exact ⟨by omega, ⟨ham, Nat.le_refl _⟩, keep hu (by omega), fun g2 hg2 => by have := h.lt g2 hg2; omega⟩
   ·simp only [if_neg e1, if_neg e2]
    rw [List.getElem_set_ne (by omega), List.getElem_set_ne (by omega)]
    obtain ⟨z1, z2⟩ := hz i (by omega) h1
    rw [List.getElem?_eq_getElem h2] at z1
    rw [List.getElem?_eq_getElem h1] at z2
    injection z1 with z1
    injection z2 with z2
    rw [z1, z2]
    exact ⟨by omega, ⟨Nat.le_refl _, Nat.le_refl _⟩, zp.none _ _ _, fun g2 hg2 => by have := h.lt g2 hg2; omega⟩
 ·rw [List.length_set] at hk
  by_cases e1 : k < j
  ·simp only [if_pos e1, if_pos (show i < j by omega)]
   exact h.ord i k hik hk
  ·by_cases e2 : i < j
   ·simp only [if_pos e2, if_neg e1]
    have hi2 := (h.own i (by omega) (by omega)).2.1
    split <;> omega
   ·simp only [if_neg e2, if_neg e1, if_neg (show ¬ k = j by omega)]
    omega
end
open Go.RowKit
open Go.RowKit
open Go.RowKit
theorem zkc.least {w : World} {g o m : Nat} {p : zav} {fs : List zd} {X : List FV} {E : List Nat} {R : Nat -> Value} (h : zkc w g p fs X E o R m) (hl : zcp p fs = true) : zb3 (zN z8 (zn X)) p.1 = zaA p fs := by
 obtain ⟨h1, h2, h3, _⟩ := zbt hl
 have hm := zf7 h1 h2 (zan.set h3) h.rounds
 have ht := zjm h1 h.fit.fits
 unfold zaA zaN
 rw [hl, hm]
 exact ht.1.unique (zhg (zaC _) m) fun f => (ht.2 f).trans (h.now f)
set_option maxHeartbeats 4000000 in
theorem zep (v v2 : Value) (p : zav) (fs : List zd) (w : World) (h : zbV w w.heap.size v p) (h2 : zt w w.heap.size v2 fs) (hs : szP p <= 1048576) (hn : fs.length <= 1048576) (ht : tot fs <= 1048576) (hT : Tab w) :
 Calls Tryz.prog 7 #[v, v2] w fun e w' => ∃ A' c', e = .returned (.slice A' (zaA p fs).length c') /\ zp w' w.heap.size w'.heap.size (.slice A' (zaA p fs).length c') (zaA p fs) /\ Below w.heap.size w w' := by
 have HT := Lib.hid hT
 have HP := Lib.hid h
 have H2 := Lib.hid h2
 obtain ⟨a, b, rfl, hA, hR⟩ := h
 have HA := Lib.hid hA
 obtain ⟨A, c, rfl, hcA, _⟩ := hA
 obtain ⟨A2, c2, rfl, hcR, _⟩ := hR
 obtain ⟨A3, c3, rfl, hcF, _⟩ := h2
 obtain ⟨R, hRR⟩ : ∃ R, R = zaA p fs := ⟨_, rfl⟩
 have HRR := Lib.hid hRR
 rw [<- hRR]
 clear hRR hT
 go_enter Tryz.func7, Tryz.ntmps7
 go_upto_region 1 with fail
 obtain ⟨w1, hw1⟩ : ∃ w1, w1 = w.alloc (Obj.cells #[Value.slice A p.1.length c, Value.slice A2 p.2.length c2] 26) := ⟨_, rfl⟩
 have X1 : Blk w1 w.heap.size 26 #[.slice A p.1.length c, .slice A2 p.2.length c2] := by rw [hw1]; exact Blk.new _ _ _
 have B1 : Below w.heap.size w w1 := by rw [hw1]; exact ze _ _
 rw [<- hw1]
 clear hw1
 have x0 : w1.cell? ⟨w.heap.size, 0, none⟩ = some (.slice A p.1.length c) := X1.cell 0
 have x1 : w1.cell? ⟨w.heap.size, 1, none⟩ = some (.slice A2 p.2.length c2) := X1.cell 1
 have CG := Lib.hid (zkF _ _ p fs w1 (HP.out.on B1) (H2.out.on B1) hs hn ht)
 have HX1 := Lib.hid X1
 clear X1
 go_wp2_with (go_at_call 30; refine CG.out.mono ?_; rintro e w2 ⟨hcase, b2⟩; rcases hcase with ⟨hno, rfl⟩ | ⟨hyes, g, X, E, o, Rg, m, rfl, hg, hgr⟩)
 ·go_wp2_with fail
  go_ret
  have e : R = [] := by rw [HRR.out]; unfold zaA; rw [hno]; rfl
  rw [e]
  exact ⟨none, 0, rfl, ⟨_, .nil, World.ownsRow_nil _ _ _ _, fun g hg => by cases hg⟩, zf B1 b2⟩
 ·have HGR := Lib.hid hgr
  have HY := Lib.hid hyes
  have B2 := Lib.hid (zf B1 b2)
  have X2 := Lib.hid (HX1.out.below b2 HX1.out.lt)
  have HG := Lib.hid hg
  obtain ⟨har, _⟩ := zbt hyes
  have HAR := Lib.hid har
  have x20 : w2.cell? ⟨w.heap.size, 0, none⟩ = some (.slice A p.1.length c) := X2.out.cell 0
  clear hgr hyes b2 x0 x1 har
  go_upto_region 4 with fail
  obtain ⟨SS, hSS⟩ : ∃ SS : World -> Prop, SS = (fun W => Below w2.heap.size w2 W /\ W.cell? ⟨w.heap.size, 0, none⟩ = some (.slice A p.1.length c)) := ⟨_, rfl⟩
  have HB := Lib.hid (show ∀ W, SS W -> (Below w2.heap.size w2 W /\ W.cell? ⟨w.heap.size, 0, none⟩ = some (.slice A p.1.length c)) from by rw [hSS]; exact fun W hW => hW)
  have HS := Lib.hid (show ∀ W, Below w2.heap.size w2 W -> SS W from by
   rw [hSS]
   exact fun W hW => ⟨hW, (hW.cell (World.block_lt_of_cell? _ _ x20)).trans x20⟩)
  clear hSS
  have BB : Below w2.heap.size w2 w2.drew := (Below.refl _ _).drew
  have SB := HS.out _ BB
  have CT := Lib.hid (zjn g (zN z8 (zn X)) (.slice A p.1.length c) p.1 w2.drew (HGR.out.at_.drew.tab) ((HA.out.on B2.out).on BB) HAR.out ((HT.out.below B2.out).below BB))
  rw [HGR.out.least HY.out, <- HRR.out] at CT
  refine zC SS 6 7 (by kernel_rfl) rfl ?_
  refine za (i := 0) (oi := _) ?va0 rfl rfl (by kernel_rfl) (by decide) (fun _ _ _ h => h) rfl ?hya0 (fun _ => SB) ?resta0
  case hya0 => (intro W; go_simp; (try with_reducible rfl))
  try simp only [zs.a, zs.b, zs.c]
  refine za (i := 1) (oi := _) ?va1 rfl rfl (by kernel_rfl) (by decide) (fun _ _ _ h => h) rfl ?hya1 (fun _ => SB) ?resta1
  case hya1 => (intro W; go_simp; (try with_reducible rfl))
  try simp only [zs.a, zs.b, zs.c]
  refine za (i := 2) (oi := _) ?va2 rfl rfl (by kernel_rfl) (by decide) (fun _ _ _ h => h) rfl ?hya2 (fun _ => SB) ?resta2
  case hya2 => (intro W; go_simp; (try with_reducible rfl))
  try simp only [zs.a, zs.b, zs.c]
  refine za (i := 3) (oi := _) ?va3 rfl rfl (by kernel_rfl) (by decide) (fun _ _ _ h => h) rfl ?hya3 (fun _ => SB) ?resta3
  case hya3 => (intro W; go_simp; (try with_reducible rfl))
  try simp only [zs.a, zs.b, zs.c]
  refine zk (i := 4) (oi := _) ?va4 rfl rfl (by kernel_rfl) (fun _ _ _ h => h) rfl ?hya4 SB ?resta4
  case hya4 => (intro W hW; obtain ⟨_, E0⟩ := HB.out W hW; go_simp; (try with_reducible rfl))
  try simp only [zs.a, zs.b, zs.c]
  refine zh (i := 5) (by kernel_rfl) rfl (fun K hK => ?_)
  try rw [if_pos (show Region.wanted _ _ = true from rfl)]
  go_simp
  refine CT.out.mono ?_
  rintro e5 w5 ⟨A5, c5, rfl, o5, b5⟩
  have H5 := Lib.hid (And.intro o5 b5)
  clear o5 b5
  have S5 := HS.out w5 (zf BB H5.out.2)
  refine hK.out _ _ (fun _ => S5) ?_
  clear hK K
  try simp only [zs.a, zs.b, zs.c, Act.put]
  refine zh (i := 6) (by kernel_rfl) rfl (fun K hK => ?_)
  go_simp
  refine hK.out _ _ (fun hf => absurd hf (by decide)) ?_
  clear hK K
  refine zK (by kernel_rfl) ?_
  clear S5 SB HB HS
  go_wp2_with fail
  go_ret
  exact ⟨A5, c5, rfl, H5.out.1.mono (Nat.le_trans B2.out.size BB.size) (Nat.le_refl _), zf B2.out (zf BB H5.out.2)⟩
open Go.RowKit
open Go.RowKit
theorem zmb {L M : List zd} (hL : L.Nodup) (hs : ∀ f ∈ L, f ∈ M) (hl : M.length = L.length) : ∀ f ∈ M, f ∈ L := fun f hf => by
 by_cases h : f ∈ L
 ·exact h
 ·have := zc6 (l := f :: L) (m := M) (List.nodup_cons.2 ⟨h, hL⟩) fun x hx => by
   rcases List.mem_cons.1 hx with rfl | hx
   ·exact hf
   ·exact hs x hx
  simp at this
  omega
theorem zlB {rs : List zH} {F : List zd} (n : Nat) : ∀ f ∈ zag rs F n, f ∈ zag rs F (n + 1) := fun f hf => (zc5 f).2 (.inl hf)
theorem zjX {rs : List zH} {F : List zd} {n : Nat} : ∀ m, n <= m -> ∀ f ∈ zag rs F n, f ∈ zag rs F m
 | 0, h, f, hf => by
  have : n = 0 := by omega
  subst this
  exact hf
 | m + 1, h, f, hf => by
  by_cases e : n = m + 1
  ·subst e; exact hf
  ·exact zlB m f (zjX m (by omega) f hf)
section
variable {ar : List Int} {rs : List zH} {F G : List zd}
theorem zny (har : zr ar = true) (hr : ∀ r ∈ rs, zv ar r = true) (hF : zan ar F) : ∃ m, zb0 rs F m := by
 have h : ∀ n, (∃ m, zb0 rs F m) \/ ∀ k, k < n -> (zag rs F (k + 1)).length ≠ (zag rs F k).length := fun n => by
  induction n with
  | zero => exact .inr fun k hk => absurd hk (Nat.not_lt_zero _)
  | succ n ih =>
   rcases ih with h | h
   ·exact .inl h
   ·by_cases e : (zag rs F (n + 1)).length = (zag rs F n).length
    ·exact .inl ⟨n, h, e⟩
    ·refine .inr fun k hk => ?_
     by_cases e2 : k = n
     ·subst e2; exact e
     ·exact h k (by omega)
 rcases h 1537 with h | h
 ·exact h
 ·have h1 := zdh h hF.nodup (fun k => (za0 hr hF k).nodup) 1537 (Nat.le_refl _)
  have h2 := (zcJ har (za0 hr hF 1537).nodup (za0 hr hF 1537).fits).1
  omega
theorem zow (har : zr ar = true) (hr : ∀ r ∈ rs, zv ar r = true) (hF : zan ar F) : zb0 rs F (zfI rs F) := by
 obtain ⟨m, h⟩ := zny har hr hF
 rw [zf7 har hr hF h]
 exact h
theorem zhe (har : zr ar = true) (hr : ∀ r ∈ rs, zv ar r = true) (hF : zan ar F) : ∀ f ∈ zM rs (zaN rs F), f ∈ zaN rs F := fun f hf =>
 zmb (za0 hr hF _).nodup (zlB _) (zow har hr hF).2 f ((zc5 f).2 (.inr hf))
theorem zhd : ∀ f ∈ F, f ∈ zaN rs F := zjX (n := 0) _ (Nat.zero_le _)
theorem zjP (hr : ∀ r ∈ rs, zv ar r = true) (hF : zan ar F) : zan ar (zaN rs F) := za0 hr hF _
theorem zmK {l : zF} {b : List Int} (h : l.1 ≠ 1) (hs : ∀ f ∈ F, f ∈ G) (h2 : zI F l b = true) : zI G l b = true := by
 by_cases h0 : l.1 = 0
 ·rw [zbS h0] at h2 ⊢
  exact ⟨h2.1, hs _ h2.2⟩
 ·unfold zI at h2 ⊢
  by_cases hk : l.1 = 2 \/ l.1 = 3
  ·rw [if_pos hk] at h2 ⊢
   exact h2
  ·rw [if_neg hk, Bool.and_eq_true, Bool.and_eq_true] at h2
   have := h2.1.2
   simp only [decide_eq_true_eq] at this
   omega
theorem zo6 {r : zH} (h : zb7 r = true) : ∀ l ∈ r.2, l.1 ≠ 1 := fun l hl e => by
 unfold zb7 at h
 rw [List.all_eq_true] at h
 have := h l hl
 simp [ze9, e] at this
theorem zmL (hr : ∀ r ∈ rs, zv ar r = true) (hp : ∀ r ∈ rs, zb7 r = true) (hF : zan ar F) (hG : zan ar G) (hs : ∀ f ∈ F, f ∈ G) : ∀ f ∈ zM rs F, f ∈ zM rs G := fun f hf => by
 rw [zbP hr hF.consts hF.nodup] at hf
 rw [zbP hr hG.consts hG.nodup]
 obtain ⟨r, h1, b, ⟨a1, a2, a3⟩, h3⟩ := hf
 exact ⟨r, h1, b, ⟨a1, a2, fun l hl => zmK (zo6 (hp r h1) l hl) hs (a3 l hl)⟩, h3⟩
theorem zkC (hr : ∀ r ∈ rs, zv ar r = true) (hp : ∀ r ∈ rs, zb7 r = true) (hF : zan ar F) (hG : zan ar G) (hs : ∀ f ∈ F, f ∈ G) (hc : ∀ f ∈ zM rs G, f ∈ G) : ∀ n, ∀ f ∈ zag rs F n, f ∈ G
 | 0 => hs
 | n + 1 => fun f hf => by
  rcases (zc5 f).1 hf with h | h
  ·exact zkC hr hp hF hG hs hc n f h
  ·exact hc f (zmL hr hp (za0 hr hF n) hG (zkC hr hp hF hG hs hc n) f h)
theorem zls (hr : ∀ r ∈ rs, zv ar r = true) (hp : ∀ r ∈ rs, zb7 r = true) (hF : zan ar F) (hG : zan ar G) (hs : ∀ f ∈ F, f ∈ G) (hc : ∀ f ∈ zM rs G, f ∈ G) : ∀ f ∈ zaN rs F, f ∈ G := zkC hr hp hF hG hs hc _
theorem zmv (har : zr ar = true) (hr : ∀ r ∈ rs, zv ar r = true) (hp : ∀ r ∈ rs, zb7 r = true) (hF : zan ar F) (hG : zan ar G) (hs : ∀ f ∈ F, f ∈ G) : ∀ f ∈ zaN rs F, f ∈ zaN rs G :=
 zls hr hp hF (zjP hr hG) (fun f hf => zhd f (hs f hf)) (zhe har hr hG)
end
theorem zie {p : zav} {fs : List zd} (h : zcp p fs = true) : (∀ r ∈ p.2, zb7 r = true) /\ zaL p = true /\ Asc fs := by
 simp only [zcp, zaD, Bool.and_eq_true, List.all_eq_true] at h
 exact ⟨h.1.2, h.1.1, (zcr h.2).2.2⟩
theorem znb {fs : List zd} (h : Asc fs) : zJ fs = fs := (zaC fs).unique h fun f => zS fs f
theorem zoP {ar : List Int} {fs : List zd} (ha : zr ar = true) (hf : ∀ f ∈ fs, zz ar f = true) (h : Asc fs) : zah ar fs = true := by
 unfold zah
 rw [ha, Bool.true_and, List.all_eq_true]
 intro k hk
 rw [List.mem_range] at hk
 unfold zbX
 rw [zbY hk, hf _ (List.getElem_mem hk), Bool.true_and, Bool.or_eq_true, decide_eq_true_eq, decide_eq_true_eq]
 by_cases e : k = 0
 ·exact .inl e
 ·rw [zbY (show k - 1 < fs.length by omega)]
  exact .inr (List.pairwise_iff_getElem.1 h (k - 1) k (by omega) hk (by omega))
theorem zcx {p : zav} {fs : List zd} (h : zcp p fs = true) : zaA p fs = zaN p.2 (zJ fs) := by
 unfold zaA
 rw [h]
 rfl
theorem zha {xs ys : List zd} (h : ∀ f ∈ xs, f ∈ ys) : zaY xs ys false = [] := by
 unfold zaY
 have : xs.filter (fun f => zaj ys f == false) = [] := by
  rw [List.filter_eq_nil_iff]
  intro f hf
  rw [zbh]
  simp [h f hf]
 rw [this]
 rfl
theorem zjQ {p : zav} {fs : List zd} (h : zcp p fs = true) : zcp p (zaA p fs) = true := by
 obtain ⟨h1, h2, h3, h4⟩ := zbt h
 have hF := zan.set h3
 rw [zcx h]
 have h5 := zoP h1 (zjP h2 hF).fits (zhg (rs := p.2) (zaC fs) (zfI p.2 (zJ fs)))
 unfold zcp at h ⊢
 rw [Bool.and_eq_true] at h ⊢
 exact ⟨h.1, h5⟩
theorem zjx {p : zav} {fs : List zd} (h : zcp p fs = true) : zdi p (zaA p fs) = true := by
 obtain ⟨h1, h2, h3, h4⟩ := zbt h
 have hF := zan.set h3
 have h5 := zjQ h
 unfold zcp at h5
 rw [Bool.and_eq_true] at h5
 unfold zdi
 rw [(zie h).2.1, h5.2, zcx h, zha (zhe h1 h2 hF)]
 rfl
theorem zmw {p : zav} {fs : List zd} (h : zcp p fs = true) : ∀ f ∈ fs, f ∈ zaA p fs := fun f hf => by
 rw [zcx h]
 exact zhd f ((zS fs f).2 hf)
theorem zlt {p : zav} {fs gs : List zd} (h : zcp p fs = true) (h2 : zcp p gs = true) (hs : ∀ f ∈ fs, f ∈ gs) : ∀ f ∈ zaA p fs, f ∈ zaA p gs := by
 obtain ⟨a1, a2, a3, a4⟩ := zbt h
 obtain ⟨b1, b2, b3, b4⟩ := zbt h2
 rw [zcx h, zcx h2]
 exact zmv a1 a2 (zie h).1 (zan.set a3) (zan.set b3) fun f hf => (zS gs f).2 (hs f ((zS fs f).1 hf))
theorem zkz {p : zav} {fs : List zd} (h : zcp p fs = true) : zaA p (zaA p fs) = zaA p fs := by
 have h5 := zjQ h
 obtain ⟨a1, a2, a3, a4⟩ := zbt h5
 have hA : Asc (zaA p fs) := (zie h5).2.2
 have hF := zan.set a3
 obtain ⟨b1, b2, b3, b4⟩ := zbt h
 have hfix : ∀ f ∈ zM p.2 (zaA p fs), f ∈ zaA p fs := by
  rw [zcx h]
  exact zhe b1 b2 (zan.set b3)
 rw [zcx h5, znb hA]
 rw [znb hA] at hF
 exact (zhg (rs := p.2) hA _).unique hA fun f => ⟨zls a2 (zie h).1 hF hF (fun _ h => h) hfix f, zhd f⟩
theorem znJ {p : zav} {fs : List zd} (h : (zaD p && zah p.1 fs) = false) : zaA p fs = [] := by
 unfold zaA zcp
 rw [h]
 rfl
theorem zo7 {p : zav} {fs gs : List zd} (h : zcp p fs = true) (hg : ∀ f ∈ gs, zz p.1 f = true) : zcp p (zJ (fs ++ gs)) = true := by
 obtain ⟨h1, h2, h3, h4⟩ := zbt h
 have h5 := zoP h1 (fs := zJ (fs ++ gs)) (fun f hf => by
  rcases List.mem_append.1 ((zS _ f).1 hf) with hf | hf
  ·exact h3 f hf
  ·exact hg f hf) (zaC _)
 unfold zcp at h ⊢
 rw [Bool.and_eq_true] at h ⊢
 exact ⟨h.1, h5⟩
open Go.RowKit Go.Sort
theorem znc {w0 : World} {g c : Nat} {fs : List zd} {av : List Value} (hrow : za1 w0 g c fs av) (hrd : zay w0 g av fs) (hl : ∀ k (hk : k < fs.length), fs[k].2.length <= 1048576) {i j : Nat} (hi : i < fs.length) (hj : j < fs.length)
 (hi' : i < av.length) (hj' : j < av.length) (x : zbJ w0) :
 Calls Tryz.prog 87 #[.agg #[.int .i64 fs[i].1, av[i]], .agg #[.int .i64 fs[j].1, av[j]]] x.val fun e w' => e = .returned (.bool (decide (fs[i] = fs[j]))) /\ Below x.val.heap.size x.val w' := by
 have hg := Nat.le_of_lt hrow.lt
 have h1 := ((hrd.2 i hi hi' hi).more hg).on x.2
 have h2 := ((hrd.2 j hj hj' hj).more hg).on x.2
 refine (zjr _ _ fs[i] fs[j] x.val ⟨_, rfl, h1⟩ ⟨_, rfl, h2⟩ (hl i hi) (hl j hj)).mono fun e w' ⟨he, hG⟩ => ⟨by rw [he, zoh], hG.below⟩
theorem za1.cells {w : World} {g c : Nat} {fs : List zd} {av : List Value} (h : za1 w g c fs av) (hl : av.length = fs.length) {k : Nat} (hk : k < fs.length) (hk' : k < av.length) :
 w.cell? ⟨g, k * 2, none⟩ = some (.int .i64 fs[k].1) /\ w.cell? ⟨g, k * 2 + 1, none⟩ = some av[k] := by
 obtain ⟨c0, c1⟩ := zdC fs av hl k hk hk'
 exact ⟨by rw [h.cell (by omega), c0], by rw [h.cell (by omega), c1]⟩
set_option maxHeartbeats 4000000 in
theorem zkR (g c : Nat) (fs : List zd) (av : List Value) (w : World) (hrow : za1 w g c fs av) (hrd : zay w g av fs) (hn : fs.length <= 4194304) (hl : ∀ k (hk : k < fs.length), fs[k].2.length <= 1048576) :
 Calls Tryz.prog 86 #[.slice (some ⟨g, 0, none⟩) fs.length c, .func (.func 87) #[] #[]] w fun e w' =>
  ∃ av', e = .returned (.slice (some ⟨g, 0, none⟩) (zG fs).length c) /\ za1 w' g c (zG fs) av' /\ zay w' g av' (zG fs) /\ zl g (g + 1) w w' := by
 have hlc := hrow.len
 have hcm : c <= maxLen := by obtain ⟨_, _, _, h, _⟩ := hrow; exact h
 have hcm2 : c <= 9223372036854775807 := by unfold maxLen at hcm; omega
 by_cases h2 : fs.length < 2
 ·have HE := Lib.hid (show zG fs = fs by
   match fs, h2 with
   | [], _ => rfl
   | [f], _ => rfl)
  have h2I : (fs.length : Int) < 2 := by omega
  have HR := Lib.hid (And.intro hrow hrd)
  clear hrow hrd h2
  go_enter Tryz.func86, Tryz.ntmps86
  go_wp2_with (fail)
  go_ret
  rw [HE.out]
  exact ⟨av, rfl, HR.out.1, HR.out.2, zl.refl _ _ _⟩
 ·have h2I : ¬ (fs.length : Int) < 2 := by omega
  have hg := hrow.lt
  have hav := hrd.1
  have HR := Lib.hid (And.intro hrow hrd)
  have HAV := Lib.hid hav
  clear hrow hrd h2 hav
  go_enter Tryz.func86, Tryz.ntmps86
  go_wp2_with (fail)
  go_loopw [5] (fun i wr => ∃ j : Nat, j + 1 <= fs.length /\ i = .int .i64 ((j + 1 : Nat) : Int) /\ zG (fs.take (j + 1)) = fs.take (j + 1) /\ Below w.heap.size w wr) (fun i _ => fs.length - (intOf i).toNat)
  case atStart => exact ⟨0, by omega, rfl, by
   rw [zE fs 0 (by omega)]
   rfl, Below.refl _ _⟩
  case round =>
   obtain ⟨j, hj, rfl, hcp, hbe⟩ := hrel
   have hrow := HR.out.1.below hbe hg
   have hrd := HR.out.2.below hbe (Nat.le_of_lt hg)
   by_cases hlt : j + 1 < fs.length
   ·have hj1 : j < fs.length := by omega
    have hja : j < av.length := by have := HAV.out; omega
    have hja1 : j + 1 < av.length := by have := HAV.out; omega
    obtain ⟨a0, a1⟩ := hrow.cells HAV.out hlt hja1
    obtain ⟨b0, b1⟩ := hrow.cells HAV.out hj1 hja
    have A0 := zw a0
    have A1 := zw a1
    have B0 := zw b0
    have B1 := zw b1
    have CS := Lib.hid (znc hrow hrd hl hlt hj1 hja1 hja)
    have HC := Lib.hid hcp
    have HST := Lib.hid (zgV hlt)
    have HRR := Lib.hid (And.intro hrow hrd)
    obtain ⟨va, hva⟩ : ∃ va, va = av[j + 1] := ⟨_, rfl⟩
    obtain ⟨vb, hvb⟩ : ∃ vb, vb = av[j] := ⟨_, rfl⟩
    rw [<- hva] at A1 CS
    rw [<- hvb] at B1 CS
    obtain ⟨Aa, ca, hfa, _⟩ := hrd.2 (j + 1) hlt hja1 hlt
    obtain ⟨Ab, cb, hfb, _⟩ := hrd.2 j hj1 hja hj1
    rw [<- hva] at hfa
    rw [<- hvb] at hfb
    subst hfa hfb
    clear hcp hrow hrd a0 a1 b0 b1 hva hvb
    by_cases he : fs[j + 1] = fs[j]
    ·-- the first two that are the same
     have hd : decide (fs[j + 1] = fs[j]) = true := decide_eq_true he
     rw [hd] at CS
     have HE := Lib.hid he
     clear he hd
     go_wp2_with (fail)
     refine zx (by kernel_rfl) (by kernel_rfl) ?_
     repeat (go_big_quiet_step ((go_at_call 87; exact zai (CS.out _))))
     refine wpQuiet_nil ?_
     rintro _ ⟨xq, rfl⟩
     go_wp2_with (fail)
     have HLN := Lib.hid (show zG (fs.take (j + 1 + 1)) = fs.take (j + 1) by
      rw [show j + 1 + 1 = j + 2 from rfl, HST.out, if_pos HE.out.symm, HC.out])
     have HAll := Lib.hid (show ∀ f ∈ fs, f.2.length <= 1048576 from fun f hf => by
      obtain ⟨q, hq, rfl⟩ := List.getElem_of_mem hf
      exact hl q hq)
     clear A0 A1 B0 B1
     go_loopw [5, 7] (fun m k wr => ∃ (i m' : Nat) (fw : List zd) (aw : List Value), i + 1 <= fs.length - (j + 1) /\ k = .int .i64 ((i + 1 : Nat) : Int) /\ m = .int .i64 (m' : Nat) /\ m' <= j + 1 + i /\ fw.length = fs.length /\ fw.take m' = zG (fs.take (j + 1 + i + 1)) /\ m' = (zG (fs.take (j + 1 + i + 1))).length /\ fw.drop (j + 1 + i) = fs.drop (j + 1 + i) /\
      (∀ f ∈ fw, f.2.length <= 1048576) /\ za1 wr g c fw aw /\ zay wr g aw fw /\ zl g (g + 1) w wr) (fun _ k _ => fs.length - (intOf k).toNat)
     case atStart =>
      exact ⟨0, j + 1, fs, av, by omega, rfl, rfl, by omega, rfl, HLN.out.symm, by rw [HLN.out, List.length_take]; omega, rfl, HAll.out, HRR.out.1.keep (xq.2.block g (Nat.lt_of_lt_of_le hg hbe.size)), HRR.out.2.below xq.2 (Nat.le_trans (Nat.le_of_lt hg) hbe.size), (zl.of_below hbe).trans (zl.of_below xq.2)⟩
     case round =>
      obtain ⟨i, m, fw, aw, hi, rfl, rfl, hm, hfl, htk, hml, hdr, hal, hrow, hrd, hon⟩ := hrel
      have hgr := hrow.lt
      have haw := hrd.1
      by_cases hlt2 : i + 1 < fs.length - (j + 1)
      ·have hq1 : j + 1 + i + 1 < fs.length := by omega
       have hq0 : j + 1 + i < fs.length := by omega
       have hq1f : j + 1 + i + 1 < fw.length := by omega
       have hq0f : j + 1 + i < fw.length := by omega
       have hq1a : j + 1 + i + 1 < aw.length := by omega
       have hq0a : j + 1 + i < aw.length := by omega
       have hma : m < aw.length := by omega
       have hmf : m < fw.length := by omega
       have e0 : fw[j + 1 + i] = fs[j + 1 + i] := by
        have h1 := congrArg (fun l => l[0]?) hdr
        simpa [hq0, hq0f] using h1
       have e1 : fw[j + 1 + i + 1] = fs[j + 1 + i + 1] := by
        have h1 := congrArg (fun l => l[1]?) hdr
        simpa [hq1, hq1f] using h1
       obtain ⟨a0, a1⟩ := hrow.cells haw hq1f hq1a
       obtain ⟨b0, b1⟩ := hrow.cells haw hq0f hq0a
       obtain ⟨d0, d1⟩ := hrow.cells haw hmf hma
       rw [show (j + 1 + i + 1) * 2 = (j + 1) * 2 + (i + 1) * 2 by omega] at a0 a1
       rw [show (j + 1 + i) * 2 = (j + 1) * 2 + i * 2 by omega] at b0 b1
       have CS2 := Lib.hid (znc hrow hrd (fun k hk => hal _ (List.getElem_mem hk)) hq1f hq0f hq1a hq0a)
       have HST2 := Lib.hid (zgV hq1)
       obtain ⟨va, hva⟩ : ∃ va, va = aw[j + 1 + i + 1] := ⟨_, rfl⟩
       obtain ⟨vb, hvb⟩ : ∃ vb, vb = aw[j + 1 + i] := ⟨_, rfl⟩
       obtain ⟨Aa, ca, hfa, hfx⟩ := hrd.2 (j + 1 + i + 1) hq1f hq1a hq1f
       obtain ⟨Ab, cb, hfb, _⟩ := hrd.2 (j + 1 + i) hq0f hq0a hq0f
       have RA := hrd.2 (j + 1 + i + 1) hq1f hq1a hq1f
       rw [<- hva] at a1 CS2 hfa RA
       rw [<- hvb] at b1 CS2 hfb
       subst hfa hfb
       rw [e1] at a0 a1 CS2 RA
       rw [e0] at b0 b1 CS2
       have A0 := zw a0
       have A1 := zw a1
       have B0 := zw b0
       have B1 := zw b1
       have HQ := Lib.hid (And.intro hrow (And.intro hrd (And.intro hon (And.intro htk (And.intro hml (And.intro hdr RA))))))
       have HAL := Lib.hid hal
       have HF := Lib.hid (And.intro hfl haw)
       clear hva hvb a0 a1 b0 b1 e0 e1 hrow hrd hon htk hml hdr RA hal hfx
       by_cases he2 : fs[j + 1 + i + 1] = fs[j + 1 + i]
       ·have hd2 : decide (fs[j + 1 + i + 1] = fs[j + 1 + i]) = true := decide_eq_true he2
        rw [hd2] at CS2
        have HN := Lib.hid (show zG (fs.take (j + 1 + (i + 1) + 1)) = zG (fs.take (j + 1 + i + 1)) by
         rw [show j + 1 + (i + 1) + 1 = j + 1 + i + 2 by omega, HST2.out, if_pos he2.symm])
        clear he2 hd2 d0 d1
        go_wp2_with (fail)
        refine zx (by kernel_rfl) (by kernel_rfl) ?_
        repeat (go_big_quiet_step ((go_at_call 87; exact zai (CS2.out _))))
        refine wpQuiet_nil ?_
        rintro _ ⟨xr, rfl⟩
        go_wp2_with (fail)
        go_roundw
        case rel =>
         obtain ⟨h1, h2, h3, h4, h5, h6, h7⟩ := HQ.out
         refine ⟨i + 1, m, fw, aw, by omega, by go_num, rfl, by omega, HF.out.1, by rw [HN.out]; exact h4, by rw [HN.out]; exact h5, ?_, HAL.out, h1.keep (xr.2.block g hgr), h2.below xr.2 (Nat.le_of_lt hgr), h3.trans (zl.of_below xr.2)⟩
         have := congrArg (List.drop 1) h6
         rwa [List.drop_drop, List.drop_drop] at this
        case measure => simp [intOf]; omega
       ·have hd2 : decide (fs[j + 1 + i + 1] = fs[j + 1 + i]) = false := decide_eq_false he2
        rw [hd2] at CS2
        have HN := Lib.hid (show zG (fs.take (j + 1 + (i + 1) + 1)) = zG (fs.take (j + 1 + i + 1)) ++ [fs[j + 1 + i + 1]] by
         rw [show j + 1 + (i + 1) + 1 = j + 1 + i + 2 by omega, HST2.out, if_neg (fun e => he2 e.symm)])
        clear he2 hd2
        go_wp2_with (fail)
        refine zx (by kernel_rfl) (by kernel_rfl) ?_
        repeat (go_big_quiet_step ((go_at_call 87; exact zai (CS2.out _))))
        refine wpQuiet_nil ?_
        rintro _ ⟨xr, rfl⟩
        have D0 := zw d0 xr
        have D1 := zw d1 xr
        have hrx := HQ.out.1.keep (xr.2.block g hgr)
        have F0 := hrx.frozen (m * 2)
        have F1 := hrx.frozen (m * 2 + 1)
        have hset := hrx.set HF.out.2 hmf fs[j + 1 + i + 1] (.slice Aa fs[j + 1 + i + 1].2.length ca)
        have HSET := Lib.hid hset
        have hbx := xr.2
        obtain ⟨Vd, hVd⟩ : ∃ Vd, Vd = aw[m] := ⟨_, rfl⟩
        rw [<- hVd] at D1
        clear hset hrx d0 d1 hVd
        go_wp2_with (fail)
        go_roundw
        case rel =>
         obtain ⟨h1, h2, h3, h4, h5, h6, h7⟩ := HQ.out
         have o1 : zl g (g + 1) xr.val ((xr.val.setCell ⟨g, m * 2, none⟩ (.int .i64 fs[j + 1 + i + 1].1)).setCell ⟨g, m * 2 + 1, none⟩ (.slice Aa fs[j + 1 + i + 1].2.length ca)) :=
          zl.setCell (p := ⟨g, m * 2 + 1, none⟩) (zl.setCell (p := ⟨g, m * 2, none⟩) (zl.refl g (g + 1) xr.val) ⟨Nat.le_refl g, Nat.lt_succ_self g⟩ _) ⟨Nat.le_refl g, Nat.lt_succ_self g⟩ _
         have o2 := (h3.trans (zl.of_below xr.2)).trans o1
         refine ⟨i + 1, m + 1, fw.set m fs[j + 1 + i + 1], aw.set m (.slice Aa fs[j + 1 + i + 1].2.length ca), by omega, by go_num, by go_num, by omega, by rw [List.length_set]; exact HF.out.1, ?_, ?_, ?_, ?_, HSET.out, ?_, o2⟩
         ·rw [HN.out, <- h4, List.take_set, zE fw m hmf, List.set_append_right _ _ (by simp; omega)]
          simp [Nat.min_eq_left (Nat.le_of_lt hmf)]
         ·rw [HN.out, List.length_append, <- h5]
          rfl
         ·rw [List.drop_set_of_lt (by omega)]
          have := congrArg (List.drop 1) h6
          rwa [List.drop_drop, List.drop_drop] at this
         ·intro f hf
          rcases List.mem_or_eq_of_mem_set hf with hf | rfl
          ·exact HAL.out f hf
          ·exact hl _ hq1
         ·have hbw : Below g wr ((xr.val.setCell ⟨g, m * 2, none⟩ (.int .i64 fs[j + 1 + i + 1].1)).setCell ⟨g, m * 2 + 1, none⟩ (.slice Aa fs[j + 1 + i + 1].2.length ca)) := ((zl.of_below xr.2).trans o1).below (Nat.le_refl _) (Nat.le_of_lt hgr)
          have h2b := h2.below hbw (Nat.le_refl _)
          refine ⟨by simp [h2.1], fun q q1 q2 q3 => ?_⟩
          by_cases eq : m = q
          ·subst eq
           simpa using h7.below hbw (Nat.le_refl _)
          ·have := h2b.2 q (by simpa using q1) (by simpa using q2) (by simpa using q3)
           simpa [List.getElem_set_ne eq] using this
        case measure => simp [intOf]; omega
      ·have hn1 : j + 1 + i + 1 = fs.length := by omega
       have hmn : m < fw.length := by omega
       obtain ⟨WC, hcl, hoc, hac⟩ := zh2 hrow hmn (c - m)
       rw [hfl] at hcl
       have HX := Lib.hid (show fw.take m = zG fs /\ m = (zG fs).length by
        rw [hn1, List.take_length] at htk hml
        exact ⟨htk, hml⟩)
       have HQ := Lib.hid (And.intro (hac haw) (And.intro hrd (And.intro (hon.trans hoc) (hoc.below (Nat.le_refl _) (Nat.le_of_lt hgr)))))
       have hmn2 : m <= fs.length := by omega
       have hmc : m <= c := by omega
       clear hrow hrd hon htk hml hdr hal hoc hac
       go_wp2_with (simp only [hcl])
       go_ret
       obtain ⟨h1, h2, h3, h4⟩ := HQ.out
       rw [<- HX.out.1] at *
       refine ⟨aw.take m, ?_, h1, ?_, h3⟩
       ·congr 2
        simp
        omega
       ·have h2b := h2.below h4 (Nat.le_refl _)
        refine ⟨by simp [h2.1], fun q q1 q2 q3 => ?_⟩
        simp at q1 q2 q3
        have := h2b.2 q (by omega) (by omega) (by omega)
        simpa using this
    ·have hd : decide (fs[j + 1] = fs[j]) = false := decide_eq_false he
     rw [hd] at CS
     have HN := Lib.hid (show zG (fs.take (j + 1 + 1)) = fs.take (j + 1 + 1) by
      rw [show j + 1 + 1 = j + 2 from rfl, HST.out, if_neg (fun e => he e.symm), HC.out, <- zE fs (j + 1) hlt])
     clear he hd
     go_wp2_with (fail)
     refine zx (by kernel_rfl) (by kernel_rfl) ?_
     repeat (go_big_quiet_step ((go_at_call 87; exact zai (CS.out _))))
     refine wpQuiet_nil ?_
     rintro _ ⟨xq, rfl⟩
     go_wp2_with (fail)
     go_roundw
     case rel => exact ⟨j + 1, by omega, by go_num, HN.out, zf hbe xq.2⟩
     case measure => simp [intOf]; omega
   ·have HE := Lib.hid (show zG fs = fs by
     have e : fs.take (j + 1) = fs := by rw [show j + 1 = fs.length by omega, List.take_length]
     rw [e] at hcp
     exact hcp)
    have HRR := Lib.hid (And.intro hrow hrd)
    clear hcp hrow hrd
    go_wp2_with (fail)
    go_ret
    rw [HE.out]
    exact ⟨av, rfl, HRR.out.1, HRR.out.2, zl.of_below hbe⟩
open Go.RowKit
set_option maxHeartbeats 400000 in
theorem zjC (v : Value) (fs : List zd) (w : World) (h : zt w w.heap.size v fs) (hl : fs.length <= 4194304) (hn : tot fs <= 1048576) :
 Calls Tryz.prog 47 #[v] w fun e w' => ∃ A' c', e = .returned (.slice A' fs.length c') /\ zp w' w.heap.size w'.heap.size (.slice A' fs.length c') fs /\ Below w.heap.size w w' := by
 obtain ⟨i0, hi0, hz0, hz1, hz2⟩ := info_parts Tryz.infoFact
 have hmk := fun W => zbx (P := Tryz.prog) 27 39 i0 (.agg #[.int .i64 0, .slice none 0 0]) Tryz.underlying27 hi0 hz0 .i64 .i64 fs.length fs.length (Nat.le_refl _) (by rw [hz2]; omega) (by omega) W
 rw [hz1] at hmk
 simp only [Value.cells] at hmk
 have H := Lib.hid h
 obtain ⟨A, c, rfl, hc, _⟩ := h
 go_enter Tryz.func47, Tryz.ntmps47
 go_wp2_with (fail)
 go_loopw [4, 5, 11] (fun _ _ i wr => ∃ (k : Nat) (av : List Value), k <= fs.length /\ i = .int .i64 k /\ zdZ w wr fs k av) (fun _ _ i _ => fs.length - (intOf i).toNat)
 case atStart => exact ⟨0, [], Nat.zero_le _, rfl, zdZ.start w fs⟩
 case round =>
  obtain ⟨k, av, hk, rfl, hr⟩ := hrel
  by_cases hlt : k < fs.length
  ·obtain ⟨b, o, A3, c3, rfl, hbB, k1, k2, k3⟩ := (H.out.on hr.below).get hlt
   have K3 := Lib.hid (show zT wr wr.heap.size (.agg #[.int .i64 fs[k].1, .slice A3 fs[k].2.length c3]) fs[k] from ⟨_, rfl, k3⟩)
   have hln := zap fs k hlt
   clear k3
   go_wp2_with (fail)
   refine (zgT _ fs[k] _ (K3.out.on (ze _ _)) (by omega)).mono ?_
   rintro e w4 ⟨A4, c4, rfl, ho4, hb4⟩
   have hb5 := zf (ze _ _) hb4
   have ho5 : zg w4 wr.heap.size w4.heap.size _ _ := ho4.mono (by simp) (Nat.le_refl _)
   obtain ⟨r1, r2, r3, r4⟩ := hr.room hlt hb5
   have hstep := hr.step hlt hb5 ho5
   clear ho4 ho5 hb4
   go_wp2_with (fail)
   go_roundw
   case rel => exact ⟨k + 1, _, by omega, by go_num, hstep⟩
   case measure => simp [intOf]; omega
  ·have hkn : k = fs.length := by omega
   have HO := Lib.hid (show zp wr w.heap.size wr.heap.size (.slice (some ⟨w.heap.size, 0, none⟩) fs.length fs.length) fs from zdZ.done (by rw [<- hkn]; exact hr) (by unfold maxLen; omega))
   have hbe := hr.below
   clear hkn hr
   go_wp2_with (fail)
   go_ret
   exact ⟨_, _, rfl, HO.out, hbe⟩
open Go.RowKit Go.Sort
theorem zi7 (w : World) :
 Calls Tryz.prog 86 #[.slice none 0 0, .func (.func 87) #[] #[]] w fun e w' => e = .returned (.slice none 0 0) /\ w = w' := by
 go_enter Tryz.func86, Tryz.ntmps86
 go_wp2_with (fail)
 go_ret
 exact ⟨rfl, rfl⟩
theorem zo8 {fs : List zd} {n : Nat} (h : tot fs <= n) : ∀ k (hk : k < fs.length), fs[k].2.length <= n := fun k hk => Nat.le_trans (zap fs k hk) h
set_option maxHeartbeats 1000000 in
theorem zfy (v : Value) (fs : List zd) (w : World) (h : zt w w.heap.size v fs) (hn : fs.length <= 2097152) (ht : tot fs <= 1048576) :
 Calls Tryz.prog 48 #[v] w fun e w' => ∃ A' c', e = .returned (.slice A' (zJ fs).length c') /\ zt w' w'.heap.size (.slice A' (zJ fs).length c') (zJ fs) /\ Below w.heap.size w w' := by
 obtain ⟨A, c, av, rfl, ha, hc⟩ := h.heads
 have HA := Lib.hid (And.intro ha hc)
 clear h ha hc
 go_enter Tryz.func48, Tryz.ntmps48
 go_wp2_with (fail)
 refine (zoN A c fs av w HA.out.1 HA.out.2 (by omega)).mono ?_
 rintro e w1 ⟨A1, c1, rfl, hrow, hb1⟩
 rcases hrow.row.2 with ⟨e1, h0⟩ | ⟨g, cap, cur, e1, hbg, hgg, r1, r2, r3, r4⟩
 ·injection e1 with e1 _ e3
  subst e1
  subst e3
  have hfs : fs = [] := List.eq_nil_of_length_eq_zero h0
  subst hfs
  have HS := Lib.hid (show zJ [] = [] from rfl)
  have hs := AnyF.slices_SortFunc_none Tryz.sortFact none 0 (.func (.func 32) #[] #[]) w1
  clear hrow h0
  go_wp2_with (fail)
  refine Calls.mono hs ?_
  rintro e w2 ⟨rfl, rfl⟩
  go_wp2_with (fail)
  refine (zi7 _).mono ?_
  rintro e w2 ⟨rfl, rfl⟩
  go_wp2_with (fail)
  go_ret
  rw [HS.out]
  exact ⟨none, 0, rfl, ⟨none, 0, rfl, by simp, fun h => absurd h (by simp)⟩, hb1⟩
 ·injection e1 with e1 _ e3
  subst e1
  subst e3
  have hat : za1 w1 g c1 fs av := ⟨cur, hgg, r1, r2, r3, r4⟩
  have hrd : zay w1 g av fs := ((HA.out.1.below hb1 (Nat.le_refl _)).more hbg)
  have hlen := zo8 ht
  have hs := zns g c1 fs av w1 hat hrd (by omega) hlen
  clear hrow hat hgg r1 r2 r3 r4
  go_wp2_with (fail)
  refine hs.mono ?_
  rintro e w2 ⟨rfl, fs', av', hp, hup, hat2, hrd2, ho2⟩
  have hl2 : ∀ k (hk : k < fs'.length), fs'[k].2.length <= 1048576 := fun k hk => by
   obtain ⟨q, hq, e⟩ := List.getElem_of_mem (hp.mem_iff.1 (List.getElem_mem hk))
   rw [<- e]
   exact hlen q hq
  have hk := zkR g c1 fs' av' w2 hat2 hrd2 (by rw [hp.length_eq]; omega) hl2
  have HC := Lib.hid (show zG fs' = zJ fs from zjD hup fun x => hp.mem_iff)
  rw [show fs.length = fs'.length from hp.length_eq.symm]
  have HB2 := Lib.hid (show Below w.heap.size w w2 from zl.then_ hb1 ho2 hbg)
  have hg1 := hat2.lt
  clear hs hp hup hat2 hrd2 hl2 hlen hrd
  go_wp2_with (fail)
  refine hk.mono ?_
  rw [HC.out]
  rintro e w3 ⟨av3, rfl, hat3, hrd3, ho3⟩
  have HR := Lib.hid (show zt w3 w3.heap.size (.slice (some ⟨g, 0, none⟩) (zJ fs).length c1) (zJ fs) from
   (zfg.facts (base := 0) ⟨hat3.row hrd3.1 (Nat.zero_le _), hrd3.more (Nat.le_of_lt hat3.lt)⟩))
  have HB3 := Lib.hid (show Below w.heap.size w w3 from zl.then_ HB2.out ho3 hbg)
  clear hk hat3 hrd3 ho3 ho2
  go_wp2_with (fail)
  go_ret
  exact ⟨_, c1, rfl, HR.out, HB3.out⟩
set_option maxHeartbeats 1000000 in
theorem zfQ (v v2 : Value) (xs ys : List zd) (w : World) (h : zt w w.heap.size v xs) (h2 : zt w w.heap.size v2 ys) (hn : xs.length + ys.length <= 1048576) (ht : tot xs + tot ys <= 1048576) :
 Calls Tryz.prog 16 #[v, v2] w fun e w' => ∃ A' c', e = .returned (.slice A' (zJ (xs ++ ys)).length c') /\ zp w' w.heap.size w'.heap.size (.slice A' (zJ (xs ++ ys)).length c') (zJ (xs ++ ys)) /\ Below w.heap.size w w' := by
 have H := Lib.hid h
 have H2 := Lib.hid h2
 obtain ⟨A, c, rfl, hc, _⟩ := h
 obtain ⟨A2, c2, rfl, hc2, _⟩ := h2
 obtain ⟨zs, hzs⟩ : ∃ zs, zs = xs ++ ys := ⟨_, rfl⟩
 have HZ := Lib.hid hzs
 have HZB := Lib.hid (show zs.length <= 2097152 /\ tot zs <= 1048576 from ⟨by rw [hzs, List.length_append]; omega, by rw [hzs, zcw]; exact ht⟩)
 have HL := Lib.hid (show (zJ zs).length <= 4194304 /\ tot (zJ zs) <= 1048576 by
  have hbd := zb5 zs
  have := HZB.out
  omega)
 rw [<- hzs]
 clear hzs
 go_enter Tryz.func16, Tryz.ntmps16
 go_wp2_with (fail)
 obtain ⟨w1, hw1⟩ : ∃ w1, w1 = w.alloc (Obj.cells #[Value.slice A xs.length c, Value.slice A2 ys.length c2] 27) := ⟨_, rfl⟩
 have B1 : Below w.heap.size w w1 := by rw [hw1]; exact ze _ _
 have b1 : Blk w1 w.heap.size 27 #[.slice A xs.length c, .slice A2 ys.length c2] := by rw [hw1]; exact Blk.new _ _ _
 rw [<- hw1]
 clear hw1
 refine (zmU w.heap.size _ _ _ xs ys w1 (b1.cell 0) (b1.cell 1) (H.out.on B1) (H2.out.on B1) (by omega)).mono ?_
 rw [<- HZ.out]
 rintro e w3 ⟨A3, c3, av3, rfl, hr3, hb3⟩
 have B3 := zf B1 hb3
 have R3 := Lib.hid hr3.facts
 clear b1 hr3
 go_wp2_with (fail)
 refine (zfy _ zs w3 R3.out HZB.out.1 HZB.out.2).mono ?_
 rintro e w4 ⟨A4, c4, rfl, hr4, hb4⟩
 have B4 := zf B3 hb4
 have R4 := Lib.hid hr4
 clear hr4
 go_wp2_with (fail)
 refine (zjC _ (zJ zs) w4 R4.out HL.out.1 HL.out.2).mono ?_
 rintro e w5 ⟨A5, c5, rfl, ho5, hb5⟩
 have HO := Lib.hid (And.intro ho5 (zf B4 hb5))
 have s4 := B4.size
 clear ho5
 go_wp2_with (fail)
 go_ret
 exact ⟨A5, c5, rfl, HO.out.1.mono s4 (Nat.le_refl _), HO.out.2⟩
open Go.RowKit Go.Sort
def zk0 (fs : List zd) (f : zd) (i : Nat) : Prop := ∀ k (h : k < fs.length), k < i -> zj fs[k] f < 0
def zjg (fs : List zd) (f : zd) (j : Nat) : Prop := ∀ k (h : k < fs.length), j <= k -> ¬ zj fs[k] f < 0
theorem zm0 {fs : List zd} (h : Asc fs) {i j : Nat} (hi : i < fs.length) (hj : j < fs.length) (hij : i < j) : zj fs[i] fs[j] < 0 := List.pairwise_iff_getElem.1 h i j hi hj hij
theorem zmu {fs : List zd} {f : zd} (h : Asc fs) {m : Nat} (hm : m < fs.length) (e : zj fs[m] f < 0) : zk0 fs f (m + 1) := fun k hk hlt => by
 by_cases e2 : k = m
 ·subst e2
  exact e
 ·exact zbO (zm0 h hk hm (by omega)) e
theorem zkw {fs : List zd} {f : zd} (h : Asc fs) {m : Nat} (hm : m < fs.length) (e : ¬ zj fs[m] f < 0) : zjg fs f m := fun k hk hle he => by
 by_cases e2 : m = k
 ·subst e2
  exact e he
 ·exact e (zbO (zm0 h hm hk (by omega)) he)
theorem zpL {fs : List zd} {f : zd} {i : Nat} (h1 : zk0 fs f i) (h2 : zjg fs f i) (hi : i < fs.length) (h : Asc fs) : decide (f ∈ fs) = (zj fs[i] f == 0) := by
 by_cases e : zj fs[i] f = 0
 ·have := zbD e
  rw [e]
  simp [<- this]
 ·have hne : ¬ f ∈ fs := fun hm => by
   obtain ⟨k, hk, rfl⟩ := List.getElem_of_mem hm
   rcases Nat.lt_trichotomy k i with hlt | rfl | hgt
   ·have := h1 k hk hlt
    rw [zaz] at this
    omega
   ·exact e (zaz _)
   ·have h3 := zm0 h hi hk hgt
    exact h2 i hi (Nat.le_refl _) h3
  rw [decide_eq_false hne]
  simpa using e
theorem zoB {fs : List zd} {f : zd} {i : Nat} (h1 : zk0 fs f i) (hi : ¬ i < fs.length) : decide (f ∈ fs) = false := by
 refine decide_eq_false fun hm => ?_
 obtain ⟨k, hk, rfl⟩ := List.getElem_of_mem hm
 have := h1 k hk (by omega)
 rw [zaz] at this
 omega
theorem zlg {w0 : World} {v v2 : Value} {f g : zd} (h : zT w0 w0.heap.size v f) (h2 : zT w0 w0.heap.size v2 g) (hn : f.2.length <= 1048576) (hn2 : g.2.length <= 1048576) (x : zbJ w0) :
 Calls Tryz.prog 32 #[v, v2] x.val fun e w' => e = .returned (.int .i64 (zj f g)) /\ Below x.val.heap.size x.val w' :=
 (zcy v v2 f g x.val (h.on x.2) (h2.on x.2) hn hn2).mono fun _ _ ⟨he, hG⟩ => ⟨he, hG.below⟩
set_option maxHeartbeats 2000000 in
theorem zoO (v v2 : Value) (fs : List zd) (f : zd) (w : World) (h : zt w w.heap.size v fs) (h2 : zT w w.heap.size v2 f) (ha : Asc fs) (hn : fs.length <= 2097152) (hl : tot fs <= 1048576) (hf : f.2.length <= 1048576) :
 Calls Tryz.prog 120 #[v, v2, .func (.func 32) #[] #[]] w fun e w' =>
  (∃ i : Int, e = .returned (.tuple #[.int .i64 i, .bool (decide (f ∈ fs))])) /\ Below w.heap.size w w' := by
 have H := Lib.hid h
 have H2 := Lib.hid h2
 have HA := Lib.hid ha
 obtain ⟨A, c, rfl, hc, _⟩ := h
 obtain ⟨u, rfl, A2, c2, rfl, hc2, _⟩ := h2
 obtain ⟨R, hR⟩ : ∃ R, R = decide (f ∈ fs) := ⟨_, rfl⟩
 rw [<- hR]
 have HR := Lib.hid hR
 clear hR ha
 go_enter Tryz.func120, Tryz.ntmps120
 go_wp2_with (fail)
 obtain ⟨w1, hw1⟩ : ∃ w1, w1 = w.alloc (Obj.cells #[Value.int IntKind.i64 f.1, Value.slice A2 f.2.length c2] 39) := ⟨_, rfl⟩
 have B1 : Below w.heap.size w w1 := by rw [hw1]; exact ze _ _
 have x1 : Blk w1 w.heap.size 39 #[.int .i64 f.1, .slice A2 f.2.length c2] := by rw [hw1]; exact Blk.new _ _ _
 rw [<- hw1]
 clear hw1
 have HX := Lib.hid (And.intro B1 x1)
 clear B1 x1
 go_loopw [9, 10, 11] (fun i j _ wr => ∃ (p q : Nat), p <= q /\ q <= fs.length /\ i = .int .i64 (p : Nat) /\ j = .int .i64 (q : Nat) /\ zk0 fs f p /\ zjg fs f q /\ Below w1.heap.size w1 wr) (fun i j _ _ => (intOf j).toNat - (intOf i).toNat)
 case atStart => exact ⟨0, fs.length, Nat.zero_le _, Nat.le_refl _, rfl, rfl, fun k _ hk => absurd hk (by omega), fun k hk hle => absurd hk (by omega), Below.refl _ _⟩
 case round =>
  obtain ⟨p, q, hpq, hq, rfl, rfl, hlo, hhi, hbe⟩ := hrel
  have BW := zf HX.out.1 hbe
  have xr := HX.out.2.below hbe HX.out.2.lt
  have L0 := zw (xr.cell 0 : wr.cell? ⟨w.heap.size, 0, none⟩ = some (.int .i64 f.1))
  have L1 := zw (xr.cell 1 : wr.cell? ⟨w.heap.size, 1, none⟩ = some (.slice A2 f.2.length c2))
  clear xr
  by_cases hlt : p < q
  ·obtain ⟨m, hm⟩ : ∃ m, m = (p + q) / 2 := ⟨_, rfl⟩
   have hm1 : p <= m := by omega
   have hm2 : m < q := by omega
   have hml : m < fs.length := by omega
   have HM := Lib.hid (show ((p : Int) + (q : Int)) / 2 = (m : Int) by omega)
   obtain ⟨b, o, A3, c3, rfl, hbB, k1, k2, k3⟩ := (H.out.on BW).get hml
   have hln := zap fs m hml
   have M0 := zw k1
   have M1 := zw k2
   have CO := Lib.hid (zlg (w0 := wr) (f := fs[m]) (g := f) ⟨_, rfl, k3⟩ (H2.out.on BW) (by omega) hf)
   have HLO := Lib.hid (And.intro hlo hhi)
   clear k1 k2 k3 hlo hhi hm
   by_cases ho : zj fs[m] f < 0
   ·have hd : decide (zj fs[m] f < 0) = true := decide_eq_true ho
    have HN := Lib.hid (zmu HA.out hml ho)
    go_wp2_with (fail)
    rw [HM.out]
    refine zx (by kernel_rfl) (by kernel_rfl) ?_
    repeat (go_big_quiet_step ((go_at_call 32; exact zai (CO.out _))))
    refine wpQuiet_nil ?_
    rintro _ ⟨xq, rfl⟩
    go_wp2_with (fail)
    go_roundw
    case rel => exact ⟨m + 1, q, by omega, hq, by go_num, rfl, HN.out, HLO.out.2, zf hbe xq.2⟩
    case measure => simp [intOf]; omega
   ·have hd : decide (zj fs[m] f < 0) = false := decide_eq_false ho
    have HN := Lib.hid (zkw HA.out hml ho)
    go_wp2_with (fail)
    rw [HM.out]
    refine zx (by kernel_rfl) (by kernel_rfl) ?_
    repeat (go_big_quiet_step ((go_at_call 32; exact zai (CO.out _))))
    refine wpQuiet_nil ?_
    rintro _ ⟨xq, rfl⟩
    go_wp2_with (fail)
    go_roundw
    case rel => exact ⟨p, m, hm1, by omega, rfl, rfl, HLO.out.1, HN.out, zf hbe xq.2⟩
    case measure => simp [intOf]; omega
  ·obtain rfl : p = q := by omega
   by_cases hpl : p < fs.length
   ·have HE := Lib.hid (show R = (zj fs[p] f == 0) by rw [HR.out, zpL hlo hhi hpl HA.out])
    obtain ⟨b, o, A3, c3, rfl, hbB, k1, k2, k3⟩ := (H.out.on BW).get hpl
    have hln := zap fs p hpl
    have M0 := zw k1
    have M1 := zw k2
    have CO := Lib.hid (zlg (w0 := wr) (f := fs[p]) (g := f) ⟨_, rfl, k3⟩ (H2.out.on BW) (by omega) hf)
    clear k1 k2 k3 hlo hhi
    by_cases hz : zj fs[p] f = 0
    ·have HT := Lib.hid (show R = true by rw [HE.out, hz]; rfl)
     rw [hz] at CO
     clear hz
     go_wp2_with (fail)
     refine zx (by kernel_rfl) (by kernel_rfl) ?_
     repeat (go_big_quiet_step ((go_at_call 32; exact zai (CO.out _))))
     refine wpQuiet_nil ?_
     rintro _ ⟨xq, rfl⟩
     go_wp2_with (fail)
     go_ret2
     rw [HT.out]
     exact ⟨⟨_, rfl⟩, zf BW xq.2⟩
    ·have hz2 : (zj fs[p] f == 0) = false := by simpa using hz
     have HT := Lib.hid (show R = false by rw [HE.out, hz2])
     clear hz
     go_wp2_with (fail)
     refine zx (by kernel_rfl) (by kernel_rfl) ?_
     repeat (go_big_quiet_step ((go_at_call 32; exact zai (CO.out _))))
     refine wpQuiet_nil ?_
     rintro _ ⟨xq, rfl⟩
     go_wp2_with (fail)
     go_ret2
     rw [HT.out]
     exact ⟨⟨_, rfl⟩, zf BW xq.2⟩
   ·have HT := Lib.hid (show R = false by rw [HR.out, zoB hlo hpl])
    clear hlo hhi
    go_wp2_with (fail)
    refine zx (by kernel_rfl) (by kernel_rfl) ?_
    repeat (go_big_quiet_step (fail))
    refine wpQuiet_nil ?_
    rintro _ ⟨xq, rfl⟩
    go_wp2_with (fail)
    go_ret2
    rw [HT.out]
    exact ⟨⟨_, rfl⟩, zf BW xq.2⟩
set_option maxHeartbeats 400000 in
theorem zmf (v v2 : Value) (fs : List zd) (f : zd) (w : World) (h : zt w w.heap.size v fs) (h2 : zT w w.heap.size v2 f) (ha : Asc fs) (hn : fs.length <= 2097152) (hl : tot fs <= 1048576) (hf : f.2.length <= 1048576) :
 Calls Tryz.prog 89 #[v, v2] w fun e w' => e = .returned (.bool (decide (f ∈ fs))) /\ Below w.heap.size w w' := by
 have H := Lib.hid h
 have H2 := Lib.hid h2
 obtain ⟨A, c, rfl, hc, _⟩ := h
 obtain ⟨u, rfl, A2, c2, rfl, hc2, _⟩ := h2
 have HB := Lib.hid (fun W (hW : Below w.heap.size w W) => zoO (.slice A fs.length c) (.agg #[.int .i64 f.1, .slice A2 f.2.length c2]) fs f W (H.out.on hW) (H2.out.on hW) ha hn hl hf)
 generalize decide (f ∈ fs) = R at HB ⊢
 go_enter Tryz.func89, Tryz.ntmps89
 go_wp2_with (fail)
 refine (HB.out _ (ze _ _)).mono ?_
 rintro e w2 ⟨⟨i, rfl⟩, hb2⟩
 have B2 := zf (ze _ _) hb2
 clear hb2
 go_wp2_with (fail)
 go_ret
 exact ⟨rfl, B2⟩
end Go.Proofs.YtofkcmihcgmmpaaGreatDoor
