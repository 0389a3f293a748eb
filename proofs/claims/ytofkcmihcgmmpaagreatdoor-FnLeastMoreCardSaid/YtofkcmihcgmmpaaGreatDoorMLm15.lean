/-
  Texts that the claim's last one imports, laid together: part 15 of 16. No condition of its own.
-/
import Derived.Test.YtofkcmihcgmmpaaGreatDoorMLm2
import Derived.Test.YtofkcmihcgmmpaaGreatDoorMLm7
import Derived.Test.YtofkcmihcgmmpaaGreatDoorMLm10
import Derived.Test.YtofkcmihcgmmpaaGreatDoorMLm11
import Derived.Test.YtofkcmihcgmmpaaGreatDoorMLm12
import Derived.Test.YtofkcmihcgmmpaaGreatDoorMLm13
import Derived.Test.YtofkcmihcgmmpaaGreatDoorMLm14
namespace Go.Proofs.YtofkcmihcgmmpaaGreatDoor
set_option maxRecDepth 100000
open Go.RowKit
theorem zoU {w w1 W : World} {a b : Value} (hx : Blk w1 w.heap.size 26 #[.slice none 0 0, .slice none 0 0]) (hb : Below w.heap.size w w1) (hW : W = (w1.setCell ⟨w.heap.size, 0, none⟩ a).setCell ⟨w.heap.size, 1, none⟩ b) :
 (W.cell? ⟨w.heap.size, 0, none⟩ = some a /\ W.cell? ⟨w.heap.size, 1, none⟩ = some b) /\ zj w.heap.size (w.heap.size + 1) w1 W /\ w1.heap.size = W.heap.size /\ Below w.heap.size w W := by
 have hbk := (hx.set_ 0 a).set_ 1 b
 rw [<- hW] at hbk
 refine ⟨⟨by rw [hbk.cell 0]; simp, by rw [hbk.cell 1]; simp⟩, ?_, by rw [hW]; simp, by rw [hW]; exact (hb.setCell (Nat.le_refl _) _).setCell (Nat.le_refl _) _⟩
 rw [hW]
 exact ((zj.refl _ _ _).setCell (p := ⟨w.heap.size, 0, none⟩) ⟨Nat.le_refl _, Nat.lt_succ_self _⟩ _).setCell (p := ⟨w.heap.size, 1, none⟩) ⟨Nat.le_refl _, Nat.lt_succ_self _⟩ _
theorem zbk.only {lo g : Nat} {w1 W : World} {u : Value} {p : zao} (h : zbk lo w1 u p) (ho : zj g (g + 1) w1 W) (hg : g < lo) : zbk lo W u p := h.keep ho.size fun k k1 k2 => ho.block k k2 (.inr (by omega))
theorem zbk.on {lo : Nat} {w1 W : World} {u : Value} {p : zao} (h : zbk lo w1 u p) (hb : Below w1.heap.size w1 W) : zbk lo W u p := h.keep hb.size fun k _ k2 => hb.block k k2
theorem zbk.prog {lo : Nat} {w1 : World} {u : Value} {p : zao} (h : zbk lo w1 u p) : zbI w1 w1.heap.size u p := by
 obtain ⟨A, A2, c, c2, rfl, h1, h2⟩ := h.rd
 exact ⟨_, _, rfl, h1, h2⟩
open Go.RowKit
theorem zp.readOn {w W : World} {g : Nat} {v : Value} {fs : List zd} (h : zp w (g + 1) w.heap.size v fs) (ho : zj g (g + 1) w W) : zp W (g + 1) W.heap.size v fs := (h.only ho (.inr (Nat.le_refl _))).mono (Nat.le_refl _) ho.size
set_option maxHeartbeats 4000000 in
theorem zgQ (v : Value) (code : List Nat) (w : World) (h : zcf w w.heap.size v code) (hby : ∀ b ∈ code, b < 256) (hn : code.length <= 1073741824) :
 Calls Tryz.prog 26 #[v] w fun e w' => ∃ (u : Value) (p : zao) (Al : Option Addr) (cl : Nat) (ls : List zd) (Am : Option Addr) (cm : Nat) (ms : List zd), e = .returned (.tuple #[u, .slice Al ls.length cl, .slice Am ms.length cm]) /\ zbk w.heap.size w' u p /\
  (zt w' w'.heap.size (.slice Al ls.length cl) ls /\ zt w' w'.heap.size (.slice Am ms.length cm) ms) /\ (ls.length <= 1536 /\ tot ls <= 3072) /\ (ms.length <= 4 /\ tot ms <= 12) /\ Below w.heap.size w w' := by
 have HV := Lib.hid h
 clear h
 go_enter Tryz.func26, Tryz.ntmps26
 go_upto_region 1 with fail
 obtain ⟨w0, hw0⟩ : ∃ w0, w0 = w.alloc (Obj.cells #[Value.slice none 0 0, Value.slice none 0 0] 26) := ⟨_, rfl⟩
 have HRA := Lib.hid (show Blk w0 w.heap.size 26 #[.slice none 0 0, .slice none 0 0] by rw [hw0]; exact Blk.new _ _ _)
 have HB0 := Lib.hid (show Below w.heap.size w w0 by rw [hw0]; exact ze _ _)
 have HS0 := Lib.hid (show w0.heap.size = w.heap.size + 1 by rw [hw0]; simp)
 rw [<- hw0]
 clear hw0
 obtain ⟨g, hg⟩ : ∃ g, g = w0.heap.size := ⟨_, rfl⟩
 go_upto_region 3 with (first
  | (go_at_call 52; refine (zk4 v code w0 (HV.out.onM HB0.out) hby hn).mono ?_
     rintro e w1 ⟨rfl, hr1, hb1⟩
     rw [<- hg] at hr1 ⊢
     have hg1 : g < w1.heap.size := hr1.lt
     have HG := Lib.hid (show w.heap.size < g by rw [hg, HS0.out]; omega)
     have HGW := Lib.hid (show w0.heap.size <= g by rw [hg]; exact Nat.le_refl _)
     have HB1 := Lib.hid (zf HB0.out hb1)
     have HR1 := Lib.hid hr1
     have HRA1 := Lib.hid (HRA.out.below hb1 HRA.out.lt)
     obtain ⟨bs, hbs⟩ : ∃ bs, bs = code.take 2000 := ⟨_, rfl⟩
     rw [<- hbs] at HR1
     clear hb1 hr1 hbs hg)
  | (go_at_call 59; refine (zl3 g bs 0 7 0 w1 HR1.out (by omega) (by omega)).mono ?_
     rintro e w2 ⟨A, Ar, Af, c, cr, cf, B, q, ar, es, fs, rfl, hok, hf1, hf2, hq, hB, hB2, h1, h2, h3, h4, h5⟩
     have HOK := Lib.hid hok
     have HQ := Lib.hid (And.intro h1 (And.intro h2 (And.intro h3 (And.intro h4 h5))))
     have HF := Lib.hid (And.intro hf1 hf2)
     have HBB := Lib.hid (And.intro hB hB2)
     clear hok hB hB2 h1 h2 h3 h4 h5))
 obtain ⟨w3, hw3⟩ : ∃ w3, w3 = w2.alloc (Obj.cells #[Value.slice A ar.length c, Value.slice Ar es.length cr] 26) := ⟨_, rfl⟩
 have b3 : Below w2.heap.size w2 w3 := by rw [hw3]; exact ze _ _
 have BX : Blk w3 w2.heap.size 26 #[.slice A ar.length c, .slice Ar es.length cr] := by rw [hw3]; exact Blk.new _ _ _
 rw [<- hw3]
 obtain ⟨D, hD⟩ : ∃ D, D = w2.heap.size := ⟨_, rfl⟩
 rw [<- hD] at BX ⊢
 have hgD : g < D := by rw [hD]; exact HQ.out.2.2.2.1.lt
 obtain ⟨p, hp⟩ : ∃ p : zao, p = (ar, es.map (·.1)) := ⟨_, rfl⟩
 have har : ar = p.1 := by rw [hp]
 subst har
 have hb0 := HBB.out.1
 have hb1 := HBB.out.2
 have HD3 := Lib.hid (show zbk w1.heap.size w3 (.agg #[.slice A p.1.length c, .slice Ar es.length cr]) p from (show zbk w1.heap.size w2 _ p from ⟨A, Ar, c, cr, B, es, rfl, by rw [hp], HOK.out, hb0, hb1, HQ.out.1, HQ.out.2.1⟩).on b3)
 have hsz := HD3.out.sz
 have hal4 := HOK.out.1
 have hal5 := HOK.out.2.1
 have HAR := Lib.hid (show zg w3 w1.heap.size B (.slice A p.1.length c) p.1 from HQ.out.1.below b3 hb1)
 have HF3 := Lib.hid (show zp w3 (g + 1) w3.heap.size (.slice Af fs.length cf) fs from (HQ.out.2.2.1.below b3 (Nat.le_refl _)).mono (by omega) b3.size)
 have HR3 := Lib.hid (HQ.out.2.2.2.1.below b3 HQ.out.2.2.2.1.lt)
 have HO3 := Lib.hid (show zj g (g + 1) w1 w3 from HQ.out.2.2.2.2.trans (zj.of_below b3))
 have HBX := Lib.hid (show ∀ W, zj g (g + 1) w3 W -> W.cell? ⟨D, 0, none⟩ = some (.slice A p.1.length c) /\ W.cell? ⟨D, 1, none⟩ = some (.slice Ar es.length cr) from fun W hW => ⟨(hW.blk BX (by omega)).cell 0, (hW.blk BX (by omega)).cell 1⟩)
 have HPW := Lib.hid (show ∀ W, zj g (g + 1) w3 W -> zbI W W.heap.size (.agg #[.slice A p.1.length c, .slice Ar es.length cr]) p from fun W hW => (HD3.out.only hW hg1).prog)
 have HFW := Lib.hid (show ∀ W, zj g (g + 1) w3 W -> zt W W.heap.size (.slice Af fs.length cf) fs from fun W hW => (HF3.out.readOn hW).rd)
 have HAW := Lib.hid (show ∀ W, zj g (g + 1) w3 W -> zg W w1.heap.size B (.slice A p.1.length c) p.1 from fun W hW => HAR.out.only hW (.inr (by omega)))
 have hs3 := b3.size
 have hDl := BX.lt
 have hg3 : g < w3.heap.size := by omega
 clear hw3 hD BX b3 hp
 obtain ⟨po, hpo⟩ : ∃ po, po = zah p := ⟨_, rfl⟩
 obtain ⟨fo, hfo⟩ : ∃ fo, fo = zV p.1 fs := ⟨_, rfl⟩
 have CP := Lib.hid (fun W (hW : zj g (g + 1) w3 W) => zb8 (.agg #[.slice A p.1.length c, .slice Ar es.length cr]) p W (HPW.out _ hW) (by omega))
 have CF := Lib.hid (fun W (hW : zj g (g + 1) w3 W) => zco (.slice A p.1.length c) (.slice Af fs.length cf) p.1 fs W ((HAW.out _ hW).rd.more (by have := hW.size; omega)) (HFW.out _ hW) (by omega) (by omega) (by omega))
 rw [<- hpo] at CP
 rw [<- hfo] at CF
 clear hpo hfo
 go_upto_region 4 with fail
 obtain ⟨x0, x1⟩ := HBX.out _ (zj.refl _ _ _)
 go_cut [30] (fun s wx => ∃ (y : Bool) (q2 : Nat), s = .bool y /\ Rdr wx g bs q2 /\ q2 <= q + 1 /\ zj g (g + 1) w3 wx)
 case first =>
  cases po
  ·go_wp2_with (go_at_call 11; refine (CP.out _ (zj.refl _ _ _)).mono ?_
                rintro e w4 ⟨rfl, b4⟩
                have B4 := Lib.hid (And.intro (HR3.out.below b4 hg3) (zj.of_below (lo := g) (hi := g + 1) b4))
                clear b4)
   go_meet
   exact ⟨_, q, rfl, B4.out.1, by omega, B4.out.2⟩
  ·cases fo
   ·go_wp2_with (first
     | (go_at_call 11; refine (CP.out _ (zj.refl _ _ _)).mono ?_
        rintro e w4 ⟨rfl, b4⟩
        have B4 := Lib.hid (And.intro (HR3.out.below b4 hg3) (zj.of_below (lo := g) (hi := g + 1) b4))
        obtain ⟨y0, y1⟩ := HBX.out _ B4.out.2
        clear b4)
     | (go_at_call 44; refine (CF.out _ B4.out.2).mono ?_
        rintro e w5 ⟨rfl, b5⟩
        have B5 := Lib.hid (And.intro (B4.out.1.below b5 B4.out.1.lt) (B4.out.2.trans (zj.of_below b5)))
        clear b5))
    go_meet
    exact ⟨_, q, rfl, B5.out.1, by omega, B5.out.2⟩
   ·go_wp2_with (first
     | (go_at_call 11; refine (CP.out _ (zj.refl _ _ _)).mono ?_
        rintro e w4 ⟨rfl, b4⟩
        have B4 := Lib.hid (And.intro (HR3.out.below b4 hg3) (zj.of_below (lo := g) (hi := g + 1) b4))
        obtain ⟨y0, y1⟩ := HBX.out _ B4.out.2
        clear b4)
     | (go_at_call 44; refine (CF.out _ B4.out.2).mono ?_
        rintro e w5 ⟨rfl, b5⟩
        have B5 := Lib.hid (And.intro (B4.out.1.below b5 B4.out.1.lt) (B4.out.2.trans (zj.of_below b5)))
        clear b5)
     | (go_at_call 53; refine (zak g bs q 10 w5 B5.out.1 (by omega) (by omega)).mono ?_
        rintro e w6 ⟨⟨x, rfl, _⟩, hpk⟩
        have B6 := Lib.hid (And.intro hpk.1 (B5.out.2.trans hpk.2))
        clear hpk))
    go_meet
    exact ⟨_, q + 1, rfl, B6.out.1, by omega, B6.out.2⟩
 case rest =>
 obtain ⟨y, q2, rfl, hr2, hq2, ho2⟩ := hcut
 rename World => w7
 have H7 := Lib.hid (And.intro hr2 ho2)
 clear hr2 ho2 x0 x1
 go_upto_if 30 with (fail)
 go_cut [8] (fun s8 wx => ∃ (A8 : Option Addr) (c8 : Nat) (ls : List zd), s8 = .slice A8 ls.length c8 /\ zp wx (g + 1) wx.heap.size (.slice A8 ls.length c8) ls /\ (ls.length <= 1536 /\ tot ls <= 3072) /\ Rdr wx g bs q2 /\ zj g (g + 1) w3 wx)
 case first =>
  cases y
  ·go_wp2_with (fail)
   go_meet
   exact ⟨Af, cf, fs, rfl, HF3.out.readOn H7.out.2, by omega, H7.out.1, H7.out.2⟩
  ·obtain ⟨x0, x1⟩ := HBX.out _ H7.out.2
   obtain ⟨L, hL⟩ : ∃ L, L = zbF p fs := ⟨_, rfl⟩
   have HLF := Lib.hid (show L.length <= 1536 /\ tot L <= 3072 by rw [hL]; exact zl1 p fs)
   have CL := Lib.hid (zjc (.agg #[.slice A p.1.length c, .slice Ar es.length cr]) (.slice Af fs.length cf) p fs w7 (HPW.out _ H7.out.2) (HFW.out _ H7.out.2) (by omega) (by omega) (by omega))
   rw [<- hL] at CL
   clear hL
   have hs7 := H7.out.2.size
   go_wp2_with (go_at_call 9; refine CL.out.mono ?_
                rintro e w8 ⟨A8, c8, rfl, o8, b8⟩
                have B8 := Lib.hid (And.intro o8 (And.intro (H7.out.1.below b8 H7.out.1.lt) (H7.out.2.trans (zj.of_below b8))))
                clear o8 b8)
   go_meet
   exact ⟨A8, c8, L, rfl, B8.out.1.mono (by omega) (Nat.le_refl _), HLF.out, B8.out.2.1, B8.out.2.2⟩
 case rest =>
 obtain ⟨A8, c8, ls, rfl, ho8, hl8, hr8, hO8⟩ := hcut
 rename World => w8
 have H8 := Lib.hid (And.intro ho8 (And.intro hr8 hO8))
 clear ho8 hr8 hO8
 have hs8 := H8.out.2.2.size
 go_upto_region 7 with (fail)
 obtain ⟨w9, hw9⟩ : ∃ w9, w9 = w8.alloc (.cells #[] 39) := ⟨_, rfl⟩
 have b9 : Below w8.heap.size w8 w9 := by rw [hw9]; exact ze _ _
 have HM9 := Lib.hid (show zp w9 (g + 1) w9.heap.size (.slice (some ⟨w8.heap.size, 0, none⟩) 0 0) [] from by
  rw [hw9]
  exact ((zbc.empty w8).own.own.mono (by omega) (by simp)))
 rw [<- hw9]
 have H9 := Lib.hid (And.intro (H8.out.1.readOn (zj.of_below b9)) (And.intro (H8.out.2.1.below b9 (by omega)) (H8.out.2.2.trans (zj.of_below b9))))
 have hs9 := b9.size
 clear hw9 b9
 obtain ⟨x0, x1⟩ := HBX.out _ H9.out.2.2
 obtain ⟨ao, hao⟩ : ∃ ao, ao = zr p.1 := ⟨_, rfl⟩
 have CA := Lib.hid (zaC (.slice A p.1.length c) p.1 w9 ((HAW.out _ H9.out.2.2).rd.more (by omega)) (by omega))
 rw [<- hao] at CA
 have HAO := Lib.hid (show ao = true -> ∀ x ∈ p.1, 0 <= x /\ x <= 2 from fun h x hx => by
  rw [hao] at h
  unfold zr at h
  rw [Bool.and_eq_true, List.all_eq_true] at h
  have := h.2 x hx
  unfold zba at this
  exact of_decide_eq_true this)
 clear hao
 go_cut [37] (fun s wx => s = .bool ao /\ Below w9.heap.size w9 wx)
 case first =>
  go_wp2_with (go_at_call 60; refine CA.out.mono ?_; rintro e w10 ⟨rfl, rfl⟩)
  go_meet
  exact ⟨rfl, Below.refl _ _⟩
 case rest =>
 obtain ⟨rfl, b10⟩ := hcut
 rename World => w10
 have H10 := Lib.hid (And.intro (H9.out.1.readOn (zj.of_below b10)) (And.intro (H9.out.2.1.below b10 (by omega)) (H9.out.2.2.trans (zj.of_below b10))))
 have HM10 := Lib.hid (HM9.out.readOn (zj.of_below b10))
 have hs10 := b10.size
 clear b10 x0 x1
 go_upto_if 37 with (fail)
 go_cut [9] (fun s9 wx => ∃ (A9 : Option Addr) (c9 : Nat) (ms : List zd), s9 = .slice A9 ms.length c9 /\ zp wx (g + 1) wx.heap.size (.slice A9 ms.length c9) ms /\ (ms.length <= 4 /\ tot ms <= 12) /\ zj g (g + 1) w10 wx)
 case first =>
  cases ao
  ·go_wp2_with (fail)
   go_meet
   exact ⟨_, 0, [], rfl, HM10.out, ⟨by simp, by simp [tot]⟩, zj.refl _ _ _⟩
  ·obtain ⟨x0, x1⟩ := HBX.out _ H10.out.2.2
   have HW := HAW.out _ H10.out.2.2
   obtain ⟨ga, hga⟩ : ∃ ga, A = some ⟨ga, 0, none⟩ := by
    obtain ⟨g2, cap, e, _⟩ := HW.1.form (by omega)
    injection e with e1 _ _
    exact ⟨g2, e1⟩
   subst hga
   have hcl : p.1.length <= c := HW.capLe
   have HFR := Lib.hid (HW.front (n := 2) (by omega) (by omega))
   have e2 : (p.1.take 2).length = 2 := by rw [List.length_take]; omega
   have HX2 := Lib.hid (show ∀ x ∈ p.1.take 2, 0 <= x /\ x <= 2 from fun x hx => HAO.out rfl x (List.mem_of_mem_take hx))
   have CS := Lib.hid (ziG g bs q2 4 w1.heap.size B (.slice (some ⟨ga, 0, none⟩) 2 c) (p.1.take 2) w10 H10.out.2.1 (by omega) HFR.out hg1 (by omega) HX2.out (by omega) (by omega))
   clear HW e2
   go_wp2_with (go_at_call 61; refine CS.out.mono ?_
                rintro e w11 ⟨A11, c11, ms, q11, rfl, hm1, hm2, _, o11, _, hO11⟩
                have B11 := Lib.hid (And.intro o11 hO11)
                clear o11 hO11)
   go_meet
   exact ⟨A11, c11, ms, rfl, B11.out.1.mono (by omega) (Nat.le_refl _), by omega, B11.out.2⟩
 case rest =>
 obtain ⟨A11, c11, ms, rfl, ho11, hm11, hO11⟩ := hcut
 rename World => w11
 have H11 := Lib.hid (And.intro (H10.out.1.readOn hO11) (And.intro ho11 (H10.out.2.2.trans hO11)))
 clear ho11 hO11
 obtain ⟨x0, x1⟩ := HBX.out _ H11.out.2.2
 have hG := HG.out
 have HBW := Lib.hid (show zj g (g + 1) w1 w11 from HO3.out.trans H11.out.2.2)
 have J := HBW.out.blk HRA1.out (.inl hG)
 have j0 : w11.cell? ⟨w.heap.size, 0, none⟩ = some (.slice none 0 0) := J.cell 0
 have j1 : w11.cell? ⟨w.heap.size, 1, none⟩ = some (.slice none 0 0) := J.cell 1
 have l0 := J.frozen 0
 have l1 := J.frozen 1
 have HJ := Lib.hid J
 clear J
 go_wp2_with (fail)
 obtain ⟨W, hW⟩ : ∃ W, W = (w11.setCell ⟨w.heap.size, 0, none⟩ (.slice A p.1.length c)).setCell ⟨w.heap.size, 1, none⟩ (.slice Ar es.length cr) := ⟨_, rfl⟩
 rw [<- hW]
 obtain ⟨⟨d0, d1⟩, hoW, hszW, hBW⟩ := zoU HJ.out (zj.then_ HB1.out HBW.out (by omega)) hW
 refine bodyPost_ret (v := .tuple #[.agg #[.slice A p.1.length c, .slice Ar es.length cr], .slice A8 ls.length c8, .slice A11 ms.length c11]) (by simp [results, Tryz.results26, go_sem, d0, d1]) rfl ?_
 have hsw := HB1.out.size
 refine ⟨_, p, A8, c8, ls, A11, c11, ms, rfl, ((HD3.out.only H11.out.2.2 hg1).only hoW (by omega)).mono (by omega), ⟨?_, ?_⟩, hl8, hm11, hBW⟩
 ·exact ((H11.out.1.only hoW (.inr (by omega))).rd).more (by omega)
 ·exact ((H11.out.2.1.only hoW (.inr (by omega))).rd).more (by omega)
open Go.RowKit
open Go.RowKit
section
variable {w w' : World} {lo hi b : Nat} {v : Value} {hv : List Value} {FF : List (List zd)} {F : List zd} {P Q : Nat -> Nat}
theorem zp.none (w : World) (p q : Nat) : zp w p q (.slice none 0 0) [] := ⟨_, .nil, World.ownsRow_nil _ _ _ _, fun g hg => by cases hg⟩
theorem zfA.none (w : World) (p q : Nat) : zfA w p q (.slice none 0 0) [] := ⟨[], fun _ => 0, fun _ => 0, ⟨World.ownsRow_nil _ _ _ _, fun g hg => (by cases hg), fun i h1 => absurd h1 (by simp), fun i j _ h1 => absurd h1 (by simp)⟩⟩
theorem zc9.only (h : zc9 w lo hi v hv FF P Q) (ho : zj b (b + 1) w w') (hne : ∀ g, v.ownBlock = some g -> g ≠ b) (hP : ∀ i, i < FF.length -> b < P i) : zc9 w' lo hi v hv FF P Q where
 row := zB h.row fun g hg => ho.block g (h.row.lt g hg).2 (by have := hne g hg; omega)
 lt := h.lt
 own i h1 h2 := by
  obtain ⟨g1, g2, g3, g4⟩ := h.own i h1 h2
  exact ⟨g1, g2, g3.only ho (.inr (hP i h1)), g4⟩
 ord := h.ord
theorem zc9.put {g c n j a m : Nat} {u : Value} (h : zc9 w lo hi (.slice (some ⟨g, 0, none⟩) n c) hv FF P Q) (hn : FF.length = n) (hj : j < n) (hz : ∀ i, j <= i -> i < n -> hv[i]? = some (.slice none 0 0) /\ FF[i]? = some [])
 (hu : zp w a m u F) (ha : hi <= a) (ham : a <= m) (hm : m <= w.heap.size) :
 zc9 (w.setCell ⟨g, j, none⟩ u) lo m (.slice (some ⟨g, 0, none⟩) n c) (hv.set j u) (FF.set j F) (fun i => if i < j then P i else if i = j then a else m) (fun i => if i < j then Q i else m) := by
 subst hn
 have hlen := h.len
 have hgl : g < hi := h.lt g rfl
 have hgw := h.row.lt g rfl
 have hst := h.row.stored j u
 have keep : ∀ {p q : Nat} {x : Value} {G : List zd}, zp w p q x G -> (g < p \/ q <= g) -> zp (w.setCell ⟨g, j, none⟩ u) p q x G := fun {p q x G} h0 hne => by
  have ho : zj g (g + 1) w (w.setCell ⟨g, j, none⟩ u) := zj.setCell (zj.refl g (g + 1) w) (p := ⟨g, j, none⟩) ⟨Nat.le_refl g, Nat.lt_succ_self g⟩ u
  exact h0.only ho (by omega)
 refine ⟨by rw [List.length_set]; exact hst.1, fun g2 hg2 => by have := h.lt g2 hg2; omega, fun i h1 h2 => ?_, fun i k hik hk => ?_⟩
 ·rw [List.length_set] at h1 h2
  obtain ⟨g1, g2, g3, g4⟩ := h.own i h1 h2
  by_cases e1 : i < j
  ·simp only [if_pos e1]
   rw [List.getElem_set_ne (by omega), List.getElem_set_ne (by omega)]
   exact ⟨g1, ⟨g2.1, by omega⟩, keep g3 (by have := g4 g rfl; omega), g4⟩
  ·by_cases e2 : i = j
   ·subst e2
    simp only [if_neg e1, if_true]
    rw [List.getElem_set_self, List.getElem_set_self]
    exact ⟨by omega, ⟨ham, Nat.le_refl _⟩, keep hu (by omega), fun g2 hg2 => by have := h.lt g2 hg2; omega⟩
   ·simp only [if_neg e1, if_neg e2]
    rw [List.getElem_set_ne (by omega), List.getElem_set_ne (by omega)]
    obtain ⟨z1, z2⟩ := hz i (by omega) h1
    rw [List.getElem?_eq_getElem h2] at z1
    rw [List.getElem?_eq_getElem h1] at z2
    injection z1 with z1
    injection z2 with z2
    rw [z1, z2]
    exact ⟨by omega, ⟨Nat.le_refl _, Nat.le_refl _⟩, zp.none _ _ _, fun g2 hg2 => by have := h.lt g2 hg2; omega⟩
 ·rw [List.length_set] at hk
  by_cases e1 : k < j
  ·simp only [if_pos e1, if_pos (show i < j by omega)]
   exact h.ord i k hik hk
  ·by_cases e2 : i < j
   ·simp only [if_pos e2, if_neg e1]
    have hi2 := (h.own i (by omega) (by omega)).2.1
    split <;> omega
   ·simp only [if_neg e2, if_neg e1, if_neg (show ¬ k = j by omega)]
    omega
end
open Go.RowKit
open Go.RowKit
open Go.RowKit
theorem zjX.least {w : World} {g o m : Nat} {p : zao} {fs : List zd} {X : List FV} {E : List Nat} {R : Nat -> Value} (h : zjX w g p fs X E o R m) (hl : zfM p fs = true) : zbJ (zM zW (zn X)) p.1 = zbF p fs := by
 obtain ⟨h1, h2, h3, _⟩ := zex hl
 have hm := zf4 h1 h2 (zaE.set h3) h.rounds
 have ht := zfS h1 h.fit.fits
 unfold zbF zaI
 rw [hl, hm]
 exact ht.1.unique (zjI (zay _) m) fun f => (ht.2 f).trans (h.now f)
set_option maxHeartbeats 4000000 in
theorem zjm (v v2 : Value) (p : zao) (fs : List zd) (w : World) (h : zbI w w.heap.size v p) (h2 : zt w w.heap.size v2 fs) (hs : szP p <= 1048576) (hn : fs.length <= 1048576) (ht : tot fs <= 1048576) (hT : Tab w) :
 Calls Tryz.prog 7 #[v, v2] w fun e w' => ∃ A' c', e = .returned (.slice A' (zbF p fs).length c') /\ zp w' w.heap.size w'.heap.size (.slice A' (zbF p fs).length c') (zbF p fs) /\ Below w.heap.size w w' := by
 have HT := Lib.hid hT
 have HP := Lib.hid h
 have H2 := Lib.hid h2
 obtain ⟨a, b, rfl, hA, hR⟩ := h
 have HA := Lib.hid hA
 obtain ⟨A, c, rfl, hcA, _⟩ := hA
 obtain ⟨A2, c2, rfl, hcR, _⟩ := hR
 obtain ⟨A3, c3, rfl, hcF, _⟩ := h2
 obtain ⟨R, hRR⟩ : ∃ R, R = zbF p fs := ⟨_, rfl⟩
 have HRR := Lib.hid hRR
 rw [<- hRR]
 clear hRR hT
 go_enter Tryz.func7, Tryz.ntmps7
 go_upto_region 1 with fail
 obtain ⟨w1, hw1⟩ : ∃ w1, w1 = w.alloc (Obj.cells #[Value.slice A p.1.length c, Value.slice A2 p.2.length c2] 26) := ⟨_, rfl⟩
 have X1 : Blk w1 w.heap.size 26 #[.slice A p.1.length c, .slice A2 p.2.length c2] := by rw [hw1]; exact Blk.new _ _ _
 have B1 : Below w.heap.size w w1 := by rw [hw1]; exact ze _ _
 rw [<- hw1]
 clear hw1
 have x0 : w1.cell? ⟨w.heap.size, 0, none⟩ = some (.slice A p.1.length c) := X1.cell 0
 have x1 : w1.cell? ⟨w.heap.size, 1, none⟩ = some (.slice A2 p.2.length c2) := X1.cell 1
 have CG := Lib.hid (zkn _ _ p fs w1 (HP.out.on B1) (H2.out.on B1) hs hn ht)
 have HX1 := Lib.hid X1
 clear X1
 go_wp2_with (go_at_call 30; refine CG.out.mono ?_; rintro e w2 ⟨hcase, b2⟩; rcases hcase with ⟨hno, rfl⟩ | ⟨hyes, g, X, E, o, Rg, m, rfl, hg, hgr⟩)
 ·go_wp2_with fail
  go_ret
  have e : R = [] := by rw [HRR.out]; unfold zbF; rw [hno]; rfl
  rw [e]
  exact ⟨none, 0, rfl, ⟨_, .nil, World.ownsRow_nil _ _ _ _, fun g hg => by cases hg⟩, zf B1 b2⟩
 ·have HGR := Lib.hid hgr
  have HY := Lib.hid hyes
  have B2 := Lib.hid (zf B1 b2)
  have X2 := Lib.hid (HX1.out.below b2 HX1.out.lt)
  have HG := Lib.hid hg
  obtain ⟨har, _⟩ := zex hyes
  have HAR := Lib.hid har
  have x20 : w2.cell? ⟨w.heap.size, 0, none⟩ = some (.slice A p.1.length c) := X2.out.cell 0
  clear hgr hyes b2 x0 x1 har
  go_upto_region 4 with fail
  obtain ⟨SS, hSS⟩ : ∃ SS : World -> Prop, SS = (fun W => Below w2.heap.size w2 W /\ W.cell? ⟨w.heap.size, 0, none⟩ = some (.slice A p.1.length c)) := ⟨_, rfl⟩
  have HB := Lib.hid (show ∀ W, SS W -> (Below w2.heap.size w2 W /\ W.cell? ⟨w.heap.size, 0, none⟩ = some (.slice A p.1.length c)) from by rw [hSS]; exact fun W hW => hW)
  have HS := Lib.hid (show ∀ W, Below w2.heap.size w2 W -> SS W from by
   rw [hSS]
   exact fun W hW => ⟨hW, (hW.cell (World.block_lt_of_cell? _ _ x20)).trans x20⟩)
  clear hSS
  have BB : Below w2.heap.size w2 w2.drew := (Below.refl _ _).drew
  have SB := HS.out _ BB
  have CT := Lib.hid (zfT g (zM zW (zn X)) (.slice A p.1.length c) p.1 w2.drew (HGR.out.at_.drew.tab) ((HA.out.on B2.out).on BB) HAR.out ((HT.out.below B2.out).below BB))
  rw [HGR.out.least HY.out, <- HRR.out] at CT
  refine zx SS 6 7 (by kernel_rfl) rfl ?_
  refine za (i := 0) (oi := _) ?va0 rfl rfl (by kernel_rfl) (by decide) (fun _ _ _ h => h) rfl ?hya0 (fun _ => SB) ?resta0
  case hya0 => (intro W; go_simp; (try with_reducible rfl))
  try simp only [zs.a, zs.b, zs.c]
  refine za (i := 1) (oi := _) ?va1 rfl rfl (by kernel_rfl) (by decide) (fun _ _ _ h => h) rfl ?hya1 (fun _ => SB) ?resta1
  case hya1 => (intro W; go_simp; (try with_reducible rfl))
  try simp only [zs.a, zs.b, zs.c]
  refine za (i := 2) (oi := _) ?va2 rfl rfl (by kernel_rfl) (by decide) (fun _ _ _ h => h) rfl ?hya2 (fun _ => SB) ?resta2
  case hya2 => (intro W; go_simp; (try with_reducible rfl))
  try simp only [zs.a, zs.b, zs.c]
  refine za (i := 3) (oi := _) ?va3 rfl rfl (by kernel_rfl) (by decide) (fun _ _ _ h => h) rfl ?hya3 (fun _ => SB) ?resta3
  case hya3 => (intro W; go_simp; (try with_reducible rfl))
  try simp only [zs.a, zs.b, zs.c]
  refine zl (i := 4) (oi := _) ?va4 rfl rfl (by kernel_rfl) (fun _ _ _ h => h) rfl ?hya4 SB ?resta4
  case hya4 => (intro W hW; obtain ⟨_, E0⟩ := HB.out W hW; go_simp; (try with_reducible rfl))
  try simp only [zs.a, zs.b, zs.c]
  refine zh (i := 5) (by kernel_rfl) rfl (fun K hK => ?_)
  try rw [if_pos (show Region.wanted _ _ = true from rfl)]
  go_simp
  refine CT.out.mono ?_
  rintro e5 w5 ⟨A5, c5, rfl, o5, b5⟩
  have H5 := Lib.hid (And.intro o5 b5)
  clear o5 b5
  have S5 := HS.out w5 (zf BB H5.out.2)
  refine hK.out _ _ (fun _ => S5) ?_
  clear hK K
  try simp only [zs.a, zs.b, zs.c, Act.put]
  refine zh (i := 6) (by kernel_rfl) rfl (fun K hK => ?_)
  go_simp
  refine hK.out _ _ (fun hf => absurd hf (by decide)) ?_
  clear hK K
  refine zH (by kernel_rfl) ?_
  clear S5 SB HB HS
  go_wp2_with fail
  go_ret
  exact ⟨A5, c5, rfl, H5.out.1.mono (Nat.le_trans B2.out.size BB.size) (Nat.le_refl _), zf B2.out (zf BB H5.out.2)⟩
open Go.RowKit
def zdO (p : zao) (ls ms : List zd) : Bool := zah p && (zcc p ls && zV p.1 ms)
def zcj (p : zao) (ls ms : List zd) : List zd := if zdO p ls ms then zaI p.2 (zD (ls ++ ms)) else []
structure zeY (p : zao) (ls ms : List zd) : Prop where
 ar : zr p.1 = true
 fit : ∀ r ∈ p.2, zw p.1 r = true
 few : p.2.length <= 60
 fitL : ∀ f ∈ ls, zA p.1 f = true
 nodL : ls.Nodup
 fitM : ∀ f ∈ ms, zA p.1 f = true
 nodM : ms.Nodup
 heads : ∀ f ∈ zN p.2 ls, f ∈ ls
theorem zeN {p : zao} {ls ms : List zd} (h : zdO p ls ms = true) : zeY p ls ms := by
 simp only [zdO, zah, zcc, Bool.and_eq_true, decide_eq_true_eq] at h
 obtain ⟨⟨h0, _⟩, ⟨_, h2, h3⟩, h4⟩ := h
 obtain ⟨k1, k2, k3⟩ := zdN h0
 obtain ⟨_, f1, f2⟩ := zbN h2
 obtain ⟨_, g1, g2⟩ := zbN h4
 refine ⟨k1, k3, k2, f1, zce f2, g1, zce g2, fun f hf => ?_⟩
 apply Classical.byContradiction
 intro hn
 have hm : f ∈ zbK (zN p.2 ls) ls false := (ziq _ _ _ _).2 ⟨hf, by simp [hn]⟩
 rw [List.length_eq_zero_iff.1 h3] at hm
 cases hm
theorem zeY.sum {p : zao} {ls ms : List zd} (h : zeY p ls ms) : (ls.length <= 1536 /\ tot ls <= 3072) /\ ms.length <= 1536 /\ tot ms <= 3072 := ⟨zbM h.ar h.nodL h.fitL, zbM h.ar h.nodM h.fitM⟩
theorem zeY.both {p : zao} {ls ms : List zd} (h : zeY p ls ms) : zaE p.1 (zD (ls ++ ms)) := zaE.set fun f hf => by
 rcases List.mem_append.1 hf with h1 | h1
 ·exact h.fitL f h1
 ·exact h.fitM f h1
theorem zeY.bothFew {p : zao} {ls ms : List zd} (h : zeY p ls ms) : (zD (ls ++ ms)).length <= 1536 /\ tot (zD (ls ++ ms)) <= 3072 := zbM h.ar h.both.nodup h.both.fits
theorem zhu (xs : List zd) : zD (zD xs) = zD xs := (zay _).unique (zay _) fun f => by rw [zac]
theorem zlZ (p : zao) (ls ms : List zd) : (zcj p ls ms).length <= 1536 /\ tot (zcj p ls ms) <= 3072 := by
 unfold zcj
 cases h : zdO p ls ms
 ·simp [tot]
 ·have hp := zeN h
  rw [if_pos rfl]
  exact ziH hp.ar hp.fit hp.both _
set_option maxHeartbeats 4000000 in
theorem zgl (v v2 v3 : Value) (p : zao) (ls ms : List zd) (w : World) (h : zbI w w.heap.size v p) (h2 : zt w w.heap.size v2 ls) (h3 : zt w w.heap.size v3 ms) (hs : szP p <= 1048576) (hn : ls.length <= 1048576) (ht : tot ls <= 1048576) (hn3 : ms.length <= 1048576) (ht3 : tot ms <= 1048576) :
 Calls Tryz.prog 28 #[v, v2, v3] w fun e w' => ∃ A' c', e = .returned (.slice A' (zcj p ls ms).length c') /\ zp w' w.heap.size w'.heap.size (.slice A' (zcj p ls ms).length c') (zcj p ls ms) /\ Below w.heap.size w w' := by
 have HP := Lib.hid h
 have H2 := Lib.hid h2
 have H3 := Lib.hid h3
 have hs' := hs
 unfold szP at hs'
 obtain ⟨a, b, rfl, hA, hR⟩ := h
 have HA := Lib.hid hA
 have HR := Lib.hid hR
 obtain ⟨A, c, rfl, hcA, _⟩ := hA
 obtain ⟨A2, c2, rfl, hcR, _⟩ := hR
 obtain ⟨A3, c3, rfl, hcF, _⟩ := h2
 obtain ⟨A4, c4, rfl, hcM, _⟩ := h3
 obtain ⟨po, hpo⟩ : ∃ po, po = zah p := ⟨_, rfl⟩
 obtain ⟨co, hco⟩ : ∃ co, co = zcc p ls := ⟨_, rfl⟩
 obtain ⟨fo, hfo⟩ : ∃ fo, fo = zV p.1 ms := ⟨_, rfl⟩
 have HL := Lib.hid (show zdO p ls ms = (po && (co && fo)) by rw [hpo, hco, hfo]; rfl)
 obtain ⟨R, hRR⟩ : ∃ R, R = zcj p ls ms := ⟨_, rfl⟩
 have HRR := Lib.hid (show R = if (po && (co && fo)) then zaI p.2 (zD (ls ++ ms)) else [] by rw [hRR, <- HL.out]; rfl)
 rw [<- hRR]
 clear hRR
 go_enter Tryz.func28, Tryz.ntmps28
 go_upto_region 1 with fail
 obtain ⟨w1, hw1⟩ : ∃ w1, w1 = w.alloc (Obj.cells #[Value.slice A p.1.length c, Value.slice A2 p.2.length c2] 26) := ⟨_, rfl⟩
 have X1 : Blk w1 w.heap.size 26 #[.slice A p.1.length c, .slice A2 p.2.length c2] := by rw [hw1]; exact Blk.new _ _ _
 have B1 : Below w.heap.size w w1 := by rw [hw1]; exact ze _ _
 rw [<- hw1]
 clear hw1
 have x0 : w1.cell? ⟨w.heap.size, 0, none⟩ = some (.slice A p.1.length c) := X1.cell 0
 have x1 : w1.cell? ⟨w.heap.size, 1, none⟩ = some (.slice A2 p.2.length c2) := X1.cell 1
 have CP := Lib.hid ((zb8 _ p w1 (HP.out.on B1) hs).mono fun e w' (hh : e = .returned (.bool (zah p)) /\ Below w1.heap.size w1 w') => (⟨by rw [hh.1, hpo], hh.2⟩ : e = .returned (.bool po) /\ Below w1.heap.size w1 w'))
 have CC := Lib.hid (fun W (hW : Below w.heap.size w W) => (zii _ _ p ls W (HP.out.on hW) (H2.out.on hW) hs hn ht).mono fun e w' (hh : e = .returned (.bool (zcc p ls)) /\ Below W.heap.size W w') => (⟨by rw [hh.1, hco], hh.2⟩ : e = .returned (.bool co) /\ Below W.heap.size W w'))
 have CF := Lib.hid (fun W (hW : Below w.heap.size w W) => (zco _ _ p.1 ms W (HA.out.on hW) (H3.out.on hW) (by omega) (by omega) (by omega)).mono fun e w' (hh : e = .returned (.bool (zV p.1 ms)) /\ Below W.heap.size W w') => (⟨by rw [hh.1, hfo], hh.2⟩ : e = .returned (.bool fo) /\ Below W.heap.size W w'))
 have HX1 := Lib.hid X1
 clear hpo hco hfo X1
 cases po
 ·go_wp2_with (go_at_call 11; refine CP.out.mono ?_; rintro e w2 ⟨rfl, b2⟩; have B2 := Lib.hid (zf B1 b2); clear b2)
  go_ret
  have e : R = [] := by rw [HRR.out]; rfl
  rw [e]
  exact ⟨none, 0, rfl, ⟨_, .nil, World.ownsRow_nil _ _ _ _, fun g hg => by cases hg⟩, B2.out⟩
 ·cases co
  ·go_wp2_with (first
    | (go_at_call 11; refine CP.out.mono ?_; rintro e w2 ⟨rfl, b2⟩; have B2 := Lib.hid (zf B1 b2)
       have HX2 := Lib.hid (HX1.out.below b2 HX1.out.lt)
       have x20 : w2.cell? ⟨w.heap.size, 0, none⟩ = some (.slice A p.1.length c) := HX2.out.cell 0
       have x21 : w2.cell? ⟨w.heap.size, 1, none⟩ = some (.slice A2 p.2.length c2) := HX2.out.cell 1
       clear b2)
    | (go_at_call 15; refine (CC.out _ B2.out).mono ?_; rintro e w3 ⟨rfl, b3⟩; have B3 := Lib.hid (zf B2.out b3); clear b3))
   go_ret
   have e : R = [] := by rw [HRR.out]; rfl
   rw [e]
   exact ⟨none, 0, rfl, ⟨_, .nil, World.ownsRow_nil _ _ _ _, fun g hg => by cases hg⟩, B3.out⟩
  ·cases fo
   ·go_wp2_with (first
     | (go_at_call 11; refine CP.out.mono ?_; rintro e w2 ⟨rfl, b2⟩; have B2 := Lib.hid (zf B1 b2)
        have HX2 := Lib.hid (HX1.out.below b2 HX1.out.lt)
        have x20 : w2.cell? ⟨w.heap.size, 0, none⟩ = some (.slice A p.1.length c) := HX2.out.cell 0
        have x21 : w2.cell? ⟨w.heap.size, 1, none⟩ = some (.slice A2 p.2.length c2) := HX2.out.cell 1
        clear b2)
     | (go_at_call 15; refine (CC.out _ B2.out).mono ?_; rintro e w3 ⟨rfl, b3⟩; have B3 := Lib.hid (zf B2.out b3)
        have x30 : w3.cell? ⟨w.heap.size, 0, none⟩ = some (.slice A p.1.length c) := (HX2.out.below b3 HX2.out.lt).cell 0
        clear b3)
     | (go_at_call 44; refine (CF.out _ B3.out).mono ?_; rintro e w4 ⟨rfl, b4⟩; have B4 := Lib.hid (zf B3.out b4); clear b4))
    go_ret
    have e : R = [] := by rw [HRR.out]; rfl
    rw [e]
    exact ⟨none, 0, rfl, ⟨_, .nil, World.ownsRow_nil _ _ _ _, fun g hg => by cases hg⟩, B4.out⟩
   ·have MO := Lib.hid (zeN (p := p) (ls := ls) (ms := ms) (by rw [HL.out]; rfl))
    have HRE := Lib.hid (show R = zaI p.2 (zD (ls ++ ms)) by rw [HRR.out]; rfl)
    go_upto_region 3 with (first
     | (go_at_call 11; refine CP.out.mono ?_; rintro e w2 ⟨rfl, b2⟩; have B2 := Lib.hid (zf B1 b2)
        have HX2 := Lib.hid (HX1.out.below b2 HX1.out.lt)
        have x20 : w2.cell? ⟨w.heap.size, 0, none⟩ = some (.slice A p.1.length c) := HX2.out.cell 0
        have x21 : w2.cell? ⟨w.heap.size, 1, none⟩ = some (.slice A2 p.2.length c2) := HX2.out.cell 1
        clear b2)
     | (go_at_call 15; refine (CC.out _ B2.out).mono ?_; rintro e w3 ⟨rfl, b3⟩; have B3 := Lib.hid (zf B2.out b3)
        have HX3 := Lib.hid (HX2.out.below b3 HX2.out.lt)
        have x30 : w3.cell? ⟨w.heap.size, 0, none⟩ = some (.slice A p.1.length c) := HX3.out.cell 0
        clear b3)
     | (go_at_call 44; refine (CF.out _ B3.out).mono ?_; rintro e w4 ⟨rfl, b4⟩; have B4 := Lib.hid (zf B3.out b4)
        have X4 := Lib.hid (HX3.out.below b4 HX3.out.lt)
        clear b4))
    obtain ⟨SS, hSS⟩ : ∃ SS : World -> Prop, SS = (fun W => Below w4.heap.size w4 W /\ W.cell? ⟨w.heap.size, 1, none⟩ = some (.slice A2 p.2.length c2)) := ⟨_, rfl⟩
    have HB := Lib.hid (show ∀ W, SS W -> (Below w4.heap.size w4 W /\ W.cell? ⟨w.heap.size, 1, none⟩ = some (.slice A2 p.2.length c2)) from by rw [hSS]; exact fun W hW => hW)
    have HS := Lib.hid (show ∀ W, Below w4.heap.size w4 W -> SS W from by
     rw [hSS]
     exact fun W hW => ⟨hW, (X4.out.below hW X4.out.lt).cell 1⟩)
    clear hSS
    have BB : Below w4.heap.size w4 w4.drew := (Below.refl _ _).drew
    have SB := HS.out _ BB
    have BW := Lib.hid (B4.out.trans (BB.mono B4.out.size))
    have hsum := MO.out.sum
    have CE := Lib.hid (zbu (.slice A3 ls.length c3) (.slice A4 ms.length c4) ls ms w4.drew (H2.out.on BW.out) (H3.out.on BW.out) (by omega) (by omega))
    refine zx SS 6 7 (by kernel_rfl) rfl ?_
    refine za (i := 0) (oi := _) ?va0 rfl rfl (by kernel_rfl) (by decide) (fun _ _ _ h => h) rfl ?hya0 (fun _ => SB) ?resta0
    case hya0 => (intro W; go_simp; (try with_reducible rfl))
    try simp only [zs.a, zs.b, zs.c]
    refine zl (i := 1) (oi := _) ?va1 rfl rfl (by kernel_rfl) (fun _ _ _ h => h) rfl ?hya1 SB ?resta1
    case hya1 => (intro W hW; obtain ⟨_, E0⟩ := HB.out W hW; go_simp; (try with_reducible rfl))
    try simp only [zs.a, zs.b, zs.c]
    refine za (i := 2) (oi := _) ?va2 rfl rfl (by kernel_rfl) (by decide) (fun _ _ _ h => h) rfl ?hya2 (fun _ => SB) ?resta2
    case hya2 => (intro W; go_simp; (try with_reducible rfl))
    try simp only [zs.a, zs.b, zs.c]
    refine za (i := 3) (oi := _) ?va3 rfl rfl (by kernel_rfl) (by decide) (fun _ _ _ h => h) rfl ?hya3 (fun _ => SB) ?resta3
    case hya3 => (intro W; go_simp; (try with_reducible rfl))
    try simp only [zs.a, zs.b, zs.c]
    refine zh (i := 4) (by kernel_rfl) rfl (fun K hK => ?_)
    try rw [if_pos (show Region.wanted _ _ = true from rfl)]
    go_simp
    refine CE.out.mono ?_
    rintro e5 w5 ⟨A5, c5, rfl, o5, b5⟩
    have H5 := Lib.hid (And.intro o5 b5)
    clear o5 b5
    have S5 := HS.out w5 (zf BB H5.out.2)
    have hbf := MO.out.bothFew
    have CL := Lib.hid (zhG p.1 MO.out.ar p.2 MO.out.fit (by omega) (by have := MO.out.few; omega) (.slice A2 p.2.length c2) (.slice A5 (zD (ls ++ ms)).length c5) (zD (ls ++ ms)) w5 (HR.out.on (BW.out.trans (H5.out.2.mono BW.out.size))) (H5.out.1.rdS) (fun f hf => MO.out.both.fits f hf) (by omega) (by omega))
    rw [zhu, <- HRE.out] at CL
    refine hK.out _ _ (fun _ => S5) ?_
    clear hK K
    try simp only [zs.a, zs.b, zs.c, Act.put]
    refine zh (i := 5) (by kernel_rfl) rfl (fun K hK => ?_)
    try rw [if_pos (show Region.wanted _ _ = true from rfl)]
    go_simp
    refine CL.out.mono ?_
    rintro e6 w6 ⟨A6, c6, rfl, o6, b6⟩
    have H6 := Lib.hid (And.intro o6 b6)
    clear o6 b6
    have S6 := HS.out w6 (zf (zf BB H5.out.2) H6.out.2)
    refine hK.out _ _ (fun _ => S6) ?_
    clear hK K
    try simp only [zs.a, zs.b, zs.c, Act.put]
    refine zh (i := 6) (by kernel_rfl) rfl (fun K hK => ?_)
    go_simp
    refine hK.out _ _ (fun hf => absurd hf (by decide)) ?_
    clear hK K
    refine zH (by kernel_rfl) ?_
    clear S5 S6 SB HB HS
    go_wp2_with fail
    go_ret
    have hbig : Below w.heap.size w w5 := BW.out.trans (H5.out.2.mono BW.out.size)
    exact ⟨A6, c6, rfl, H6.out.1.mono hbig.size (Nat.le_refl _), zf hbig H6.out.2⟩
open Go.RowKit
section
variable {ar : List Int} {rs : List zI} {F G : List zd}
end
theorem zo5 {ar : List Int} {fs : List zd} (ha : zr ar = true) (hf : ∀ f ∈ fs, zA ar f = true) (h : Asc fs) : zV ar fs = true := by
 unfold zV
 rw [ha, Bool.true_and, List.all_eq_true]
 intro k hk
 rw [List.mem_range] at hk
 unfold zbR
 rw [zbS hk, hf _ (List.getElem_mem hk), Bool.true_and, Bool.or_eq_true, decide_eq_true_eq, decide_eq_true_eq]
 by_cases e : k = 0
 ·exact .inl e
 ·rw [zbS (show k - 1 < fs.length by omega)]
  exact .inr (List.pairwise_iff_getElem.1 h (k - 1) k (by omega) hk (by omega))
theorem zl0 {p : zao} {fs : List zd} (h : zfM p fs = true) : zbF p fs = zaI p.2 (zD fs) := by
 unfold zbF
 rw [h]
 rfl
theorem znP {p : zao} {ls ms : List zd} (h : zdO p ls ms = false) : zcj p ls ms = [] := by
 unfold zcj
 rw [h]
 rfl
theorem znQ {p : zao} {ls ms : List zd} (h : zdO p ls ms = true) : zcj p ls ms = zbF p (zD (ls ++ ms)) := by
 have hm := zeN h
 have hp : zah p = true := by
  unfold zdO at h
  rw [Bool.and_eq_true] at h
  exact h.1
 have h5 := zo5 hm.ar hm.both.fits (zay (ls ++ ms))
 have h6 : zfM p (zD (ls ++ ms)) = true := by
  unfold zfM
  rw [hp, h5]
  rfl
 rw [zl0 h6, zhu]
 unfold zcj
 rw [h]
 rfl
open Go.RowKit
theorem zlW {p : zao} {ls ms L0 L1 : List zd} {n : Nat} (h : zeY p ls ms) (h0 : zaE p.1 L0 /\ ∀ f, f ∈ L0 <-> f ∈ ls) (hb : zam L0 (fun f => f ∈ ms) L1) (hn : L0.length = n) : ∀ f, f ∈ zN p.2 (L1.take n) -> f ∈ L1 := by
 obtain ⟨⟨N, e⟩, _, hm⟩ := hb
 intro f hf
 have e1 : L1.take n = L0 := by rw [e, <- hn]; simp
 rw [e1] at hf
 have hL : zaE p.1 ls := ⟨h.nodL, h.fitL⟩
 rw [zdc h.fit h0.1 hL h0.2] at hf
 exact (hm f).2 (.inl ((h0.2 f).2 (h.heads f hf)))
theorem zlV {p : zao} {ls ms L0 L1 L : List zd} {E0 E : List Nat} {m : Nat} (h : zeY p ls ms) (h0 : zaE p.1 L0 /\ ∀ f, f ∈ L0 <-> f ∈ ls) (hb : zam L0 (fun f => f ∈ ms) L1) (hg : zkE p.1 p.2 L1 E0 L E m) : zbJ (zM zW L) p.1 = zaI p.2 (zD (ls ++ ms)) := by
 have he : zD L1 = zD (ls ++ ms) := (zay _).unique (zay _) fun f => by rw [zac, zac, hb.2.2, h0.2, List.mem_append]
 have hr := hg.rounds
 have hnow := hg.now
 rw [he] at hr hnow
 have hm := zf4 h.ar h.fit h.both hr
 have ht := zfS h.ar hg.fit.fits
 unfold zaI
 rw [hm]
 exact ht.1.unique (zjI (zay _) m) fun f => (ht.2 f).trans (hnow f)
set_option maxHeartbeats 4000000 in
theorem zgz (v v2 v3 : Value) (p : zao) (ls ms : List zd) (w : World) (h : zbI w w.heap.size v p) (h2 : zt w w.heap.size v2 ls) (h3 : zt w w.heap.size v3 ms) (hs : szP p <= 1048576) (hn : ls.length <= 1048576) (ht : tot ls <= 1048576) (hn3 : ms.length <= 1048576) (ht3 : tot ms <= 1048576) (hT : Tab w) :
 Calls Tryz.prog 27 #[v, v2, v3] w fun e w' => ∃ A' c', e = .returned (.slice A' (zcj p ls ms).length c') /\ zp w' w.heap.size w'.heap.size (.slice A' (zcj p ls ms).length c') (zcj p ls ms) /\ Below w.heap.size w w' := by
 have HT := Lib.hid hT
 clear hT
 have HP := Lib.hid h
 have H2 := Lib.hid h2
 have H3 := Lib.hid h3
 have hs' := hs
 unfold szP at hs'
 obtain ⟨a, b, rfl, hA, hR⟩ := h
 have HA := Lib.hid hA
 have HR := Lib.hid hR
 obtain ⟨A, c, rfl, hcA, _⟩ := hA
 obtain ⟨A2, c2, rfl, hcR, _⟩ := hR
 obtain ⟨A3, c3, rfl, hcF, _⟩ := h2
 obtain ⟨A4, c4, rfl, hcM, _⟩ := h3
 obtain ⟨po, hpo⟩ : ∃ po, po = zah p := ⟨_, rfl⟩
 obtain ⟨co, hco⟩ : ∃ co, co = zcc p ls := ⟨_, rfl⟩
 obtain ⟨fo, hfo⟩ : ∃ fo, fo = zV p.1 ms := ⟨_, rfl⟩
 have HL := Lib.hid (show zdO p ls ms = (po && (co && fo)) by rw [hpo, hco, hfo]; rfl)
 obtain ⟨R, hRR⟩ : ∃ R, R = zcj p ls ms := ⟨_, rfl⟩
 have HRR := Lib.hid (show R = if (po && (co && fo)) then zaI p.2 (zD (ls ++ ms)) else [] by rw [hRR, <- HL.out]; rfl)
 rw [<- hRR]
 clear hRR
 go_enter Tryz.func27, Tryz.ntmps27
 go_upto_region 1 with fail
 obtain ⟨w1, hw1⟩ : ∃ w1, w1 = w.alloc (Obj.cells #[Value.slice A p.1.length c, Value.slice A2 p.2.length c2] 26) := ⟨_, rfl⟩
 have X1 : Blk w1 w.heap.size 26 #[.slice A p.1.length c, .slice A2 p.2.length c2] := by rw [hw1]; exact Blk.new _ _ _
 have B1 : Below w.heap.size w w1 := by rw [hw1]; exact ze _ _
 rw [<- hw1]
 clear hw1
 have x0 : w1.cell? ⟨w.heap.size, 0, none⟩ = some (.slice A p.1.length c) := X1.cell 0
 have x1 : w1.cell? ⟨w.heap.size, 1, none⟩ = some (.slice A2 p.2.length c2) := X1.cell 1
 have CP := Lib.hid ((zc4 _ p w1 (HP.out.on B1) hs).mono fun e w' (hh : e = .returned (.bool (zah p)) /\ Below w1.heap.size w1 w') => (⟨by rw [hh.1, hpo], hh.2⟩ : e = .returned (.bool po) /\ Below w1.heap.size w1 w'))
 have CC := Lib.hid (fun W (hW : Below w.heap.size w W) => (zfp _ _ p ls W (HP.out.on hW) (H2.out.on hW) hs hn ht).mono fun e w' (hh : e = .returned (.bool (zcc p ls)) /\ Below W.heap.size W w') => (⟨by rw [hh.1, hco], hh.2⟩ : e = .returned (.bool co) /\ Below W.heap.size W w'))
 have CF := Lib.hid (fun W (hW : Below w.heap.size w W) => (zcp _ _ p.1 ms W (HA.out.on hW) (H3.out.on hW) (by omega) (by omega) (by omega)).mono fun e w' (hh : e = .returned (.bool (zV p.1 ms)) /\ Below W.heap.size W w') => (⟨by rw [hh.1, hfo], hh.2⟩ : e = .returned (.bool fo) /\ Below W.heap.size W w'))
 have HX1 := Lib.hid X1
 clear hpo hco hfo X1
 cases po
 ·go_wp2_with (go_at_call 10; refine CP.out.mono ?_; rintro e w2 ⟨rfl, b2⟩; have B2 := Lib.hid (zf B1 b2); clear b2)
  go_ret
  have e : R = [] := by rw [HRR.out]; rfl
  rw [e]
  exact ⟨none, 0, rfl, ⟨_, .nil, World.ownsRow_nil _ _ _ _, fun g hg => by cases hg⟩, B2.out⟩
 ·cases co
  ·go_wp2_with (first
    | (go_at_call 10; refine CP.out.mono ?_; rintro e w2 ⟨rfl, b2⟩; have B2 := Lib.hid (zf B1 b2)
       have HX2 := Lib.hid (HX1.out.below b2 HX1.out.lt)
       have x20 : w2.cell? ⟨w.heap.size, 0, none⟩ = some (.slice A p.1.length c) := HX2.out.cell 0
       have x21 : w2.cell? ⟨w.heap.size, 1, none⟩ = some (.slice A2 p.2.length c2) := HX2.out.cell 1
       clear b2)
    | (go_at_call 14; refine (CC.out _ B2.out).mono ?_; rintro e w3 ⟨rfl, b3⟩; have B3 := Lib.hid (zf B2.out b3); clear b3))
   go_ret
   have e : R = [] := by rw [HRR.out]; rfl
   rw [e]
   exact ⟨none, 0, rfl, ⟨_, .nil, World.ownsRow_nil _ _ _ _, fun g hg => by cases hg⟩, B3.out⟩
  ·cases fo
   ·go_wp2_with (first
     | (go_at_call 10; refine CP.out.mono ?_; rintro e w2 ⟨rfl, b2⟩; have B2 := Lib.hid (zf B1 b2)
        have HX2 := Lib.hid (HX1.out.below b2 HX1.out.lt)
        have x20 : w2.cell? ⟨w.heap.size, 0, none⟩ = some (.slice A p.1.length c) := HX2.out.cell 0
        have x21 : w2.cell? ⟨w.heap.size, 1, none⟩ = some (.slice A2 p.2.length c2) := HX2.out.cell 1
        clear b2)
     | (go_at_call 14; refine (CC.out _ B2.out).mono ?_; rintro e w3 ⟨rfl, b3⟩; have B3 := Lib.hid (zf B2.out b3)
        have x30 : w3.cell? ⟨w.heap.size, 0, none⟩ = some (.slice A p.1.length c) := (HX2.out.below b3 HX2.out.lt).cell 0
        clear b3)
     | (go_at_call 12; refine (CF.out _ B3.out).mono ?_; rintro e w4 ⟨rfl, b4⟩; have B4 := Lib.hid (zf B3.out b4); clear b4))
    go_ret
    have e : R = [] := by rw [HRR.out]; rfl
    rw [e]
    exact ⟨none, 0, rfl, ⟨_, .nil, World.ownsRow_nil _ _ _ _, fun g hg => by cases hg⟩, B4.out⟩
   ·have MO := Lib.hid (zeN (p := p) (ls := ls) (ms := ms) (by rw [HL.out]; rfl))
    have HRE := Lib.hid (show R = zaI p.2 (zD (ls ++ ms)) by rw [HRR.out]; rfl)
    have hsum := MO.out.sum
    go_upto_region 6 with (first
     | (go_at_call 10; refine CP.out.mono ?_; rintro e w2 ⟨rfl, b2⟩; have B2 := Lib.hid (zf B1 b2)
        have HX2 := Lib.hid (HX1.out.below b2 HX1.out.lt)
        have x20 : w2.cell? ⟨w.heap.size, 0, none⟩ = some (.slice A p.1.length c) := HX2.out.cell 0
        have x21 : w2.cell? ⟨w.heap.size, 1, none⟩ = some (.slice A2 p.2.length c2) := HX2.out.cell 1
        clear b2)
     | (go_at_call 14; refine (CC.out _ B2.out).mono ?_; rintro e w3 ⟨rfl, b3⟩; have B3 := Lib.hid (zf B2.out b3)
        have HX3 := Lib.hid (HX2.out.below b3 HX2.out.lt)
        have x30 : w3.cell? ⟨w.heap.size, 0, none⟩ = some (.slice A p.1.length c) := HX3.out.cell 0
        clear b3)
     | (go_at_call 12; refine (CF.out _ B3.out).mono ?_; rintro e w4 ⟨rfl, b4⟩; have B4 := Lib.hid (zf B3.out b4)
        have X4 := Lib.hid (HX3.out.below b4 HX3.out.lt)
        have CG := Lib.hid (zfs p.1 MO.out.ar (.slice A3 ls.length c3) ls w4 (H2.out.on B4.out) MO.out.fitL hn)
        clear b4)
     | (go_at_call 62; refine CG.out.mono ?_; rintro e w5 ⟨X, Rg, rfl, g5, b5, f5, m5⟩
        have H5 := Lib.hid (And.intro g5 (And.intro b5 (And.intro f5 m5)))
        have CB := Lib.hid (zjU w4.heap.size p.1 MO.out.ar X [X.length] 0 X.length Rg (.slice A4 ms.length c4) ms w5 g5 f5 ((H3.out.on B4.out).below b5 (Nat.le_refl _)) MO.out.fitM hn3)
        clear g5 b5 f5 m5)
     | (go_at_call 63; refine CB.out.mono ?_; rintro e w6 ⟨rfl, X6, R6, g6, k6, br6⟩
        have H6 := Lib.hid (And.intro g6 (And.intro k6 br6))
        have b6 : Below w4.heap.size w4 w6 := H5.out.2.1.trans k6.below
        have x61 : w6.cell? ⟨w.heap.size, 1, none⟩ = some (.slice A2 p.2.length c2) := (X4.out.below b6 X4.out.lt).cell 1
        have BW6 := Lib.hid b6
        have fx6 : zaE p.1 (zn X6) := br6.fit H5.out.2.2.1 MO.out.fitM
        have CO := Lib.hid (ziL w4.heap.size p.1 MO.out.ar p.2 MO.out.fit (by omega) (by have := MO.out.few; omega) X6 [X.length] 0 X.length R6 (.slice A2 p.2.length c2) w6 g6 fx6 ((HR.out.on B4.out).below b6 (Nat.le_refl _)) (by simp) (by simp) (by simp) (by simp) (zlW MO.out H5.out.2.2 br6 (zai X)))
        clear g6 k6 br6 b6 fx6)
     | (go_at_call 64; refine CO.out.mono ?_; rintro e w7 ⟨rfl, X7, E7, o7, R7, m7, g7, k7, gr7⟩
        have H7 := Lib.hid (And.intro g7 (And.intro k7 gr7))
        have BW7 := Lib.hid (BW6.out.trans k7.below)
        clear g7 k7 gr7))
    have B7 := Lib.hid (B4.out.trans (BW7.out.mono B4.out.size))
    obtain ⟨SS, hSS⟩ : ∃ SS : World -> Prop, SS = (fun W => Below w7.heap.size w7 W /\ W.cell? ⟨w.heap.size, 0, none⟩ = some (.slice A p.1.length c)) := ⟨_, rfl⟩
    have HB := Lib.hid (show ∀ W, SS W -> (Below w7.heap.size w7 W /\ W.cell? ⟨w.heap.size, 0, none⟩ = some (.slice A p.1.length c)) from by rw [hSS]; exact fun W hW => hW)
    have X7b := Lib.hid (X4.out.below BW7.out X4.out.lt)
    have HS := Lib.hid (show ∀ W, Below w7.heap.size w7 W -> SS W from by
     rw [hSS]
     exact fun W hW => ⟨hW, (X7b.out.below hW X7b.out.lt).cell 0⟩)
    clear hSS
    have BB : Below w7.heap.size w7 w7.drew := (Below.refl _ _).drew
    have SB := HS.out _ BB
    have CT := Lib.hid (zfT w4.heap.size (zM zW (zn X7)) (.slice A p.1.length c) p.1 w7.drew (H7.out.1.drew.tab) ((HA.out.on B7.out).on BB) MO.out.ar ((HT.out.below B7.out).below BB))
    rw [zlV MO.out H5.out.2.2 H6.out.2.2 H7.out.2.2, <- HRE.out] at CT
    refine zx SS 6 7 (by kernel_rfl) rfl ?_
    refine za (i := 0) (oi := _) ?va0 rfl rfl (by kernel_rfl) (by decide) (fun _ _ _ h => h) rfl ?hya0 (fun _ => SB) ?resta0
    case hya0 => (intro W; go_simp; (try with_reducible rfl))
    try simp only [zs.a, zs.b, zs.c]
    refine za (i := 1) (oi := _) ?va1 rfl rfl (by kernel_rfl) (by decide) (fun _ _ _ h => h) rfl ?hya1 (fun _ => SB) ?resta1
    case hya1 => (intro W; go_simp; (try with_reducible rfl))
    try simp only [zs.a, zs.b, zs.c]
    refine za (i := 2) (oi := _) ?va2 rfl rfl (by kernel_rfl) (by decide) (fun _ _ _ h => h) rfl ?hya2 (fun _ => SB) ?resta2
    case hya2 => (intro W; go_simp; (try with_reducible rfl))
    try simp only [zs.a, zs.b, zs.c]
    refine za (i := 3) (oi := _) ?va3 rfl rfl (by kernel_rfl) (by decide) (fun _ _ _ h => h) rfl ?hya3 (fun _ => SB) ?resta3
    case hya3 => (intro W; go_simp; (try with_reducible rfl))
    try simp only [zs.a, zs.b, zs.c]
    refine zl (i := 4) (oi := _) ?va4 rfl rfl (by kernel_rfl) (fun _ _ _ h => h) rfl ?hya4 SB ?resta4
    case hya4 => (intro W hW; obtain ⟨_, E0⟩ := HB.out W hW; go_simp; (try with_reducible rfl))
    try simp only [zs.a, zs.b, zs.c]
    refine zh (i := 5) (by kernel_rfl) rfl (fun K hK => ?_)
    try rw [if_pos (show Region.wanted _ _ = true from rfl)]
    go_simp
    refine CT.out.mono ?_
    rintro e5 w8 ⟨A8, c8, rfl, o8, b8⟩
    have H8 := Lib.hid (And.intro o8 b8)
    clear o8 b8
    have S8 := HS.out w8 (zf BB H8.out.2)
    refine hK.out _ _ (fun _ => S8) ?_
    clear hK K
    try simp only [zs.a, zs.b, zs.c, Act.put]
    refine zh (i := 6) (by kernel_rfl) rfl (fun K hK => ?_)
    go_simp
    refine hK.out _ _ (fun hf => absurd hf (by decide)) ?_
    clear hK K
    refine zH (by kernel_rfl) ?_
    clear S8 SB HB HS
    go_wp2_with fail
    go_ret
    exact ⟨A8, c8, rfl, H8.out.1.mono (Nat.le_trans B7.out.size BB.size) (Nat.le_refl _), zf B7.out (zf BB H8.out.2)⟩
end Go.Proofs.YtofkcmihcgmmpaaGreatDoor
