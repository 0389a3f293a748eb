/-
  The law FnLinks: for every input the call returns true, and each argument reads behind it as it read before. Conditions: none but the row's own.
-/
import Derived.Test.YtokmmloakahkhaaDoorRows
import Derived.Test.YtokmmloakahkhaaDoorCards
import Derived.Test.YtokmmloakahkhaaDoorTie
import Derived.Lay
import Derived.SevenTiedAt
import Derived.Test.YtokmmloakahkhaaDoorMLk1
import Derived.Test.YtokmmloakahkhaaDoorMLk2
import Derived.Test.YtokmmloakahkhaaDoorMLk5
import Derived.Test.YtokmmloakahkhaaDoorMLk6
import Derived.Test.YtokmmloakahkhaaDoorMLk7
import Derived.Test.YtokmmloakahkhaaDoorMLk8
/-
  The walk of the law FnLinks.
-/
namespace Go.Proofs.YtokmmloakahkhaaDoor
open Go.RowKit

theorem links_few (p : LProg) : (linksOf p).length ≤ 1152 := by
  unfold linksOf
  by_cases h : progOk p = true
  · rw [if_pos h]
    have h1 := linksL_len p.1.length p.1.length (asksOf p.2)
    have h2 := (asksOf_fits h).1
    have h3 : p.1.length * (p.1.length * 2) ≤ 24 * (24 * 2) := Nat.mul_le_mul h2 (Nat.mul_le_mul_right 2 h2)
    omega
  · rw [if_neg h]; simp

set_option maxHeartbeats 4000000 in
set_option maxRecDepth 100000 in
theorem lawPlainLinks_any (v : Value) (code : List Nat) (w : World) (hr : RdBytes w w.heap.size v code) (_ : code.length ≤ maxLen) (hby : ∀ b ∈ code, b < 256) (hT : Tab w) :
    Calls Tryd.prog 6 #[v] w fun e w' => e = .returned (.bool true) ∧ Below w.heap.size w w' := by
  have HV := Lib.hid hr
  have HT := Lib.hid hT
  obtain ⟨Av, cv, rfl, hcv, _⟩ := hr
  clear hT
  go_enter Tryd.func6, Tryd.ntmps6
  by_cases hbig : 1048576 < code.length
  · have hd : decide ((1048576 : Int) < code.length) = true := by simp; omega
    go_wp2_with (fail)
    go_ret
    exact ⟨rfl, Below.refl _ _⟩
  have hd : decide ((1048576 : Int) < code.length) = false := by simp; omega
  have hbn : code.length ≤ 1073741824 := by omega
  go_upto_region 4 with (go_at_call 27; refine (drawLinksOf_any _ code w HV.out hby hbn).mono ?_
                         rintro e w1 ⟨u, p, rfl, hdp, B1⟩
                         obtain ⟨A, A2, c, c2, rfl, ra, rr⟩ := hdp.rd
                         have hsz := hdp.sz
                         clear hdp)
  have hs' := hsz
  unfold szP at hs'
  have hpl : p.2.length ≤ 100 := by omega
  have HSZ := Lib.hid (show szP p ≤ 1048576 by omega)
  obtain ⟨w2, hw2⟩ : ∃ w2, w2 = w1.alloc (Obj.cells #[Value.slice A p.1.length c, Value.slice A2 p.2.length c2] 26) := ⟨_, rfl⟩
  have b2 : Below w1.heap.size w1 w2 := by rw [hw2]; exact below1 _ _
  have BX : Blk w2 w1.heap.size 26 #[.slice A p.1.length c, .slice A2 p.2.length c2] := by rw [hw2]; exact Blk.new _ _ _
  rw [← hw2]
  clear hw2
  obtain ⟨D, hD⟩ : ∃ D, D = w1.heap.size := ⟨_, rfl⟩
  rw [← hD] at BX ⊢
  clear hD
  have B2 := Lib.hid (bthen B1 b2)
  have HPR := Lib.hid (show ∀ W, Below w2.heap.size w2 W → RdProg W W.heap.size (.agg #[.slice A p.1.length c, .slice A2 p.2.length c2]) p from fun W hW => ⟨_, _, rfl, (ra.on b2).on hW, (rr.on b2).on hW⟩)
  have HRR := Lib.hid (show ∀ W, Below w2.heap.size w2 W → RdRules W W.heap.size (.slice A2 p.2.length c2) p.2 from fun W hW => (rr.on b2).on hW)
  have HBX := Lib.hid (show ∀ W, Below w2.heap.size w2 W → Blk W D 26 #[.slice A p.1.length c, .slice A2 p.2.length c2] from fun W hW => BX.below hW BX.lt)
  have x0 : w2.cell? ⟨D, 0, none⟩ = some (.slice A p.1.length c) := BX.cell 0
  have x1 : w2.cell? ⟨D, 1, none⟩ = some (.slice A2 p.2.length c2) := BX.cell 1
  have hDl := BX.lt
  obtain ⟨L, hL⟩ : ∃ L, L = linksOf p := ⟨_, rfl⟩
  have HL := Lib.hid hL
  have hll : L.length ≤ 1152 := by rw [hL]; exact links_few p
  have CI := Lib.hid (implLinksOf_any _ p w2 (HPR.out _ (Below.refl _ _)) HSZ.out (HT.out.below B2.out))
  have CS := Lib.hid (fun W (hW : Below w2.heap.size w2 W) => specLinksOf_any _ p W (HPR.out _ hW) HSZ.out)
  rw [← hL] at CI CS
  clear hL BX b2 B1 ra rr
  go_upto_region 5 with (go_at_call 15; refine CI.out.mono ?_; rintro e w3 ⟨A3, c3, rfl, o3, b3⟩)
  have B3 := Lib.hid b3
  have HO3 := Lib.hid o3
  have x0 : w3.cell? ⟨D, 0, none⟩ = some (.slice A p.1.length c) := (HBX.out _ b3).cell 0
  have x1 : w3.cell? ⟨D, 1, none⟩ = some (.slice A2 p.2.length c2) := (HBX.out _ b3).cell 1
  clear o3 b3
  go_upto_region 6 with (go_at_call 24; refine (CS.out _ B3.out).mono ?_; rintro e w4 ⟨A4, c4, rfl, o4, b4⟩)
  have B4 := Lib.hid (bthen B3.out b4)
  have HI4 := Lib.hid ((HO3.out.below b4 (Nat.le_refl _)).rd.more b4.size)
  have HW4 := Lib.hid o4.rd
  clear o4 b4 x0 x1
  go_upto_region 7 with (go_at_call 28; refine (drawRecursive_any _ code w4 (HV.out.onM (bthen B2.out B4.out)) hby hbn).mono ?_
                         rintro e w5 ⟨u5, q, y, rfl, hdq, b5⟩
                         obtain ⟨A5, A6, c5, c6, rfl, ra5, rr5⟩ := hdq.rd
                         have hszq := hdq.sz
                         clear hdq)
  obtain ⟨w6, hw6⟩ : ∃ w6, w6 = w5.alloc (Obj.cells #[Value.slice A5 q.1.length c5, Value.slice A6 q.2.length c6] 26) := ⟨_, rfl⟩
  have b6 : Below w5.heap.size w5 w6 := by rw [hw6]; exact below1 _ _
  have BQ : Blk w6 w5.heap.size 26 #[.slice A5 q.1.length c5, .slice A6 q.2.length c6] := by rw [hw6]; exact Blk.new _ _ _
  rw [← hw6]
  clear hw6
  have B6 := Lib.hid (bthen B4.out (bthen b5 b6))
  have HI6 := Lib.hid (HI4.out.on (bthen b5 b6))
  have HW6 := Lib.hid (HW4.out.on (bthen b5 b6))
  have HQ6 := Lib.hid (show RdProg w6 w6.heap.size (.agg #[.slice A5 q.1.length c5, .slice A6 q.2.length c6]) q from ⟨_, _, rfl, ra5.on b6, rr5.on b6⟩)
  have HT6 := Lib.hid (HT.out.below (bthen B2.out B6.out))
  clear b5 b6 ra5 rr5
  have M0 := later_cell (BQ.cell 0 : w6.cell? ⟨w5.heap.size, 0, none⟩ = some (.slice A5 q.1.length c5))
  have M1 := later_cell (BQ.cell 1 : w6.cell? ⟨w5.heap.size, 1, none⟩ = some (.slice A6 q.2.length c6))
  clear BQ
  obtain ⟨rq, hrq⟩ : ∃ rq, rq = recL q y := ⟨_, rfl⟩
  have D1 := Lib.hid (fun x : Later w6 => later_of (implRecursive_any (.agg #[.slice A5 q.1.length c5, .slice A6 q.2.length c6]) q y x.val (HQ6.out.on x.2) (by omega) (HT6.out.below x.2)))
  have D2 := Lib.hid (fun x : Later w6 => later_of (specRecursive_any (.agg #[.slice A5 q.1.length c5, .slice A6 q.2.length c6]) q y x.val (HQ6.out.on x.2) (by omega)))
  rw [← hrq] at D1 D2
  clear hrq
  have hn1 : (rq != rq) = false := by simp
  have hn0 : ((L.length : Int) != (L.length : Int)) = false := by simp
  go_cut [44] (fun s wx => s = .bool false ∧ Below w6.heap.size w6 wx)
  case first =>
    refine wp_region_later (by kernel_rfl) (by kernel_rfl) ?_
    repeat (go_big_quiet_step (first | (go_at_call 25; exact D1.out _) | (go_at_call 26; exact D2.out _)))
    refine wpQuiet_nil ?_
    rintro _ ⟨xq, rfl⟩
    go_wp2_with (fail)
    go_meet
    exact ⟨rfl, xq.2⟩
  case rest =>
    obtain ⟨rfl, b7⟩ := hcut
    rename World => w7
    have B7 := Lib.hid (bthen B6.out b7)
    have HI7 := Lib.hid (HI6.out.on b7)
    have HW7 := Lib.hid (HW6.out.on b7)
    clear M0 M1 b7 hn1
    go_wp2_with (fail)
    go_loopw [47] (fun i wr => ∃ k : Nat, k ≤ L.length ∧ i = .int .i64 k ∧ Below w7.heap.size w7 wr) (fun i _ => L.length - (intOf i).toNat)
    case atStart => exact ⟨0, Nat.zero_le _, rfl, Below.refl _ _⟩
    case round =>
      obtain ⟨k, hk, rfl, hbe⟩ := hrel
      have HBE := Lib.hid hbe
      by_cases hlt : k < L.length
      · obtain ⟨bb, oo, hA3, hbb, k0, k1, k2⟩ := (HI7.out.on hbe).at_ hlt
        obtain ⟨bc, od, hA4, hbc, j0, j1, j2⟩ := (HW7.out.on hbe).at_ hlt
        subst hA3 hA4
        obtain ⟨X, hX⟩ : ∃ X, X = L[k] := ⟨_, rfl⟩
        rw [← hX] at k0 k1 k2 j0 j1 j2
        obtain ⟨a0, a1, a2⟩ := X
        simp only at k0 k1 k2 j0 j1 j2
        have sbb : bb < wr.heap.size := hbb
        clear hX hbe
        go_upto_region 12 with fail
        obtain ⟨wl, hwl⟩ : ∃ wl, wl = wr.alloc (Obj.cells #[Value.int IntKind.i64 a0, Value.int IntKind.i64 a1, Value.bool a2] 37) := ⟨_, rfl⟩
        have bl : Below wr.heap.size wr wl := by rw [hwl]; exact below1 _ _
        have Y : Blk wl wr.heap.size 37 #[.int .i64 a0, .int .i64 a1, .bool a2] := by rw [hwl]; exact Blk.new _ _ _
        rw [← hwl]
        clear hwl
        have M0 := later_cell (Y.cell 0 : wl.cell? ⟨wr.heap.size, 0, none⟩ = some (.int .i64 a0))
        have M1 := later_cell (Y.cell 1 : wl.cell? ⟨wr.heap.size, 1, none⟩ = some (.int .i64 a1))
        have M2 := later_cell (Y.cell 2 : wl.cell? ⟨wr.heap.size, 2, none⟩ = some (.bool a2))
        have M3 := later_cell ((bl.cell (p := ⟨bc, od + k * 3, none⟩) hbc).trans j0)
        have M4 := later_cell ((bl.cell (p := ⟨bc, od + k * 3 + 1, none⟩) hbc).trans j1)
        have M5 := later_cell ((bl.cell (p := ⟨bc, od + k * 3 + 2, none⟩) hbc).trans j2)
        have HBL := Lib.hid (bthen HBE.out bl)
        clear k0 k1 k2 j0 j1 j2 Y
        go_cut [57] (fun s wx => s = .bool false ∧ Below wl.heap.size wl wx)
        case first =>
          refine wp_region_later (by kernel_rfl) (by kernel_rfl) ?_
          repeat (go_big_quiet_step (fail))
          refine wpQuiet_nil ?_
          rintro _ ⟨xq, rfl⟩
          go_wp2_with (fail)
          go_meet
          exact ⟨rfl, xq.2⟩
        case rest =>
          obtain ⟨rfl, b8⟩ := hcut
          have HB8 := Lib.hid (bthen HBL.out b8)
          clear b8 M0 M1 M2 M3 M4 M5 bl
          go_wp2_with fail
          go_roundw
          case rel => exact ⟨k + 1, by omega, by go_num, HB8.out⟩
          case measure => simp [intOf]; omega
      · have BW := Lib.hid (bthen B7.out hbe)
        have HI8 := Lib.hid (show ∀ W, Below wr.heap.size wr W → RdLinks W W.heap.size (.slice A3 L.length c3) L from fun W hW => HI7.out.on (bthen hbe hW))
        clear hbe HBE
        have x0 : wr.cell? ⟨D, 0, none⟩ = some (.slice A p.1.length c) := (HBX.out _ BW.out).cell 0
        have x1 : wr.cell? ⟨D, 1, none⟩ = some (.slice A2 p.2.length c2) := (HBX.out _ BW.out).cell 1
        have CPI := Lib.hid (implProgramOk_any _ p wr (HPR.out _ BW.out) HSZ.out)
        have CPS := Lib.hid (fun W (hW : Below w2.heap.size w2 W) => specProgramOk_any _ p W (HPR.out _ hW) HSZ.out)
        obtain ⟨po, hpo⟩ : ∃ po, po = progOk p := ⟨_, rfl⟩
        rw [← hpo] at CPI CPS
        have HPO := Lib.hid hpo
        clear hpo
        obtain ⟨wa, hwa⟩ : ∃ wa, wa = wr := ⟨_, rfl⟩
        rw [← hwa] at BW CPI HI8 x0 x1 ⊢
        clear hwa
        cases po
        · have hl0 : ((L.length : Int) == 0) = true := by rw [HL.out, link_none HPO.out.symm]; rfl
          go_wp2_with (first
            | (go_at_call 12; refine CPI.out.mono ?_; rintro e w8 ⟨rfl, b8⟩
               have B8 := Lib.hid (bthen BW.out b8)
               have y0 : w8.cell? ⟨D, 0, none⟩ = some (.slice A p.1.length c) := (HBX.out _ B8.out).cell 0
               have y1 : w8.cell? ⟨D, 1, none⟩ = some (.slice A2 p.2.length c2) := (HBX.out _ B8.out).cell 1
               clear b8)
            | (go_at_call 13; refine (CPS.out _ B8.out).mono ?_; rintro e w9 ⟨rfl, b9⟩; have B9 := Lib.hid (bthen B8.out b9); clear b9))
          go_ret
          exact ⟨rfl, bthen B2.out B9.out⟩
        · go_wp2_with (go_at_call 12; refine CPI.out.mono ?_; rintro e w8 ⟨rfl, b8⟩
                       have B8 := Lib.hid (bthen BW.out b8)
                       have HI9 := Lib.hid (show ∀ W, Below w8.heap.size w8 W → RdLinks W W.heap.size (.slice A3 L.length c3) L from fun W hW => HI8.out W (bthen b8 hW))
                       have y0 : w8.cell? ⟨D, 0, none⟩ = some (.slice A p.1.length c) := (HBX.out _ B8.out).cell 0
                       have y1 : w8.cell? ⟨D, 1, none⟩ = some (.slice A2 p.2.length c2) := (HBX.out _ B8.out).cell 1
                       clear b8 x0 x1)
          clear y0 y1
          go_loopw [73] (fun i wr => ∃ k : Nat, k ≤ p.2.length ∧ i = .int .i64 k ∧ Below w8.heap.size w8 wr) (fun i _ => p.2.length - (intOf i).toNat)
          case atStart => exact ⟨0, Nat.zero_le _, rfl, Below.refl _ _⟩
          case round =>
            obtain ⟨k, hk, rfl, hbe⟩ := hrel
            have BK := Lib.hid (bthen B8.out hbe)
            have BE := Lib.hid hbe
            clear hbe
            by_cases hlt : k < p.2.length
            · obtain ⟨b, o, u0, u1, u2, hA2, hbB, k0, k1, k2, rfl, q1, q2⟩ := (HRR.out _ BK.out).get hlt
              subst hA2
              have Q2 := Lib.hid q2
              obtain ⟨A7, c7, rfl, _⟩ := q1
              obtain ⟨A8, c8, rfl, _⟩ := q2
              have HRL := Lib.hid (show p.2[k].2.length ≤ 4 ∧ ∀ l ∈ p.2[k].2, litFits p.1 l = true from by
                have hpk := HPO.out.symm
                simp only [progOk, Bool.and_eq_true, List.all_eq_true] at hpk
                have := hpk.2.2 _ (List.getElem_mem hlt)
                simp only [ruleFits, Bool.and_eq_true, decide_eq_true_eq, List.all_eq_true] at this
                exact ⟨this.2.1, this.2.2.1⟩)
              have hrl4 := HRL.out.1
              go_upto_region 20 with fail
              obtain ⟨wv, hwv⟩ : ∃ wv, wv = wr.alloc (Obj.cells #[Value.int .i64 p.2[k].1.1, Value.slice A7 p.2[k].1.2.length c7, Value.slice A8 p.2[k].2.length c8] 53) := ⟨_, rfl⟩
              have bv : Below wr.heap.size wr wv := by rw [hwv]; exact below1 _ _
              have X : Blk wv wr.heap.size 53 #[.int .i64 p.2[k].1.1, .slice A7 p.2[k].1.2.length c7, .slice A8 p.2[k].2.length c8] := by rw [hwv]; exact Blk.new _ _ _
              rw [← hwv]
              have hvl := X.lt
              clear hwv k0 k1 k2
              have x2 : wv.cell? ⟨wr.heap.size, 2, none⟩ = some (.slice A8 p.2[k].2.length c8) := X.cell 2
              have HX := Lib.hid X
              have Q2V := Lib.hid (Q2.out.on bv)
              have BEV := Lib.hid (bthen BE.out bv)
              clear X bv
              go_wp2_with fail
              clear x2
              obtain ⟨wo, rfl⟩ : ∃ wo, wo = wr := ⟨_, rfl⟩
              go_loopw [80] (fun i wr => ∃ m : Nat, m ≤ p.2[k].2.length ∧ i = .int .i64 m ∧ Below wv.heap.size wv wr) (fun i _ => p.2[k].2.length - (intOf i).toNat)
              case atStart => exact ⟨0, Nat.zero_le _, rfl, Below.refl _ _⟩
              case round =>
                obtain ⟨m, hm, rfl, hbm⟩ := hrel
                have HBM := Lib.hid hbm
                by_cases hltm : m < p.2[k].2.length
                · obtain ⟨b5, o5, y0, y1, y2, hA8, hb5, l0, l1, l2, rfl, rfl, q5⟩ := (Q2V.out.on hbm).get hltm
                  subst hA8
                  obtain ⟨A9, c9, rfl, _⟩ := q5
                  have hXl : wo.heap.size < wr.heap.size := Nat.lt_of_lt_of_le hvl hbm.size
                  have z0 : wr.cell? ⟨wo.heap.size, 0, none⟩ = some (.int .i64 p.2[k].1.1) := (HX.out.below hbm HX.out.lt).cell 0
                  clear hbm
                  go_upto_region 23 with fail
                  obtain ⟨wl, hwl⟩ : ∃ wl, wl = wr.alloc (Obj.cells #[Value.int .i64 p.2[k].2[m].1, Value.int .i64 p.2[k].2[m].2.1, Value.slice A9 p.2[k].2[m].2.2.length c9] 55) := ⟨_, rfl⟩
                  have bl : Below wr.heap.size wr wl := by rw [hwl]; exact below1 _ _
                  have Y : Blk wl wr.heap.size 55 #[.int .i64 p.2[k].2[m].1, .int .i64 p.2[k].2[m].2.1, .slice A9 p.2[k].2[m].2.2.length c9] := by rw [hwl]; exact Blk.new _ _ _
                  rw [← hwl]
                  have hll2 := Y.lt
                  clear hwl l0 l1 l2
                  have e0 : wl.cell? ⟨wr.heap.size, 0, none⟩ = some (.int .i64 p.2[k].2[m].1) := Y.cell 0
                  have HY := Lib.hid Y
                  have HZ := Lib.hid (show Blk wl wo.heap.size 53 #[.int .i64 p.2[k].1.1, .slice A7 p.2[k].1.2.length c7, .slice (some ⟨b5, o5, none⟩) p.2[k].2.length c8] from HX.out.below (bthen HBM.out bl) HX.out.lt)
                  have BEL := Lib.hid (bthen BEV.out (bthen HBM.out bl))
                  have HBML := Lib.hid (bthen HBM.out bl)
                  obtain ⟨kd, hkd⟩ : ∃ kd, kd = p.2[k].2[m].1 := ⟨_, rfl⟩
                  obtain ⟨hp, hhp⟩ : ∃ hp, hp = p.2[k].1.1 := ⟨_, rfl⟩
                  obtain ⟨lp, hlp⟩ : ∃ lp, lp = p.2[k].2[m].2.1 := ⟨_, rfl⟩
                  have HIN := Lib.hid (show (decide ((1 : Int) < kd) || L.contains (hp, lp, kd == 1)) = true from by
                    have h1 := HRL.out.2 _ (List.getElem_mem hltm)
                    by_cases h2 : kd = 0 ∨ kd = 1
                    · have h3 := link_lit HPO.out.symm (List.getElem_mem hlt) (List.getElem_mem hltm) (by rw [← hkd]; exact h2)
                      rw [← HL.out, ← hhp, ← hlp, ← hkd] at h3
                      have e : (kd == 1) = decide (kd = 1) := by rcases h2 with h | h <;> simp [h]
                      rw [e, List.contains_iff_mem.2 h3, Bool.or_true]
                    · unfold litFits at h1
                      rw [if_neg (by rw [← hkd]; exact h2)] at h1
                      split at h1
                      · rename_i h3
                        rw [← hkd] at h3
                        rw [decide_eq_true (by omega), Bool.true_or]
                      · cases h1)
                  rw [← hkd] at HY e0
                  rw [← hhp] at HZ z0
                  rw [← hlp] at HY
                  clear hkd hhp hlp Y bl z0
                  obtain ⟨hh, hhe⟩ : ∃ hh, decide ((1 : Int) < kd) = hh := ⟨_, rfl⟩
                  rw [hhe] at HIN
                  go_wp2_with fail
                  clear e0 hhe
                  obtain ⟨wm, rfl⟩ : ∃ wm, wm = wr := ⟨_, rfl⟩
                  go_loopw [14, 89] (fun f i wr => ∃ j : Nat, j ≤ L.length ∧ i = .int .i64 j ∧ f = .bool (hh || (L.take j).contains (hp, lp, kd == 1)) ∧ Below wl.heap.size wl wr) (fun _ i _ => L.length - (intOf i).toNat)
                  case atStart => exact ⟨0, Nat.zero_le _, rfl, by simp, Below.refl _ _⟩
                  case round =>
                    obtain ⟨j, hj, rfl, rfl, hbj⟩ := hrel
                    have HBJ := Lib.hid hbj
                    obtain ⟨fm, hfm⟩ : ∃ fm, fm = (hh || (L.take j).contains (hp, lp, kd == 1)) := ⟨_, rfl⟩
                    rw [← hfm]
                    have HFM := Lib.hid hfm
                    clear hfm
                    by_cases hltj : j < L.length
                    · obtain ⟨bb, oo, hA3, hbb, k0, k1, k2⟩ := (HI9.out _ (bthen BEL.out hbj)).at_ hltj
                      subst hA3
                      have HTK := Lib.hid (show (hh || (L.take (j + 1)).contains (hp, lp, kd == 1)) = (fm || decide (L[j] = (hp, lp, kd == 1))) from by
                        rw [HFM.out, List.take_succ_eq_append_getElem hltj, List.contains_append, Bool.or_assoc]
                        congr 2
                        simp [eq_comm])
                      obtain ⟨X, hX⟩ : ∃ X, X = L[j] := ⟨_, rfl⟩
                      rw [← hX] at k0 k1 k2 HTK
                      obtain ⟨a0, a1, a2⟩ := X
                      simp only at k0 k1 k2
                      have HY2 := Lib.hid (HY.out.below hbj HY.out.lt)
                      have HZ2 := Lib.hid (HZ.out.below hbj HZ.out.lt)
                      clear hX hbj
                      go_upto_region 27 with fail
                      obtain ⟨wn, hwn⟩ : ∃ wn, wn = wr.alloc (Obj.cells #[Value.int IntKind.i64 a0, Value.int IntKind.i64 a1, Value.bool a2] 37) := ⟨_, rfl⟩
                      have bn : Below wr.heap.size wr wn := by rw [hwn]; exact below1 _ _
                      have Y : Blk wn wr.heap.size 37 #[.int .i64 a0, .int .i64 a1, .bool a2] := by rw [hwn]; exact Blk.new _ _ _
                      rw [← hwn]
                      clear hwn k0 k1 k2
                      have HBN := Lib.hid (bthen HBJ.out bn)
                      cases fm
                      · obtain ⟨ee, hee⟩ : ∃ ee, ee = decide ((a0, a1, a2) = (hp, lp, kd == 1)) := ⟨_, rfl⟩
                        rw [← hee, Bool.false_or] at HTK
                        have i0 : wn.cell? ⟨wr.heap.size, 0, none⟩ = some (.int .i64 a0) := Y.cell 0
                        have i1 : wn.cell? ⟨wr.heap.size, 1, none⟩ = some (.int .i64 a1) := Y.cell 1
                        have i2 : wn.cell? ⟨wr.heap.size, 2, none⟩ = some (.bool a2) := Y.cell 2
                        have i3 : wn.cell? ⟨wm.heap.size, 0, none⟩ = some (.int .i64 kd) := (HY2.out.below bn HY2.out.lt).cell 0
                        have i4 : wn.cell? ⟨wm.heap.size, 1, none⟩ = some (.int .i64 lp) := (HY2.out.below bn HY2.out.lt).cell 1
                        have i5 : wn.cell? ⟨wo.heap.size, 0, none⟩ = some (.int .i64 hp) := (HZ2.out.below bn HZ2.out.lt).cell 0
                        clear bn Y
                        have HEE := Lib.hid hee
                        clear hee
                        go_wp2_with fail
                        all_goals go_roundw
                        all_goals first
                          | (simp [intOf]; omega)
                          | (refine ⟨j + 1, by omega, by go_num, ?_, HBN.out⟩
                             rw [HTK.out, HEE.out]
                             clear i0 i1 i2 i3 i4 i5
                             simp_all)
                      · rw [Bool.true_or] at HTK
                        clear bn Y
                        go_wp2_with fail
                        go_roundw
                        case rel => exact ⟨j + 1, by omega, by go_num, by rw [HTK.out], HBN.out⟩
                        case measure => simp [intOf]; omega
                    · have hje : j = L.length := by omega
                      have hft : fm = true := by rw [HFM.out, hje, List.take_length]; exact HIN.out
                      subst hje
                      subst hft
                      clear hbj
                      go_wp2_with fail
                      go_roundw
                      case rel => exact ⟨m + 1, by omega, by go_num, bthen HBML.out HBJ.out⟩
                      case measure => simp [intOf]; omega
                · clear hbm
                  have hme : m = p.2[k].2.length := by omega
                  subst hme
                  go_wp2_with fail
                  go_roundw
                  case rel => exact ⟨k + 1, by omega, by go_num, bthen BEV.out HBM.out⟩
                  case measure => simp [intOf]; omega
            · go_wp2_with fail
              go_ret
              exact ⟨rfl, bthen B2.out BK.out⟩

theorem lawPlainLinks_in (v : Value) (bs : List Nat) (w : World) (h : InBytes w v bs) (hT : Tab w) : Calls Tryd.prog 6 #[v] w fun e w' => e = .returned (.bool true) ∧ Below w.heap.size w w' :=
  lawPlainLinks_any v bs w h.1 h.2.1 h.2.2 hT

end Go.Proofs.YtokmmloakahkhaaDoor
namespace Go.Proofs.YtokmmloakahkhaaDoor
open Go.ChangeShapes Go.WideShapes Go.ChangeAt Go.RowKit

set_option maxRecDepth 100000 in
theorem fnLinks_lifted (os : Os) (started : os.Started) (H : Type) (enc : TypeId × Value → H) :
    ReturnsInHanded {} Tryd.checked os 6 .any (fun w args => (Rows.fnLinksSpec.pre enc Tryd.prog Tryd.f6 [] false w args ∧ laidMetH Tryd.prog laidTabs w) ∧ sizedMet enc Tryd.prog Tryd.f6 (OpenSpec.ofChange Rows.fnLinksSpec) false w args) (Rows.fnLinksSpec.post enc Tryd.prog Tryd.f6 false true false false) := by
  refine returnsInHanded_of_change_and (C := Tryd.checked) (X := fun w _ => laidMetH Tryd.prog laidTabs w) (fun _ _ _ hh h => h.of_heap hh) Tryd.own started (by kernel_rfl) Tryd.func6
    (ChangeSpec.witness_shaped (enc := enc) (C := Tryd.checked) (os := os) (X := fun w _ => laidMetH Tryd.prog laidTabs w) false (World.laidAll Tryd.prog os laidTabs) #[.slice none 0 0] 8 (World.laidAll_os _ _ _)
      (World.shaped_of_ZipB (by kernel_rfl) (by kernel_rfl)) (by kernel_rfl) (by kernel_rfl) (by kernel_rfl)
      (by rw [MakeChecks.laidMetH_plain _ _ _ (by kernel_rfl)]; exact laidMet_laidAll _ (by kernel_rfl) (by kernel_rfl))) ?_
  intro W base args ds gs before hval0 hW _ _ hL _
  have hval : ∀ (j : Nat) t v, Tryd.f6.params[j]? = some t → args[j]? = some v → Value.okWide Tryd.prog W .any base t v := hval0
  have hW' := hW
  obtain ⟨p, q, hA0, hV, rfl, hfz, hnd⟩ := hW
  have hA : DataW.TrodAll enc Tryd.prog W 0 (fun _ => true) true Tryd.f6.params.toList args.toList ds p := hA0
  rw [Tryd.params6] at hA hval
  obtain ⟨v0, vs0, d0, ds0, p0, q0, hargs, rfl, rfl, h0, r0⟩ := trodAll_cons hA
  obtain ⟨rfl, rfl, rfl⟩ := trodAll_nil r0
  obtain rfl : args = #[v0] := by cases args; simp_all
  obtain ⟨rfl, rfl⟩ := trodVars_none hV
  have lt0 : ∀ x ∈ p0, x.block < W.heap.size := by obtain ⟨m, hm⟩ := h0; exact DataW.trod_lt m _ _ _ hm
  obtain ⟨x0, w0⟩ := open_inBytes (hval 0 22 v0 rfl rfl) h0
  clear hA0 hval0
  refine (lawPlainLinks_in v0 x0 W w0 (tab_of_laid hL)).mono fun e W' ⟨he, bel⟩ => ?_
  subst he
  exact ⟨_, rfl, _, _, _, [], _, [], hW', trodAll_mk1 (shut_bool Tryd.underlying4 _), (trodAll_cons_mk (Below.trod Tryd.laidOut (by kernel_rfl) (of_decide_eq_true (by kernel_rfl)) h0 bel lt0) trodAll_mk0), rfl, bel.frame _, fun h => by cases h⟩

theorem fnLinks_holds : Rows.FnLinksSaid :=
  OpenClaim.holds_of_wide 6 Tryd.f6 rfl rfl rfl rfl rfl rfl rfl ⟨rfl, rfl, rfl, rfl, rfl⟩ rfl rfl rfl rfl rfl (by kernel_rfl) Tryd.func6 (by kernel_rfl)
    (of_decide_eq_true (by kernel_rfl)) (by unfold Func.isWrapper; rw [if_neg (of_decide_eq_false (by kernel_rfl))]; exact ⟨rfl, rfl⟩)
    (fun os started H enc _ => fnLinks_lifted os started H enc)

theorem fnLinksCard_holds : Rows.FnLinksCardSaid :=
  Claim7.holds_tied_plain_at .later [] [.data, .data] true (true, "6f994bc4384506fd34f3e771ee476e4cc97137f52f82e071fdf92e8a01e60b8a") false fnLinks_holds (fun _ h => by cases h) (by kernel_rfl) (fun _ h => by cases h) fnLinks_row_tie rfl ⟨rfl, rfl⟩ (by kernel_rfl) rfl
    (fun f fn hf hfn => by
      obtain rfl : f = 6 := Option.some.inj ((show Tryd.prog.funcNamed "loop.example/wholerules/laws.FnLinks" = some 6 by kernel_rfl).symm.trans hf) |>.symm
      obtain rfl : fn = Tryd.f6 := (Option.some.inj (Tryd.func6.symm.trans hfn)).symm
      exact ⟨by kernel_rfl, fun j t ht => by
        rw [Tryd.params6] at ht
        have hm : t ∈ [22] := by simpa using Array.mem_of_getElem? ht
        have hall : ([22].all fun u => !Tryd.prog.wantsStandIn u) = true := by kernel_rfl
        exact (show Tryd.prog.wantsStandIn t = false by simpa using List.all_eq_true.1 hall t hm)⟩)
    (by kernel_rfl)

end Go.Proofs.YtokmmloakahkhaaDoor
