/-
  The law FnConsequences: for every input the call returns true, and each argument reads behind it as it read before. Conditions: none but the row's own.
-/
import Derived.Test.YtokmmloakahkhaaGreatDoorRows
import Derived.Test.YtokmmloakahkhaaGreatDoorCards
import Derived.Test.YtokmmloakahkhaaGreatDoorTie
import Derived.Lay
import Derived.SevenTiedAt
import Derived.Test.YtokmmloakahkhaaGreatDoorPlainConsequencesJoin
import Derived.Test.YtokmmloakahkhaaGreatDoorJFm
import Derived.Test.YtokmmloakahkhaaGreatDoorJFg
import Derived.Test.YtokmmloakahkhaaGreatDoorPlainConsequencesGoes
import Derived.Test.YtokmmloakahkhaaGreatDoorMCs1
import Derived.Test.YtokmmloakahkhaaGreatDoorMCs2
import Derived.Test.YtokmmloakahkhaaGreatDoorMCs3
import Derived.Test.YtokmmloakahkhaaGreatDoorMCs6
import Derived.Test.YtokmmloakahkhaaGreatDoorMCs8
import Derived.Test.YtokmmloakahkhaaGreatDoorMCs11
import Derived.Test.YtokmmloakahkhaaGreatDoorMCs12
/-
  The walk of the law FnConsequences.
-/
namespace Go.Proofs.YtokmmloakahkhaaGreatDoor
open Go.RowKit

theorem consL_few (p : LProg) (fs : List LFact) : (consL p fs).length ≤ 1536 ∧ tot (consL p fs) ≤ 3072 := by
  unfold consL
  cases hp : progOk p
  · exact ⟨by simp, by simp [tot]⟩
  · cases hf : factsOk p.1 fs
    · exact ⟨by simp, by simp [tot]⟩
    · obtain ⟨h1, _, h3⟩ := prog_parts hp
      exact headsAll_few fs h1 h3
theorem RdFacts.noneC {w : World} {B g : Nat} : RdFacts w B (.slice (some ⟨g, 0, none⟩) 0 0) [] := ⟨_, 0, rfl, Nat.le_refl _, fun h => absurd h (by simp)⟩

set_option maxHeartbeats 8000000 in
set_option maxRecDepth 100000 in
theorem lawPlainConsequences_any (v : Value) (code : List Nat) (w : World) (hr : RdBytes w w.heap.size v code) (_ : code.length ≤ maxLen) (hby : ∀ b ∈ code, b < 256) (hT : Tab w) :
    Calls Tryz.prog 3 #[v] w fun e w' => e = .returned (.bool true) ∧ Below w.heap.size w w' := by
  have HV := Lib.hid hr
  have HT := Lib.hid hT
  obtain ⟨Av, cv, rfl, hcv, _⟩ := hr
  clear hT
  go_enter Tryz.func3, Tryz.ntmps3
  by_cases hbig : 1048576 < code.length
  · have hd : decide ((1048576 : Int) < code.length) = true := by simp; omega
    go_wp2_with (fail)
    go_ret
    exact ⟨rfl, Below.refl _ _⟩
  have hd : decide ((1048576 : Int) < code.length) = false := by simp; omega
  have hbn : code.length ≤ 1073741824 := by omega
  go_upto_region 4 with (go_at_call 5; refine (drawConsequences_any _ code w HV.out hby hbn).mono ?_
                         rintro e w1 ⟨u, p, Af, cf, fs, rfl, hdp, hfo, hf1, hf2, B1⟩
                         obtain ⟨A, A2, c, c2, rfl, ra, rr⟩ := hdp.rd
                         have hsz := hdp.sz
                         have rf := hfo.rd
                         clear hdp hfo)
  have HSZ := Lib.hid (show szP p ≤ 1048576 by omega)
  have HSZ2 := Lib.hid hsz
  obtain ⟨w2, hw2⟩ : ∃ w2, w2 = w1.alloc (Obj.cells #[Value.slice A p.1.length c, Value.slice A2 p.2.length c2] 26) := ⟨_, rfl⟩
  have b2 : Below w1.heap.size w1 w2 := by rw [hw2]; exact below1 _ _
  have BX : Blk w2 w1.heap.size 26 #[.slice A p.1.length c, .slice A2 p.2.length c2] := by rw [hw2]; exact Blk.new _ _ _
  rw [← hw2]
  clear hw2
  obtain ⟨D, hD⟩ : ∃ D, D = w1.heap.size := ⟨_, rfl⟩
  rw [← hD] at BX ⊢
  clear hD
  have B2 := Lib.hid (bthen B1 b2)
  have HPR := Lib.hid (show ∀ W, Below w2.heap.size w2 W → RdProg W W.heap.size (.agg #[.slice A p.1.length c, .slice A2 p.2.length c2]) p from fun W hW => ⟨_, _, rfl, (ra.on b2).on hW, (rr.on b2).on hW⟩)
  have HAR := Lib.hid (show ∀ W, Below w2.heap.size w2 W → RdInts W W.heap.size (.slice A p.1.length c) p.1 from fun W hW => (ra.on b2).on hW)
  have HRR := Lib.hid (show ∀ W, Below w2.heap.size w2 W → RdRules W W.heap.size (.slice A2 p.2.length c2) p.2 from fun W hW => (rr.on b2).on hW)
  have HFS := Lib.hid (show ∀ W, Below w2.heap.size w2 W → RdFacts W W.heap.size (.slice Af fs.length cf) fs from fun W hW => (rf.on b2).on hW)
  have HBX := Lib.hid (show ∀ W, Below w2.heap.size w2 W → W.cell? ⟨D, 0, none⟩ = some (.slice A p.1.length c) ∧ W.cell? ⟨D, 1, none⟩ = some (.slice A2 p.2.length c2) from fun W hW => ⟨(BX.below hW BX.lt).cell 0, (BX.below hW BX.lt).cell 1⟩)
  have HTT := Lib.hid (show ∀ W, Below w2.heap.size w2 W → Tab W from fun W hW => HT.out.below (bthen B2.out hW))
  obtain ⟨x0, x1⟩ := HBX.out _ (Below.refl _ _)
  have hDl := BX.lt
  have hpn : p.1.length ≤ 100 := by unfold szP at hsz; omega
  have hpr : p.2.length ≤ 100 := by unfold szP at hsz; omega
  obtain ⟨L, hL⟩ : ∃ L, L = consL p fs := ⟨_, rfl⟩
  have HL := Lib.hid hL
  have HLF := Lib.hid (show L.length ≤ 1536 ∧ tot L ≤ 3072 by rw [hL]; exact consL_few p fs)
  have hll := HLF.out.1
  have CI := Lib.hid (implConsequences_any _ (.slice Af fs.length cf) p fs w2 (HPR.out _ (Below.refl _ _)) (HFS.out _ (Below.refl _ _)) HSZ.out (by omega) (by omega) (HTT.out _ (Below.refl _ _)))
  have CS := Lib.hid (fun W (hW : Below w2.heap.size w2 W) => specConsequences_any _ (.slice Af fs.length cf) p fs W (HPR.out _ hW) (HFS.out _ hW) HSZ.out (by omega) (by omega))
  rw [← hL] at CI CS
  clear hL BX b2 B1 ra rr rf hsz
  go_upto_region 5 with (go_at_call 6; refine CI.out.mono ?_; rintro e w3 ⟨A3, c3, rfl, o3, b3⟩)
  have B3 := Lib.hid b3
  have HL3 := Lib.hid o3.rd
  clear o3 b3 x0 x1
  obtain ⟨po, hpo⟩ : ∃ po, po = progOk p := ⟨_, rfl⟩
  have HPO := Lib.hid hpo
  have CPI := Lib.hid (fun W (hW : Below w2.heap.size w2 W) => implProgramOk_any (.agg #[.slice A p.1.length c, .slice A2 p.2.length c2]) p W (HPR.out _ hW) HSZ.out)
  have CPS := Lib.hid (fun W (hW : Below w2.heap.size w2 W) => specProgramOk_any (.agg #[.slice A p.1.length c, .slice A2 p.2.length c2]) p W (HPR.out _ hW) HSZ.out)
  rw [← hpo] at CPI CPS
  clear hpo
  obtain ⟨SS, hSS⟩ : ∃ SS : World → Prop, SS = (fun W => W.cell? ⟨D, 0, none⟩ = some (.slice A p.1.length c) ∧ W.cell? ⟨D, 1, none⟩ = some (.slice A2 p.2.length c2)) := ⟨_, rfl⟩
  have HB := Lib.hid (show ∀ W, SS W → W.cell? ⟨D, 0, none⟩ = some (.slice A p.1.length c) ∧ W.cell? ⟨D, 1, none⟩ = some (.slice A2 p.2.length c2) from by rw [hSS]; exact fun W hW => hW)
  have HC := Lib.hid (show ∀ W, Below w2.heap.size w2 W → SS W from by rw [hSS]; exact fun W hW => HBX.out W hW)
  clear hSS
  refine wp_region_rel SS 12 13 (by kernel_rfl) rfl ?_
  have B3d := Lib.hid (bthen B3.out (Below.refl _ w3).drew)
  have BB3 := Lib.hid (show Below w3.heap.size w3 w3.drew from (Below.refl _ w3).drew)
  obtain ⟨wy, hwy⟩ : ∃ wy, wy = w3.drew := ⟨_, rfl⟩
  rw [← hwy] at B3d BB3 ⊢
  clear hwy
  have S0 := HC.out _ B3d.out
  refine wpAnyR_pure (i := 0) (oi := _) ?va0 rfl rfl (by kernel_rfl) (by decide) (fun _ _ _ h => h) rfl ?hya0 (fun _ => S0) ?resta0
  case hya0 => (intro W; go_simp; (try with_reducible rfl))
  try simp only [List.setIfInBounds_toArray, List.set_cons_zero, List.set_cons_succ]
  refine wpAnyR_pure (i := 2) (oi := _) ?va2 rfl rfl (by kernel_rfl) (by decide) (fun _ _ _ h => h) rfl ?hya2 (fun _ => S0) ?resta2
  case hya2 => (intro W; go_simp; (try with_reducible rfl))
  try simp only [List.setIfInBounds_toArray, List.set_cons_zero, List.set_cons_succ]
  refine wpAnyR_take (i := 1) (oi := _) ?va1 rfl rfl (by kernel_rfl) (fun _ _ _ h => h) rfl ?hya1 S0 ?resta1
  case hya1 => (intro W hW; obtain ⟨d0, d1⟩ := HB.out W hW; go_simp; (try with_reducible rfl))
  try simp only [List.setIfInBounds_toArray, List.set_cons_zero, List.set_cons_succ]
  refine wpAnyR_one (i := 3) (by kernel_rfl) rfl (fun K hK => ?_)
  try rw [if_pos (show Region.wanted _ _ = true from rfl)]
  go_simp
  refine (CS.out _ B3d.out).mono ?_
  rintro e w6 ⟨A6, c6, rfl, o6, b6⟩
  have B6 := Lib.hid (bthen B3d.out b6)
  have BB6 := Lib.hid (bthen BB3.out b6)
  have HW6 := Lib.hid o6.rd
  have S1 := HC.out _ B6.out
  clear o6 b6
  refine hK.out _ _ (fun _ => S1) ?_
  clear hK K
  try simp only [List.setIfInBounds_toArray, List.set_cons_zero, List.set_cons_succ, Act.put]
  refine wpAnyR_one (i := 4) (by kernel_rfl) rfl (fun K hK => ?_)
  try rw [if_pos (show Region.wanted _ _ = true from rfl)]
  go_simp
  refine (wrFacts_yes (.slice A3 L.length c3) (.slice A6 L.length c6) L w6 (HL3.out.on BB6.out) HW6.out (by omega) (by have := HLF.out.2; omega)).mono ?_
  rintro e w7 ⟨rfl, b7⟩
  have B7 := Lib.hid (bthen B6.out b7)
  have BB7 := Lib.hid (bthen BB6.out b7)
  have S2 := HC.out _ B7.out
  clear b7
  refine hK.out _ _ (fun _ => S2) ?_
  clear hK K
  try simp only [List.setIfInBounds_toArray, List.set_cons_zero, List.set_cons_succ, Act.put]
  refine wpAnyR_pure (i := 5) (oi := _) (.bool false) rfl rfl (by kernel_rfl) (by decide) (fun _ _ _ h => h) rfl ?hyb5 (fun _ => S2) ?restb5
  case hyb5 => (intro W; go_simp; (try simp))
  try simp only [List.setIfInBounds_toArray, List.set_cons_zero, List.set_cons_succ]
  refine wpAnyR_pure (i := 6) (oi := _) (.bool false) rfl rfl (by kernel_rfl) (by decide) (fun _ _ _ h => h) rfl ?hyb6 (fun _ => S2) ?restb6
  case hyb6 => (intro W; go_simp; (try simp))
  try simp only [List.setIfInBounds_toArray, List.set_cons_zero, List.set_cons_succ]
  refine wpAnyR_take (i := 7) (oi := _) ?vb7 rfl rfl (by kernel_rfl) (fun _ _ _ h => h) rfl ?hyb7 S2 ?restb7
  case hyb7 => (intro W hW; obtain ⟨d0, d1⟩ := HB.out W hW; go_simp; (try with_reducible rfl))
  try simp only [List.setIfInBounds_toArray, List.set_cons_zero, List.set_cons_succ]
  refine wpAnyR_take (i := 9) (oi := _) ?vb9 rfl rfl (by kernel_rfl) (fun _ _ _ h => h) rfl ?hyb9 S2 ?restb9
  case hyb9 => (intro W hW; obtain ⟨d0, d1⟩ := HB.out W hW; go_simp; (try with_reducible rfl))
  try simp only [List.setIfInBounds_toArray, List.set_cons_zero, List.set_cons_succ]
  refine wpAnyR_one (i := 8) (by kernel_rfl) rfl (fun K hK => ?_)
  try rw [if_pos (show Region.wanted _ _ = true from rfl)]
  go_simp
  refine (CPI.out _ B7.out).mono ?_
  rintro e w8 ⟨rfl, b8⟩
  have B8 := Lib.hid (bthen B7.out b8)
  have BB8 := Lib.hid (bthen BB7.out b8)
  have S3 := HC.out _ B8.out
  clear b8
  refine hK.out _ _ (fun _ => S3) ?_
  clear hK K
  try simp only [List.setIfInBounds_toArray, List.set_cons_zero, List.set_cons_succ, Act.put]
  refine wpAnyR_one (i := 10) (by kernel_rfl) rfl (fun K hK => ?_)
  try rw [if_pos (show Region.wanted _ _ = true from rfl)]
  go_simp
  refine (CPS.out _ B8.out).mono ?_
  rintro e w9 ⟨rfl, b9⟩
  have B9 := Lib.hid (bthen B8.out b9)
  have BB9 := Lib.hid (bthen BB8.out b9)
  have S4 := HC.out _ B9.out
  clear b9
  refine hK.out _ _ (fun _ => S4) ?_
  clear hK K
  try simp only [List.setIfInBounds_toArray, List.set_cons_zero, List.set_cons_succ, Act.put]
  refine wpAnyR_pure (i := 11) (oi := _) (.bool false) rfl rfl (by kernel_rfl) (by decide) (fun _ _ _ h => h) rfl ?hyc11 (fun _ => S4) ?restc11
  case hyc11 => (intro W; go_simp; (try simp))
  try simp only [List.setIfInBounds_toArray, List.set_cons_zero, List.set_cons_succ]
  refine wpAnyR_one (i := 12) (by kernel_rfl) rfl (fun K hK => ?_)
  go_simp
  refine hK.out _ _ (fun hf => absurd hf (by decide)) ?_
  clear hK K
  refine wpAnyR_done (by kernel_rfl) ?_
  obtain ⟨fo, hfo⟩ : ∃ fo, fo = factsOk p.1 fs := ⟨_, rfl⟩
  have HFO := Lib.hid hfo
  have CFO := Lib.hid (fun W (hW : Below w2.heap.size w2 W) => implFactsOk_any (.slice A p.1.length c) (.slice Af fs.length cf) p.1 fs W (HAR.out _ hW) (HFS.out _ hW) (by omega) (by omega) (by omega))
  rw [← hfo] at CFO
  clear hfo
  obtain ⟨x0, x1⟩ := HBX.out _ B9.out
  have HNO := Lib.hid (show (po && fo) = false → ((L.length : Int) == 0) = true from fun h => by
    rw [HL.out]
    unfold consL
    rw [← HPO.out, ← HFO.out, h]
    rfl)
  cases po
  · have hl0 := HNO.out rfl
    go_wp2_with (go_at_call 9; refine (CPI.out _ B9.out).mono ?_; rintro e w10 ⟨rfl, b10⟩; have B10 := Lib.hid (bthen B9.out b10); clear b10)
    go_ret
    exact ⟨rfl, bthen B2.out B10.out⟩
  · cases fo
    · have hl0 := HNO.out rfl
      go_wp2_with (first
        | (go_at_call 9; refine (CPI.out _ B9.out).mono ?_; rintro e w10 ⟨rfl, b10⟩
           have B10 := Lib.hid (bthen B9.out b10)
           obtain ⟨y0, y1⟩ := HBX.out _ B10.out
           clear b10)
        | (go_at_call 11; refine (CFO.out _ B10.out).mono ?_; rintro e w11 ⟨rfl, b11⟩; have B11 := Lib.hid (bthen B10.out b11); clear b11))
      go_ret
      exact ⟨rfl, bthen B2.out B11.out⟩
    · have HEND := Lib.hid (show ∀ G, GotTo p.2 fs p.2.length 0 G → G = L from fun G h => by
        rw [h.done, HL.out]
        unfold consL
        rw [← HPO.out, ← HFO.out]
        rfl)
      go_upto_region 10 with (first
        | (go_at_call 9; refine (CPI.out _ B9.out).mono ?_; rintro e w10 ⟨rfl, b10⟩
           have B10 := Lib.hid (bthen B9.out b10)
           have BB10 := Lib.hid (bthen BB9.out b10)
           obtain ⟨y0, y1⟩ := HBX.out _ B10.out
           clear b10)
        | (go_at_call 11; refine (CFO.out _ B10.out).mono ?_; rintro e w11 ⟨rfl, b11⟩; have B11 := Lib.hid (bthen B10.out b11); have BB11 := Lib.hid (bthen BB10.out b11); clear b11))
      clear x0 x1 y0 y1
      obtain ⟨w12, hw12⟩ : ∃ w12, w12 = w11.alloc (.cells #[] 41) := ⟨_, rfl⟩
      have b12 : Below w11.heap.size w11 w12 := by rw [hw12]; exact below1 _ _
      have HG0 := Lib.hid (show RdFacts w12 w12.heap.size (.slice (some ⟨w11.heap.size, 0, none⟩) 0 0) [] from RdFacts.noneC)
      rw [← hw12]
      clear hw12
      have B12 := Lib.hid (bthen B11.out b12)
      have HL12 := Lib.hid (HL3.out.on (bthen BB11.out b12))
      clear b12
      obtain ⟨x0, x1⟩ := HBX.out _ B12.out
      go_wp2_with fail
      clear x0 x1
      go_loopw [6, 54] (fun o i wr => ∃ (k : Nat) (G : List LFact) (A' : Option Addr) (c' : Nat), k ≤ p.2.length ∧ i = .int .i64 k ∧ o = .slice A' G.length c' ∧ GotTo p.2 fs k 0 G ∧ RdFacts wr wr.heap.size (.slice A' G.length c') G ∧ Below w12.heap.size w12 wr) (fun _ i _ => p.2.length - (intOf i).toNat)
      case atStart => exact ⟨0, [], _, 0, Nat.zero_le _, rfl, rfl, GotTo.start _ _, HG0.out, Below.refl _ _⟩
      case round =>
        obtain ⟨k, G, A', c', hk, rfl, rfl, hgt, hgr, hbe⟩ := hrel
        have HGT := Lib.hid hgt
        have HGR := Lib.hid hgr
        have BK := Lib.hid (bthen B12.out hbe)
        have BE := Lib.hid hbe
        clear hgt hgr hbe
        by_cases hlt : k < p.2.length
        · obtain ⟨b, o, u0, u1, u2, hA2, hbB, k0, k1, k2, rfl, q1, q2⟩ := (HRR.out _ BK.out).get hlt
          subst hA2
          have Q1 := Lib.hid q1
          have Q2 := Lib.hid q2
          obtain ⟨A7, c7, rfl, _⟩ := q1
          obtain ⟨A8, c8, rfl, _⟩ := q2
          obtain ⟨r, hre⟩ : ∃ r, r = p.2[k] := ⟨_, rfl⟩
          rw [← hre] at k0 k1 k2 Q1 Q2
          have HRE := Lib.hid hre
          have HRS := Lib.hid (show szR r ≤ 100 by
            have h1 := HSZ2.out
            have h2 : szR r ≤ totR p.2 := by rw [hre]; exact sz_le_totR p.2 k hlt
            unfold szP at h1
            omega)
          have hrs1 : r.1.2.length ≤ 100 := by have := HRS.out; unfold szR at this; omega
          have hrs2 : r.2.length + totL r.2 ≤ 100 := by have := HRS.out; unfold szR at this; omega
          have HSOL := Lib.hid (show solsL fs r.2 = solsOf fs r.2 ∧ (∀ b ∈ solsOf fs r.2, headOk r.1 b = true) ∧ ∀ b ∈ solsOf fs r.2, b.length = 4 by rw [hre]; exact rule_sols HPO.out.symm HFO.out.symm hlt)
          obtain ⟨S, hS⟩ : ∃ S, S = solsOf fs r.2 := ⟨_, rfl⟩
          have HSS := Lib.hid hS
          have hSl : S.length ≤ 1048576 := by
            have := solsL_sz fs r.2
            rw [HSOL.out.1, ← hS] at this
            unfold szRows at this
            omega
          have CSO := Lib.hid (fun W (hW : Below w2.heap.size w2 W) (hq : RdLits W W.heap.size (.slice A8 r.2.length c8) r.2) => implSolutions_any (.slice Af fs.length cf) (.slice A8 r.2.length c8) fs r.2 S (by rw [hS]; exact HSOL.out.1.symm) W (HFS.out _ hW) hq (by omega) (by omega) (by omega))
          clear hre hS
          go_upto_region 13 with fail
          obtain ⟨wv, hwv⟩ : ∃ wv, wv = wr.alloc (Obj.cells #[Value.int .i64 r.1.1, Value.slice A7 r.1.2.length c7, Value.slice A8 r.2.length c8] 38) := ⟨_, rfl⟩
          have bv : Below wr.heap.size wr wv := by rw [hwv]; exact below1 _ _
          have X : Blk wv wr.heap.size 38 #[.int .i64 r.1.1, .slice A7 r.1.2.length c7, .slice A8 r.2.length c8] := by rw [hwv]; exact Blk.new _ _ _
          rw [← hwv]
          have hvl := X.lt
          clear hwv k0 k1 k2
          have x2 : wv.cell? ⟨wr.heap.size, 2, none⟩ = some (.slice A8 r.2.length c8) := X.cell 2
          have HX := Lib.hid X
          have BKV := Lib.hid (bthen BK.out bv)
          have BEV := Lib.hid (bthen BE.out bv)
          have HGV := Lib.hid (HGR.out.on bv)
          have Q1V := Lib.hid (Q1.out.on bv)
          have CSV := Lib.hid (CSO.out wv BKV.out (Q2.out.on bv))
          clear X bv
          go_wp2_with (go_at_call 12; refine CSV.out.mono ?_; rintro e w13 ⟨A9, c9, rfl, o9, b9⟩
                       have HS9 := Lib.hid o9.rd
                       have B13 := Lib.hid (bthen BKV.out b9)
                       have BE13 := Lib.hid (bthen BEV.out b9)
                       have HG13 := Lib.hid (HGV.out.on b9)
                       have Q13 := Lib.hid (Q1V.out.on b9)
                       have HX13 := Lib.hid (HX.out.below b9 HX.out.lt)
                       clear o9 b9)
          clear x2
          obtain ⟨wo, rfl⟩ : ∃ wo, wo = wr := ⟨_, rfl⟩
          go_loopw [6, 63] (fun o i wr => ∃ (j : Nat) (G : List LFact) (A' : Option Addr) (c' : Nat), j ≤ S.length ∧ i = .int .i64 j ∧ o = .slice A' G.length c' ∧ GotTo p.2 fs k j G ∧ RdFacts wr wr.heap.size (.slice A' G.length c') G ∧ Below w13.heap.size w13 wr) (fun _ i _ => S.length - (intOf i).toNat)
          case atStart => exact ⟨0, G, _, _, Nat.zero_le _, rfl, rfl, HGT.out, HG13.out, Below.refl _ _⟩
          case round =>
            obtain ⟨j, G2, A10, c10, hj, rfl, rfl, hgt2, hgr2, hb2⟩ := hrel
            have HGT2 := Lib.hid hgt2
            have HGR2 := Lib.hid hgr2
            have BJ := Lib.hid (bthen B13.out hb2)
            have BJE := Lib.hid hb2
            by_cases hltj : j < S.length
            · have HJS := Lib.hid (show j + 1 ≤ S.length from hltj)
              obtain ⟨b6, o6, A11, c11, hA9, hb6, m0, r6⟩ := (HS9.out.on hb2).get hltj
              subst hA9
              obtain ⟨bs, hbs⟩ : ∃ bs, bs = S[j]'hltj := ⟨_, rfl⟩
              rw [← hbs] at m0 r6
              have R6 := Lib.hid r6
              have hbl : bs.length ≤ 1048576 := by
                have h2 := HSOL.out.2.2 bs (by rw [← HSS.out, hbs]; exact List.getElem_mem hltj)
                omega
              have HSJ := Lib.hid (show ∃ hj' : j < (solsOf fs p.2[k].2).length, (solsOf fs p.2[k].2)[j] = bs from by
                have e : S = solsOf fs p.2[k].2 := by rw [HSS.out, HRE.out]
                subst e
                exact ⟨hltj, hbs.symm⟩)
              have hok : headOk r.1 bs = true := by
                refine HSOL.out.2.1 bs ?_
                rw [← HSS.out, hbs]
                exact List.getElem_mem hltj
              obtain ⟨f, hf⟩ : ∃ f, f = headOf r.1 bs := ⟨_, rfl⟩
              have HFE := Lib.hid hf
              have hfl : f.2.length ≤ 100 := by
                rw [hf, headOf_yes hok]
                simpa using hrs1
              have HGN := Lib.hid (show GotTo p.2 fs k (j + 1) (factsWith G2 f) from by
                obtain ⟨hj', e⟩ := HSJ.out
                have := hgt2.step hlt hj' (by rw [e, ← HRE.out]; exact hok)
                rw [e, ← HRE.out, ← hf] at this
                exact this)
              have HIN := Lib.hid (show factsHas L f = true from by
                rw [factsHas_in]
                refine decide_eq_true ?_
                obtain ⟨hj', e⟩ := HSJ.out
                have := got_head hlt hj' (by rw [e, ← HRE.out]; exact hok)
                rw [e, ← HRE.out, ← hf] at this
                rw [HL.out]
                unfold consL
                rw [← HPO.out, ← HFO.out]
                exact this)
              have HGF := Lib.hid (hgt2.few HPO.out.symm (by
                intro _
                obtain ⟨hj', _⟩ := HSJ.out
                omega))
              have Y := HX13.out.below hb2 HX13.out.lt
              have y0 : wr.cell? ⟨wo.heap.size, 0, none⟩ = some (.int .i64 r.1.1) := Y.cell 0
              have y1 : wr.cell? ⟨wo.heap.size, 1, none⟩ = some (.slice A7 r.1.2.length c7) := Y.cell 1
              have CH := Lib.hid (implHeadOf_any (.agg #[.int .i64 r.1.1, .slice A7 r.1.2.length c7]) (.slice A11 bs.length c11) r.1 bs wr ⟨_, rfl, Q13.out.on hb2⟩ R6.out (by omega) hbl)
              rw [hok, ← hf] at CH
              clear hbs hf hgt2 hgr2 hb2 Y r6 hok
              go_upto_region 17 with (go_at_call 13; refine CH.out.mono ?_; rintro e w14 ⟨A12, c12, rfl, o12, b12⟩)
              obtain ⟨wl, hwl⟩ : ∃ wl, wl = w14.alloc (Obj.cells #[Value.int IntKind.i64 f.1, Value.slice A12 f.2.length c12] 41) := ⟨_, rfl⟩
              have bl : Below w14.heap.size w14 wl := by rw [hwl]; exact below1 _ _
              have YF : Blk wl w14.heap.size 41 #[.int .i64 f.1, .slice A12 f.2.length c12] := by rw [hwl]; exact Blk.new _ _ _
              rw [← hwl]
              clear hwl y0 y1 m0
              have f0 : wl.cell? ⟨w14.heap.size, 0, none⟩ = some (.int .i64 f.1) := YF.cell 0
              have f1 : wl.cell? ⟨w14.heap.size, 1, none⟩ = some (.slice A12 f.2.length c12) := YF.cell 1
              have HYF := Lib.hid YF
              have BL := Lib.hid (bthen BJ.out (bthen b12 bl))
              have BLE := Lib.hid (bthen BJE.out (bthen b12 bl))
              have HFL := Lib.hid (show RdFact wl wl.heap.size (.agg #[.int .i64 f.1, .slice A12 f.2.length c12]) f from ⟨_, rfl, o12.rd.on bl⟩)
              have HGL := Lib.hid (HGR2.out.on (bthen b12 bl))
              have HLL := Lib.hid (HL12.out.on (bthen BE13.out BLE.out))
              have CFH := Lib.hid (implFactsHas_any (.slice A3 L.length c3) (.agg #[.int .i64 f.1, .slice A12 f.2.length c12]) L f wl HLL.out HFL.out (by omega) (by have := HLF.out.2; omega) (by omega))
              rw [HIN.out] at CFH
              clear YF bl o12 b12
              go_upto_region 19 with (go_at_call 14; refine CFH.out.mono ?_; rintro e w15 ⟨rfl, b15⟩)
              have HY15 := Lib.hid (HYF.out.below b15 HYF.out.lt)
              have CFW := Lib.hid (implFactsWith_any (.slice A10 G2.length c10) (.agg #[.int .i64 f.1, .slice A12 f.2.length c12]) G2 f w15 (HGL.out.on b15) (HFL.out.on b15) (by have := HGF.out.1; omega) (by have := HGF.out.2; omega) (by omega))
              have B15 := Lib.hid (bthen BLE.out b15)
              clear f0 f1 b15
              have f0 : w15.cell? ⟨w14.heap.size, 0, none⟩ = some (.int .i64 f.1) := HY15.out.cell 0
              have f1 : w15.cell? ⟨w14.heap.size, 1, none⟩ = some (.slice A12 f.2.length c12) := HY15.out.cell 1
              go_wp2_with (go_at_call 15; refine CFW.out.mono ?_; rintro e w16 ⟨A13, c13, rfl, o16, b16⟩
                           have HO16 := Lib.hid o16.rd
                           have B16 := Lib.hid (bthen B15.out b16)
                           clear o16 b16)
              go_roundw
              case rel => exact ⟨j + 1, factsWith G2 f, _, _, HJS.out, by go_num, rfl, HGN.out, HO16.out, B16.out⟩
              case measure => have := HJS.out; simp [intOf]; omega
            · have hje : j = S.length := by omega
              have HGX := Lib.hid (show GotTo p.2 fs (k + 1) 0 G2 from GotTo.next hlt (by
                have e : (solsOf fs p.2[k].2).length = j := by rw [← HRE.out, ← HSS.out, hje]
                rw [e]; exact hgt2))
              subst hje
              clear hgt2 hgr2 hb2
              go_wp2_with fail
              go_roundw
              case rel => exact ⟨k + 1, G2, _, _, by omega, by go_num, rfl, HGX.out, HGR2.out, bthen BE13.out BJE.out⟩
              case measure => simp [intOf]; omega
        · have hke : k = p.2.length := by omega
          have hGL : G = L := HEND.out G (by rw [← hke]; exact HGT.out)
          subst hGL
          have CW := Lib.hid (wrFacts_yes (.slice A' G.length c') (.slice A3 G.length c3) G wr HGR.out (HL12.out.on BE.out) (by have := HLF.out.1; omega) (by have := HLF.out.2; omega))
          go_wp2_with (go_at_call 7; refine CW.out.mono ?_; rintro e w17 ⟨rfl, b17⟩; have B17 := Lib.hid (bthen BK.out b17); clear b17)
          go_ret
          exact ⟨rfl, bthen B2.out B17.out⟩

theorem lawPlainConsequences_in (v : Value) (bs : List Nat) (w : World) (h : InBytes w v bs) (hT : Tab w) : Calls Tryz.prog 3 #[v] w fun e w' => e = .returned (.bool true) ∧ Below w.heap.size w w' :=
  lawPlainConsequences_any v bs w h.1 h.2.1 h.2.2 hT

end Go.Proofs.YtokmmloakahkhaaGreatDoor
/-
  The law FnConsequences: for every input the call returns true, and each argument reads behind it as it read before. Conditions: none but the row's own.
-/
namespace Go.Proofs.YtokmmloakahkhaaGreatDoor
open Go.ChangeShapes Go.WideShapes Go.ChangeAt Go.RowKit

set_option maxRecDepth 100000 in
theorem fnConsequences_lifted (os : Os) (started : os.Started) (H : Type) (enc : TypeId × Value → H) :
    ReturnsInHanded {} Tryz.checked os 3 .any (fun w args => (Rows.fnConsequencesSpec.pre enc Tryz.prog Tryz.f3 [] false w args ∧ laidMetH Tryz.prog laidTabs1 w) ∧ sizedMet enc Tryz.prog Tryz.f3 (OpenSpec.ofChange Rows.fnConsequencesSpec) false w args) (Rows.fnConsequencesSpec.post enc Tryz.prog Tryz.f3 false true false false) := by
  refine returnsInHanded_of_change_and (C := Tryz.checked) (X := fun w _ => laidMetH Tryz.prog laidTabs1 w) (fun _ _ _ hh h => h.of_heap hh) Tryz.own started (by kernel_rfl) Tryz.func3
    (ChangeSpec.witness_shaped (enc := enc) (C := Tryz.checked) (os := os) (X := fun w _ => laidMetH Tryz.prog laidTabs1 w) false (World.laidAll Tryz.prog os laidTabs1) #[.slice none 0 0] 8 (World.laidAll_os _ _ _)
      (World.shaped_of_ZipB (by kernel_rfl) (by kernel_rfl)) (by kernel_rfl) (by kernel_rfl) (by kernel_rfl)
      (by rw [MakeChecks.laidMetH_plain _ _ _ (by kernel_rfl)]; exact laidMet_laidAll _ (by kernel_rfl) (by kernel_rfl))) ?_
  intro W base args ds gs before hval0 hW _ _ hL _
  have hval : ∀ (j : Nat) t v, Tryz.f3.params[j]? = some t → args[j]? = some v → Value.okWide Tryz.prog W .any base t v := hval0
  have hW' := hW
  obtain ⟨p, q, hA0, hV, rfl, hfz, hnd⟩ := hW
  have hA : DataW.TrodAll enc Tryz.prog W 0 (fun _ => true) true Tryz.f3.params.toList args.toList ds p := hA0
  rw [Tryz.params3] at hA hval
  obtain ⟨v0, vs0, d0, ds0, p0, q0, hargs, rfl, rfl, h0, r0⟩ := trodAll_cons hA
  obtain ⟨rfl, rfl, rfl⟩ := trodAll_nil r0
  obtain rfl : args = #[v0] := by cases args; simp_all
  obtain ⟨rfl, rfl⟩ := trodVars_none hV
  have lt0 : ∀ x ∈ p0, x.block < W.heap.size := by obtain ⟨m, hm⟩ := h0; exact DataW.trod_lt m _ _ _ hm
  obtain ⟨x0, w0⟩ := open_inBytes (hval 0 22 v0 rfl rfl) h0
  clear hA0 hval0
  refine (lawPlainConsequences_in v0 x0 W w0 (tab_of_laid1 hL)).mono fun e W' ⟨he, bel⟩ => ?_
  subst he
  exact ⟨_, rfl, _, _, _, [], _, [], hW', trodAll_mk1 (shut_bool Tryz.underlying4 _), (trodAll_cons_mk (Below.trod Tryz.laidOut (by kernel_rfl) (of_decide_eq_true (by kernel_rfl)) h0 bel lt0) trodAll_mk0), rfl, bel.frame _, fun h => by cases h⟩

end Go.Proofs.YtokmmloakahkhaaGreatDoor
/-
  The law FnConsequences: for every input the call returns true, and each argument reads behind it as it read before. Conditions: none but the row's own.
-/
namespace Go.Proofs.YtokmmloakahkhaaGreatDoor
open Go.ChangeShapes Go.WideShapes Go.ChangeAt Go.RowKit

theorem fnConsequences_holds : Rows.FnConsequencesSaid :=
  OpenClaim.holds_of_wide 3 Tryz.f3 rfl rfl rfl rfl rfl rfl rfl ⟨rfl, rfl, rfl, rfl, rfl⟩ rfl rfl rfl rfl rfl (by kernel_rfl) Tryz.func3 fnConsequences_joined
    (of_decide_eq_true (by kernel_rfl)) (by unfold Func.isWrapper; rw [if_neg (of_decide_eq_false (by kernel_rfl))]; exact ⟨rfl, rfl⟩)
    (fun os started H enc _ => fnConsequences_lifted os started H enc)

end Go.Proofs.YtokmmloakahkhaaGreatDoor
namespace Go.Proofs.YtokmmloakahkhaaGreatDoor
open Go.ChangeShapes Go.WideShapes Go.ChangeAt Go.RowKit

theorem fnConsequencesCard_holds : Rows.FnConsequencesCardSaid :=
  Claim7.holds_tied_plain_at .later [] [.data] true (true, "af1846b8f8cba844fca0874906ab69ccebca6f99a8098cd3f4789bc959c9edbc") false fnConsequences_holds (fun _ h => by cases h) (by kernel_rfl) (fun _ h => by cases h) fnConsequences_row_tie rfl ⟨rfl, rfl⟩ jf_main rfl
    (fun f fn hf hfn => by
      obtain rfl : f = 3 := Option.some.inj ((show Tryz.prog.funcNamed "loop.example/wholerules/laws.FnConsequences" = some 3 by kernel_rfl).symm.trans hf) |>.symm
      obtain rfl : fn = Tryz.f3 := (Option.some.inj (Tryz.func3.symm.trans hfn)).symm
      exact ⟨jf_looks, fun j t ht => by
        rw [Tryz.params3] at ht
        have hm : t ∈ [22] := by simpa using Array.mem_of_getElem? ht
        have hall : ([22].all fun u => !Tryz.prog.wantsStandIn u) = true := by kernel_rfl
        exact (show Tryz.prog.wantsStandIn t = false by simpa using List.all_eq_true.1 hall t hm)⟩)
    fnConsequences_goes

end Go.Proofs.YtokmmloakahkhaaGreatDoor
