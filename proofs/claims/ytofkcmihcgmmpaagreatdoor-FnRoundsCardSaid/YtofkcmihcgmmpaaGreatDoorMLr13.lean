/-
  Texts that the claim's last one imports, laid together: part 13 of 16. No condition of its own.
-/
import Derived.Test.YtofkcmihcgmmpaaGreatDoorMLr10
import Derived.Test.YtofkcmihcgmmpaaGreatDoorMLr12
namespace Go.Proofs.YtofkcmihcgmmpaaGreatDoor
set_option maxRecDepth 100000
open Go.RowKit
theorem zaI.snoc {ar : List Int} {L : List zd} {f : zd} (h : zaI ar L) (hf : zE ar f = true) (hn : f ∉ L) : zaI ar (L ++ [f]) :=
 ⟨(zas.step h.nodup hn).2.1, fun g hg => by
   rcases List.mem_append.1 hg with hg | hg
   ·exact h.fits g hg
   ·rw [List.mem_singleton.1 hg]; exact hf⟩
theorem zas.fit {ar : List Int} {L L' : List zd} {X : zd -> Prop} (h : zas L X L') (hL : zaI ar L) (hX : ∀ f, X f -> zE ar f = true) : zaI ar L' :=
 ⟨h.2.1, fun f hf => ((h.2.2 f).1 hf).elim (hL.fits f) (hX f)⟩
theorem zas.cast {L L' : List zd} {X Y : zd -> Prop} (h : zas L X L') (e : ∀ f, X f <-> Y f) : zas L Y L' := ⟨h.1, h.2.1, fun f => by rw [h.2.2, e]⟩
theorem zaR.few {ar : List Int} {w : World} {g o e : Nat} {X : List FV} {E : List Nat} {R : Nat -> Value} (_h : zaR w g X E o e R) (ha : zr ar = true) (hf : zaI ar (zj X)) : X.length <= 1536 := by
 have := (zdH ha hf.nodup hf.fits).1
 rw [zae] at this
 exact this
theorem zbH.below {w : World} {g : Nat} {X : List FV} {E : List Nat} {o e : Nat} {R : Nat -> Value} {v : Value} {f : zd} (h : zaR w g X E o e R) (hr : zv w g v f.2) : zbH w g R (f, v) := by
 refine ⟨hr.more (Nat.le_of_lt h.lt), fun h0 b hb => ?_⟩
 obtain ⟨A, c, rfl, _, h1⟩ := hr
 obtain ⟨b2, o2, rfl, hb2, _⟩ := h1 h0
 have e2 : b2 = b := by simpa [Value.ownBlock] using hb
 subst e2
 exact ⟨by omega, fun ⟨r, hr, e⟩ => by have := h.raw.rowLt hr e; omega⟩
set_option maxHeartbeats 4000000 in
theorem znJ (g : Nat) (ar : List Int) (har : zr ar = true) (X : List FV) (E : List Nat) (o e : Nat) (R : Nat -> Value) (v : Value) (fs : List zd) (w : World) (h : zaR w g X E o e R) (hX : zaI ar (zj X)) (hr : zu w g v fs) (hf : ∀ f ∈ fs, zE ar f = true) (hn : fs.length <= 1048576) :
 Calls Tryz.prog 63 #[.pointer (some ⟨g, 0, none⟩), v] w fun e' w' =>
  e' = .returned (.tuple #[]) /\ ∃ X' R', zaR w' g X' E o e R' /\ z8 g w R w' R' /\ zas (zj X) (fun f => f ∈ fs) (zj X') := by
 have H := Lib.hid hr
 have HG := Lib.hid h
 have HF := Lib.hid hf
 have HX := Lib.hid hX
 have HAR := Lib.hid har
 have hgw := h.lt
 obtain ⟨A, c, rfl, hc, _⟩ := hr
 clear h hf hX har
 go_enter Tryz.func63, Tryz.ntmps63
 go_wp2_with fail
 go_loopw [8] (fun i wr => ∃ (k : Nat) (X' : List FV) (R' : Nat -> Value), k <= fs.length /\ i = .int .i64 k /\ zaR wr g X' E o e R' /\ z8 g w R wr R' /\ zas (zj X) (fun f => f ∈ fs.take k) (zj X')) (fun i _ => fs.length - (intOf i).toNat)
 case atStart => exact ⟨0, X, R, Nat.zero_le _, rfl, HG.out, z8.refl _ _ _, zas.refl HX.out.nodup fun f hf => by simp at hf⟩
 case round =>
  obtain ⟨k, X', R', hk, rfl, hat, hkp, hbr⟩ := hrel
  by_cases hlt : k < fs.length
  ·have hsz := hkp.below.size
   obtain ⟨b, o3, A3, c3, rfl, hbB, k1, k2, k3⟩ := (H.out.below hkp.below (Nat.le_refl _)).get hlt
   have HCF := Lib.hid (HF.out _ (List.getElem_mem hlt))
   have HTK := Lib.hid (zH fs k hlt)
   obtain ⟨f, hfe⟩ : ∃ f, f = fs[k] := ⟨_, rfl⟩
   rw [<- hfe] at HCF k1 k2 k3 HTK
   have h24 := zo8 HAR.out HCF.out
   obtain ⟨p, hpe⟩ : ∃ p : Nat, f.1 = (p : Int) := ⟨f.1.toNat, by have := h24.1; omega⟩
   obtain ⟨xs, hxs⟩ : ∃ xs, xs = f.2 := ⟨_, rfl⟩
   obtain rfl : f = ((p : Int), xs) := by rw [hxs, <- hpe]
   have hp24 : p < 24 := by have := h24.2.1; simp at this; omega
   obtain ⟨n, hne⟩ : ∃ n, n = numF xs := ⟨_, rfl⟩
   have hn64 : n < 64 := by rw [hne]; exact h24.2.2.2
   have HNE := Lib.hid hne
   have HXL := Lib.hid (show xs.all zt = true /\ xs.length <= 2 from ⟨(zav HCF.out).2, h24.2.2.1⟩)
   have HAT := Lib.hid hat
   have HKP := Lib.hid hkp
   have HBR := Lib.hid hbr
   have HFX := Lib.hid (hbr.fit HX.out fun f hf => HF.out f (List.mem_of_mem_take hf))
   have hfew := hat.few HAR.out HFX.out
   have hglr := hat.lt
   simp only at k1 k2 k3
   clear hfe hpe hne hxs h24 hat hkp hbr
   go_upto_region 3 with fail
   obtain ⟨wv, hwv⟩ : ∃ wv, wv = wr.alloc (Obj.cells #[Value.int IntKind.i64 (p : Int), Value.slice A3 xs.length c3] 39) := ⟨_, rfl⟩
   have bv : Below wr.heap.size wr wv := by rw [hwv]; exact ze _ _
   have hgv : g < wv.heap.size := Nat.lt_of_lt_of_le hglr bv.size
   have z7 : Blk wv wr.heap.size 39 #[.int .i64 p, .slice A3 xs.length c3] := by rw [hwv]; exact Blk.new _ _ _
   have hvl : wr.heap.size < wv.heap.size := by rw [hwv]; simp
   obtain ⟨bx, hbx⟩ : ∃ bx, bx = wr.heap.size := ⟨_, rfl⟩
   rw [<- hwv]
   rw [<- hbx] at z7 hvl ⊢
   clear hwv k1 k2
   have RF := Lib.hid (show zv wv g (.slice A3 xs.length c3) xs from k3.below bv (by omega))
   have HGV := Lib.hid (show zaR wv.drew g X' E o e R' from (HAT.out.on bv).drew)
   have HKV := Lib.hid (show z8 g w R wv.drew R' from (HKP.out.trans (z8.of_below bv (Nat.le_of_lt hglr))).drew)
   have hZ := Lib.hid z7
   have q0 : wv.cell? ⟨bx, 0, none⟩ = some (.int .i64 p) := z7.cell 0
   have q1 : wv.cell? ⟨bx, 1, none⟩ = some (.slice A3 xs.length c3) := z7.cell 1
   have HBX := Lib.hid (show g < bx /\ ¬ RB R' bx from ⟨by omega, fun ⟨r, hr, e⟩ => by have := HAT.out.raw.rowLt hr e; omega⟩)
   clear k3 z7 hbx
   obtain ⟨SS, hSS⟩ : ∃ SS : World -> Prop, SS = (fun W => Below wv.heap.size wv W /\ W.cell? ⟨bx, 0, none⟩ = some (.int .i64 p) /\ W.cell? ⟨bx, 1, none⟩ = some (.slice A3 xs.length c3)) := ⟨_, rfl⟩
   have HB := Lib.hid (show ∀ W, SS W -> (Below wv.heap.size wv W /\ W.cell? ⟨bx, 0, none⟩ = some (.int .i64 p) /\ W.cell? ⟨bx, 1, none⟩ = some (.slice A3 xs.length c3)) from by rw [hSS]; exact fun W hW => hW)
   have HS := Lib.hid (show ∀ W, Below wv.heap.size wv W -> SS W from by
    rw [hSS]
    exact fun W hW => ⟨hW, (hW.cell (World.block_lt_of_cell? _ _ q0)).trans q0, (hW.cell (World.block_lt_of_cell? _ _ q1)).trans q1⟩)
   clear hSS
   have BB : Below wv.heap.size wv wv.drew := (Below.refl _ _).drew
   have SB := HS.out _ BB
   refine zB SS 8 9 (by kernel_rfl) rfl ?_
   refine za (i := 0) (oi := _) ?va0 rfl rfl (by kernel_rfl) (by decide) (fun _ _ _ h => h) rfl ?hya0 (fun _ => SB) ?resta0
   case hya0 => (intro W; go_simp; (try with_reducible rfl))
   try simp only [zs.a, zs.b, zs.c]
   refine za (i := 1) (oi := _) ?va1 rfl rfl (by kernel_rfl) (by decide) (fun _ _ _ h => h) rfl ?hya1 (fun _ => SB) ?resta1
   case hya1 => (intro W; go_simp; (try with_reducible rfl))
   try simp only [zs.a, zs.b, zs.c]
   refine za (i := 2) (oi := _) ?va2 rfl rfl (by kernel_rfl) (by decide) (fun _ _ _ h => h) rfl ?hya2 (fun _ => SB) ?resta2
   case hya2 => (intro W; go_simp; (try with_reducible rfl))
   try simp only [zs.a, zs.b, zs.c]
   refine za (i := 3) (oi := _) ?va3 rfl rfl (by kernel_rfl) (by decide) (fun _ _ _ h => h) rfl ?hya3 (fun _ => SB) ?resta3
   case hya3 => (intro W; go_simp; (try with_reducible rfl))
   try simp only [zs.a, zs.b, zs.c]
   refine zm (i := 4) (oi := _) ?va4 rfl rfl (by kernel_rfl) (fun _ _ _ h => h) rfl ?hya4 SB ?resta4
   case hya4 => (intro W hW; obtain ⟨_, E0, E1⟩ := HB.out W hW; go_simp; (try with_reducible rfl))
   try simp only [zs.a, zs.b, zs.c]
   refine za (i := 5) (oi := _) ?va5 rfl rfl (by kernel_rfl) (by decide) (fun _ _ _ h => h) rfl ?hya5 (fun _ => SB) ?resta5
   case hya5 => (intro W; go_simp; (try with_reducible rfl))
   try simp only [zs.a, zs.b, zs.c]
   refine zm (i := 6) (oi := _) ?va6 rfl rfl (by kernel_rfl) (fun _ _ _ h => h) rfl ?hya6 SB ?resta6
   case hya6 => (intro W hW; obtain ⟨_, E0, E1⟩ := HB.out W hW; go_simp; (try with_reducible rfl))
   try simp only [zs.a, zs.b, zs.c]
   refine zh (i := 7) (by kernel_rfl) rfl (fun K hK => ?_)
   try rw [if_pos (show Region.wanted _ _ = true from rfl)]
   go_simp
   refine (zdp (.slice A3 xs.length c3) xs g _ (RF.out.below BB (by omega)) HXL.out.1 HXL.out.2).mono ?_
   rw [<- HNE.out]
   rintro e5 W5 ⟨rfl, rfl⟩
   refine hK.out _ _ (fun _ => SB) ?_
   clear hK K
   try simp only [zs.a, zs.b, zs.c, Act.put]
   refine zh (i := 8) (by kernel_rfl) rfl (fun K hK => ?_)
   try rw [if_pos (show Region.wanted _ _ = true from rfl)]
   go_simp
   refine (zlL g p n _ _ _ _ _ _ _ _ HGV.out.raw hp24 hn64).mono ?_
   rintro e6 W6 ⟨rfl, ht6, ho6⟩
   have H6 := Lib.hid (And.intro ht6 ho6)
   clear ht6 ho6
   refine hK.out _ _ (fun hf => absurd hf (by decide)) ?_
   clear hK K
   try simp only [zs.a, zs.b, zs.c, Act.put]
   refine zL (by kernel_rfl) ?_
   clear SB HB HS BB
   have X6 := Lib.hid (show Blk W6 bx 39 #[.int .i64 p, .slice A3 xs.length c3] from (H6.out.2.keep bx hvl (by have := HBX.out.1; omega) HBX.out.2).trans hZ.out)
   have hbit := zlI HAR.out HFX.out.fits HCF.out
   simp only [Int.toNat_natCast] at hbit
   rw [<- HNE.out] at hbit
   clear q0 q1
   cases hb : ((zK zaa (zj X')).getD p 0).testBit n
   ·have hnot : ((p : Int), xs) ∉ zj X' := fun hc => by rw [hbit.2 hc] at hb; cases hb
    have HNOT := Lib.hid hnot
    have q0 : W6.cell? ⟨bx, 0, none⟩ = some (.int .i64 p) := X6.out.cell 0
    have q1 : W6.cell? ⟨bx, 1, none⟩ = some (.slice A3 xs.length c3) := X6.out.cell 1
    have hap : zbH wv.drew g R' (((p : Int), xs), .slice A3 xs.length c3) := zbH.below HGV.out (RF.out.below (show Below wv.heap.size wv wv.drew from (Below.refl _ _).drew) (Nat.le_of_lt hgv))
    have CT := Lib.hid (zkP g p xs A3 c3 _ _ _ _ _ _ _ W6 H6.out.1 hp24 (hap.keep H6.out.2) (by omega) (by have := zn7 X' p; omega))
    clear hnot hbit hb hap
    go_wp2_with (go_at_call 100; refine CT.out.mono ?_; rintro e7 W7 ⟨rfl, R7, h7, k7⟩; have H7 := Lib.hid (And.intro h7 k7); clear h7 k7)
    go_roundw
    case rel =>
     refine ⟨k + 1, X' ++ [(((p : Int), xs), .slice A3 xs.length c3)], R7, by omega, by go_num, ⟨?_, HAT.out.oe, by have := HAT.out.eL; simp; omega⟩, HKV.out.trans (H6.out.2.trans H7.out.2), ?_⟩
     ·have h7 := H7.out.1
      rw [zk3, <- zfO X' (((p : Int), xs), .slice A3 xs.length c3) (Nat.le_trans HAT.out.oe HAT.out.eL), <- zfO X' (((p : Int), xs), .slice A3 xs.length c3) HAT.out.eL] at h7
      rw [zcn, show zj [((((p : Int), xs), Value.slice A3 xs.length c3) : FV)] = [((p : Int), xs)] from rfl, zeL, Int.toNat_natCast, <- HNE.out]
      exact h7
     ·rw [zcn, HTK.out]
      refine HBR.out.trans (zas.step HFX.out.nodup HNOT.out) fun f => ?_
      simp
    case measure => simp [intOf]; omega
   ·have hin : ((p : Int), xs) ∈ zj X' := hbit.1 hb
    have HIN := Lib.hid hin
    have HBT := Lib.hid hb
    clear hin hbit hb
    go_wp2_with fail
    go_roundw
    case rel =>
     refine ⟨k + 1, X', R', by omega, by go_num, ⟨?_, HAT.out.oe, HAT.out.eL⟩, HKV.out.trans H6.out.2, ?_⟩
     ·have h6 := H6.out.1
      rw [zhF (by rw [HAT.out.raw.tl]; exact hp24) HBT.out] at h6
      exact h6
     ·rw [HTK.out]
      refine HBR.out.trans (zas.refl HFX.out.nodup (X := fun f => f = ((p : Int), xs)) fun f hf => by rw [hf]; exact HIN.out) fun f => ?_
      simp
    case measure => simp [intOf]; omega
  ·have HFIN := Lib.hid (show zaR wr g X' E o e R' /\ z8 g w R wr R' /\ zas (zj X) (fun f => f ∈ fs) (zj X') from by
    rw [show k = fs.length by omega, List.take_length] at hbr
    exact ⟨hat, hkp, hbr⟩)
   clear hat hkp hbr
   go_wp2_with fail
   go_end0
   exact ⟨rfl, _, _, HFIN.out.1, HFIN.out.2.1, HFIN.out.2.2⟩
open Go.RowKit
theorem zn2 {w w' : World} {B B' : Nat} {v : Value} {S : List (List Int)} (h : RdW w B v S) (hB : B <= B') (hk : 0 < S.length -> ∀ b, v.ownBlock = some b -> w'.heap[b]? = w.heap[b]?) : RdW w' B' v S := by
 obtain ⟨A, c, rfl, hc, h⟩ := h
 refine ⟨A, c, rfl, hc, fun h0 => ?_⟩
 obtain ⟨b, o, rfl, hb, hx⟩ := h h0
 refine ⟨b, o, rfl, by omega, fun k hk' => ?_⟩
 rw [World.cell?_of_block (hk h0 b rfl)]
 exact hx k hk'
def zh3 (w : World) (g : Nat) (R : Nat -> Value) (v : Value) (S : List (List Int)) : Prop := RdW w w.heap.size v S /\ (0 < S.length -> ∀ b, v.ownBlock = some b -> b ≠ g /\ ¬ RB R b)
theorem zh3.keep {w w' : World} {g : Nat} {R R' : Nat -> Value} {v : Value} {S : List (List Int)} (h : zh3 w g R v S) (k : z8 g w R w' R') : zh3 w' g R' v S := by
 have hs := k.below.size
 have hlt : 0 < S.length -> ∀ b, v.ownBlock = some b -> b < w.heap.size := fun h0 b hb => by
  obtain ⟨A, c, e, _, h1⟩ := h.1
  obtain ⟨b2, o, rfl, hb2, _⟩ := h1 h0
  rw [e] at hb
  have : b2 = b := by simpa [Value.ownBlock] using hb
  omega
 refine ⟨zn2 h.1 hs fun h0 b hb => k.keep b (hlt h0 b hb) (h.2 h0 b hb).1 (h.2 h0 b hb).2, fun h0 b hb => ⟨(h.2 h0 b hb).1, fun e => ?_⟩⟩
 rcases k.rows b e with e2 | e2
 ·exact (h.2 h0 b hb).2 e2
 ·have := hlt h0 b hb
  omega
theorem zbH.new {w w' : World} {g : Nat} {XL : List FV} {E : List Nat} {XP : Nat -> List FV} {O La : Nat -> Nat} {T : List Nat} {R : Nat -> Value} {v : Value} {f : zd} (h : zP w g XL E XP O La T R) (hr : zg w' w.heap.size w'.heap.size v f.2) : zbH w' g R (f, v) := by
 refine ⟨hr.rd, fun _ b hb => ?_⟩
 have h1 := hr.lt hb
 have h2 := h.lt
 exact ⟨by omega, fun ⟨r, hr, e⟩ => by have := h.rowLt hr e; omega⟩
set_option maxHeartbeats 4000000 in
theorem zfD (g : Nat) (ar : List Int) (har : zr ar = true) (X : List FV) (E : List Nat) (o e : Nat) (R : Nat -> Value) (p : Nat) (aa : List Int) (v2 v : Value) (S : List (List Int)) (w : World) (h : zaR w g X E o e R) (hX : zaI ar (zj X))
 (hr : zv w g v2 aa) (ht : aa.all zz = true) (hal : aa.length <= 2) (hS : zh3 w g R v S) (hb : ∀ b ∈ S, zp b = true) (hf : ∀ b ∈ S, zE ar ((p : Int), aa.map (zn b)) = true) (hn : S.length <= 1048576) :
 Calls Tryz.prog 101 #[.pointer (some ⟨g, 0, none⟩), .agg #[.int .i64 p, v2], v] w fun e' w' =>
  e' = .returned (.tuple #[]) /\ ∃ X' R', zaR w' g X' E o e R' /\ z8 g w R w' R' /\ zas (zj X) (fun f => ∃ b ∈ S, f = ((p : Int), aa.map (zn b))) (zj X') := by
 have HG := Lib.hid h
 have HF := Lib.hid hf
 have HX := Lib.hid hX
 have HAR := Lib.hid har
 have HS0 := Lib.hid hS
 have HT := Lib.hid ht
 have HBO := Lib.hid hb
 have H2 := Lib.hid hr
 have hgw := h.lt
 obtain ⟨A2, c2, rfl, hc2, _⟩ := hr
 obtain ⟨A, c, rfl, hc, _⟩ := hS.1
 clear h hf hX har hS ht hb
 go_enter Tryz.func101, Tryz.ntmps101
 go_wp2_with fail
 obtain ⟨bx, hbx⟩ : ∃ bx, bx = w.heap.size := ⟨_, rfl⟩
 obtain ⟨w1, hw1⟩ : ∃ w1, w1 = w.alloc (Obj.cells #[Value.int IntKind.i64 (p : Int), Value.slice A2 aa.length c2] 63) := ⟨_, rfl⟩
 have B1 := Lib.hid (show Below w.heap.size w w1 by rw [hw1]; exact ze _ _)
 have X1 := Lib.hid (show Blk w1 bx 63 #[.int .i64 p, .slice A2 aa.length c2] by rw [hw1, hbx]; exact Blk.new _ _ _)
 have HBX := Lib.hid (show g < bx /\ ¬ RB R bx from ⟨by omega, fun ⟨r, hr, e⟩ => by have := HG.out.raw.rowLt hr e; omega⟩)
 rw [<- hw1]
 rw [<- hbx]
 have HK1 := Lib.hid (show z8 g w R w1 R from z8.of_below B1.out (Nat.le_of_lt hgw))
 have HG1 := Lib.hid (show zaR w1 g X E o e R from HG.out.on B1.out)
 clear hw1 hbx
 go_loopw [10] (fun i wr => ∃ (k : Nat) (X' : List FV) (R' : Nat -> Value), k <= S.length /\ i = .int .i64 k /\ zaR wr g X' E o e R' /\ z8 g w1 R wr R' /\ zas (zj X) (fun f => ∃ b ∈ S.take k, f = ((p : Int), aa.map (zn b))) (zj X')) (fun i _ => S.length - (intOf i).toNat)
 case atStart => exact ⟨0, X, R, Nat.zero_le _, rfl, HG1.out, z8.refl _ _ _, zas.refl HX.out.nodup fun f hf => by simp at hf⟩
 case round =>
  obtain ⟨k, X', R', hk, rfl, hat, hkp, hbr⟩ := hrel
  by_cases hlt : k < S.length
  ·have hkw : z8 g w R wr R' := HK1.out.trans hkp
   have hsz := hkw.below.size
   have hglr := hat.lt
   have XR := Lib.hid (show Blk wr bx 63 #[.int .i64 p, .slice A2 aa.length c2] /\ bx < wr.heap.size /\ ¬ RB R' bx from by
    have hl := X1.out.lt
    have hs2 := hkp.below.size
    refine ⟨(hkp.keep bx hl (by have := HBX.out.1; omega) HBX.out.2).trans X1.out, by omega, fun e => ?_⟩
    rcases hkp.rows bx e with e2 | e2
    ·exact HBX.out.2 e2
    ·omega)
   have hsr := (HS0.out.keep hkw).1
   obtain ⟨A7, c7, e7, hlc, hx⟩ := hsr
   injection e7 with e7 e9 e8
   clear e9
   subst e7 e8
   obtain ⟨b7, o7, rfl, _, hx⟩ := hx (by omega)
   obtain ⟨bs, hbs⟩ : ∃ bs, bs = S[k] := ⟨_, rfl⟩
   obtain ⟨m7, hm7⟩ : ∃ m7, m7 = encB bs := ⟨_, rfl⟩
   have hck : wr.cell? ⟨b7, o7 + k, none⟩ = some (.int .u32 ((m7 : Nat) : Int)) := by rw [hm7, hbs]; exact hx k hlt
   have HCF := Lib.hid (show zE ar ((p : Int), aa.map (zn bs)) = true by rw [hbs]; exact HF.out _ (List.getElem_mem hlt))
   have HBK := Lib.hid (show zp bs = true by rw [hbs]; exact HBO.out _ (List.getElem_mem hlt))
   have HTK := Lib.hid (show S.take (k + 1) = S.take k ++ [bs] by rw [hbs]; exact zH S k hlt)
   obtain ⟨xs, hxs⟩ : ∃ xs, xs = aa.map (zn bs) := ⟨_, rfl⟩
   rw [<- hxs] at HCF
   have HXS := Lib.hid hxs
   have hxl : xs.length = aa.length := by rw [hxs]; simp
   have HXLN := Lib.hid hxl
   have h24 := zo8 HAR.out HCF.out
   have hp24 : p < 24 := by have := h24.2.1; simp at this; omega
   obtain ⟨n, hne⟩ : ∃ n, n = numF xs := ⟨_, rfl⟩
   have hn64 : n < 64 := by rw [hne]; exact h24.2.2.2
   have HNE := Lib.hid hne
   have HM7 := Lib.hid hm7
   have HXL := Lib.hid (show xs.all zt = true from (zav HCF.out).2)
   have HAT := Lib.hid hat
   have HKP := Lib.hid hkw
   have HKP1 := Lib.hid hkp
   have HBR := Lib.hid hbr
   have HFX := Lib.hid (hbr.fit HX.out fun f ⟨b, hb, e⟩ => by rw [e]; exact HF.out b (List.mem_of_mem_take hb))
   have hfew := hat.few HAR.out HFX.out
   clear hbs hne hxs h24 hat hkp hkw hbr hx hm7 hxl hlc
   go_upto_region 4 with fail
   have RF := Lib.hid (show zv wr g (.slice A2 aa.length c2) aa from H2.out.below HKP.out.below (Nat.le_refl _))
   have HGV := Lib.hid (show zaR wr.drew g X' E o e R' from HAT.out.drew)
   have HKV := Lib.hid (show z8 g w1 R wr.drew R' from HKP1.out.drew)
   have q0 : wr.cell? ⟨bx, 0, none⟩ = some (.int .i64 p) := XR.out.1.cell 0
   have q1 : wr.cell? ⟨bx, 1, none⟩ = some (.slice A2 aa.length c2) := XR.out.1.cell 1
   obtain ⟨SS, hSS⟩ : ∃ SS : World -> Prop, SS = (fun W => Below wr.heap.size wr W /\ W.cell? ⟨bx, 0, none⟩ = some (.int .i64 p) /\ W.cell? ⟨bx, 1, none⟩ = some (.slice A2 aa.length c2)) := ⟨_, rfl⟩
   have HB := Lib.hid (show ∀ W, SS W -> (Below wr.heap.size wr W /\ W.cell? ⟨bx, 0, none⟩ = some (.int .i64 p) /\ W.cell? ⟨bx, 1, none⟩ = some (.slice A2 aa.length c2)) from by rw [hSS]; exact fun W hW => hW)
   have HS := Lib.hid (show ∀ W, Below wr.heap.size wr W -> SS W from by
    rw [hSS]
    exact fun W hW => ⟨hW, (hW.cell (World.block_lt_of_cell? _ _ q0)).trans q0, (hW.cell (World.block_lt_of_cell? _ _ q1)).trans q1⟩)
   clear hSS
   have BB : Below wr.heap.size wr wr.drew := (Below.refl _ _).drew
   have SB := HS.out _ BB
   refine zB SS 9 10 (by kernel_rfl) rfl ?_
   refine za (i := 0) (oi := _) ?va0 rfl rfl (by kernel_rfl) (by decide) (fun _ _ _ h => h) rfl ?hya0 (fun _ => SB) ?resta0
   case hya0 => (intro W; go_simp; (try with_reducible rfl))
   try simp only [zs.a, zs.b, zs.c]
   refine za (i := 1) (oi := _) ?va1 rfl rfl (by kernel_rfl) (by decide) (fun _ _ _ h => h) rfl ?hya1 (fun _ => SB) ?resta1
   case hya1 => (intro W; go_simp; (try with_reducible rfl))
   try simp only [zs.a, zs.b, zs.c]
   refine za (i := 2) (oi := _) ?va2 rfl rfl (by kernel_rfl) (by decide) (fun _ _ _ h => h) rfl ?hya2 (fun _ => SB) ?resta2
   case hya2 => (intro W; go_simp; (try with_reducible rfl))
   try simp only [zs.a, zs.b, zs.c]
   refine za (i := 3) (oi := _) ?va3 rfl rfl (by kernel_rfl) (by decide) (fun _ _ _ h => h) rfl ?hya3 (fun _ => SB) ?resta3
   case hya3 => (intro W; go_simp; (try with_reducible rfl))
   try simp only [zs.a, zs.b, zs.c]
   refine zm (i := 4) (oi := _) ?va4 rfl rfl (by kernel_rfl) (fun _ _ _ h => h) rfl ?hya4 SB ?resta4
   case hya4 => (intro W hW; obtain ⟨_, E0, E1⟩ := HB.out W hW; go_simp; (try with_reducible rfl))
   try simp only [zs.a, zs.b, zs.c]
   refine za (i := 5) (oi := _) ?va5 rfl rfl (by kernel_rfl) (by decide) (fun _ _ _ h => h) rfl ?hya5 (fun _ => SB) ?resta5
   case hya5 => (intro W; go_simp; (try with_reducible rfl))
   try simp only [zs.a, zs.b, zs.c]
   refine za (i := 6) (oi := _) ?va6 rfl rfl (by kernel_rfl) (by decide) (fun _ _ _ h => h) rfl ?hya6 (fun _ => SB) ?resta6
   case hya6 => (intro W; go_simp; (try with_reducible rfl))
   try simp only [zs.a, zs.b, zs.c]
   refine zm (i := 7) (oi := _) ?va7 rfl rfl (by kernel_rfl) (fun _ _ _ h => h) rfl ?hya7 SB ?resta7
   case hya7 => (intro W hW; obtain ⟨_, E0, E1⟩ := HB.out W hW; go_simp; (try with_reducible rfl))
   try simp only [zs.a, zs.b, zs.c]
   refine zh (i := 8) (by kernel_rfl) rfl (fun K hK => ?_)
   try rw [if_pos (show Region.wanted _ _ = true from rfl)]
   go_simp
   have CN := ziD (.slice A2 aa.length c2) bs aa HBK.out HT.out g wr.drew (RF.out.below BB (Nat.le_of_lt hglr)) (by rw [<- HXS.out]; exact HXL.out) hal
   rw [<- HM7.out, <- HXS.out, <- HNE.out] at CN
   refine CN.mono ?_
   clear CN
   rintro e5 W5 ⟨rfl, rfl⟩
   refine hK.out _ _ (fun _ => SB) ?_
   clear hK K
   try simp only [zs.a, zs.b, zs.c, Act.put]
   refine zh (i := 9) (by kernel_rfl) rfl (fun K hK => ?_)
   try rw [if_pos (show Region.wanted _ _ = true from rfl)]
   go_simp
   refine (zlL g p n _ _ _ _ _ _ _ _ HGV.out.raw hp24 hn64).mono ?_
   rintro e6 W6 ⟨rfl, ht6, ho6⟩
   have H6 := Lib.hid (And.intro ht6 ho6)
   clear ht6 ho6
   refine hK.out _ _ (fun hf => absurd hf (by decide)) ?_
   clear hK K
   try simp only [zs.a, zs.b, zs.c, Act.put]
   refine zL (by kernel_rfl) ?_
   clear SB HB HS BB
   have X6 := Lib.hid (show Blk W6 bx 63 #[.int .i64 p, .slice A2 aa.length c2] /\ bx < W6.heap.size from ⟨(H6.out.2.keep bx XR.out.2.1 (by have := HBX.out.1; omega) XR.out.2.2).trans XR.out.1, Nat.lt_of_lt_of_le XR.out.2.1 H6.out.2.below.size⟩)
   have hbit := zlI HAR.out HFX.out.fits HCF.out
   simp only [Int.toNat_natCast] at hbit
   rw [<- HNE.out] at hbit
   clear q0 q1 hck
   cases hb : ((zK zaa (zj X')).getD p 0).testBit n
   ·have hnot : ((p : Int), xs) ∉ zj X' := fun hc => by rw [hbit.2 hc] at hb; cases hb
    have HNOT := Lib.hid hnot
    have HG6 := Lib.hid (show zP W6 g X' E (ofX X') (cntX X' o) (cntX X' e) (za9 (zK zaa (zj X')) p n) R' from H6.out.1)
    have hg6 : g < W6.heap.size := HG6.out.lt
    have RF6 := Lib.hid (show zv W6 g (.slice A2 aa.length c2) aa from (RF.out.below (show Below wr.heap.size wr wr.drew from (Below.refl _ _).drew) (Nat.le_of_lt hglr)).below H6.out.2.below (Nat.le_refl _))
    have q0 : W6.cell? ⟨bx, 0, none⟩ = some (.int .i64 p) := X6.out.1.cell 0
    have q1 : W6.cell? ⟨bx, 1, none⟩ = some (.slice A2 aa.length c2) := X6.out.1.cell 1
    clear hnot hbit hb
    go_upto_region 5 with fail
    obtain ⟨SS, hSS⟩ : ∃ SS : World -> Prop, SS = (fun W => Below W6.heap.size W6 W /\ W.cell? ⟨bx, 0, none⟩ = some (.int .i64 p) /\ W.cell? ⟨bx, 1, none⟩ = some (.slice A2 aa.length c2)) := ⟨_, rfl⟩
    have HB := Lib.hid (show ∀ W, SS W -> (Below W6.heap.size W6 W /\ W.cell? ⟨bx, 0, none⟩ = some (.int .i64 p) /\ W.cell? ⟨bx, 1, none⟩ = some (.slice A2 aa.length c2)) from by rw [hSS]; exact fun W hW => hW)
    have HS := Lib.hid (show ∀ W, Below W6.heap.size W6 W -> SS W from by
     rw [hSS]
     exact fun W hW => ⟨hW, (hW.cell (World.block_lt_of_cell? _ _ q0)).trans q0, (hW.cell (World.block_lt_of_cell? _ _ q1)).trans q1⟩)
    clear hSS
    have BB : Below W6.heap.size W6 W6.drew := (Below.refl _ _).drew
    have SB := HS.out _ BB
    refine zB SS 8 9 (by kernel_rfl) rfl ?_
    refine za (i := 0) (oi := _) ?vb0 rfl rfl (by kernel_rfl) (by decide) (fun _ _ _ h => h) rfl ?hyb0 (fun _ => SB) ?restb0
    case hyb0 => (intro W; go_simp; (try with_reducible rfl))
    try simp only [zs.a, zs.b, zs.c]
    refine za (i := 1) (oi := _) ?vb1 rfl rfl (by kernel_rfl) (by decide) (fun _ _ _ h => h) rfl ?hyb1 (fun _ => SB) ?restb1
    case hyb1 => (intro W; go_simp; (try with_reducible rfl))
    try simp only [zs.a, zs.b, zs.c]
    refine zm (i := 2) (oi := _) ?vb2 rfl rfl (by kernel_rfl) (fun _ _ _ h => h) rfl ?hyb2 SB ?restb2
    case hyb2 => (intro W hW; obtain ⟨_, E0, E1⟩ := HB.out W hW; go_simp; (try with_reducible rfl))
    try simp only [zs.a, zs.b, zs.c]
    refine za (i := 3) (oi := _) ?vb3 rfl rfl (by kernel_rfl) (by decide) (fun _ _ _ h => h) rfl ?hyb3 (fun _ => SB) ?restb3
    case hyb3 => (intro W; go_simp; (try with_reducible rfl))
    try simp only [zs.a, zs.b, zs.c]
    refine za (i := 4) (oi := _) ?vb4 rfl rfl (by kernel_rfl) (by decide) (fun _ _ _ h => h) rfl ?hyb4 (fun _ => SB) ?restb4
    case hyb4 => (intro W; go_simp; (try with_reducible rfl))
    try simp only [zs.a, zs.b, zs.c]
    refine zm (i := 5) (oi := _) ?vb5 rfl rfl (by kernel_rfl) (fun _ _ _ h => h) rfl ?hyb5 SB ?restb5
    case hyb5 => (intro W hW; obtain ⟨_, E0, E1⟩ := HB.out W hW; go_simp; (try with_reducible rfl))
    try simp only [zs.a, zs.b, zs.c]
    refine zh (i := 6) (by kernel_rfl) rfl (fun K hK => ?_)
    try rw [if_pos (show Region.wanted _ _ = true from rfl)]
    go_simp
    have CV := zlQ (.slice A2 aa.length c2) bs aa HBK.out HT.out W6.drew ((RF6.out.below BB (Nat.le_of_lt hg6)).more (Nat.le_of_lt hg6)) (by omega)
    rw [<- HM7.out, <- HXS.out] at CV
    refine CV.mono ?_
    clear CV
    rintro e8 W8 ⟨A8, c8, rfl, o8, b8⟩
    have H8 := Lib.hid (And.intro o8 b8)
    clear o8 b8
    have SB8 := HS.out W8 (zf BB H8.out.2)
    refine hK.out _ _ (fun _ => SB8) ?_
    clear hK K
    try simp only [zs.a, zs.b, zs.c, Act.put]
    refine za (i := 7) (oi := _) ?vb7 rfl rfl (by kernel_rfl) (by decide) (fun _ _ _ h => h) rfl ?hyb7 (fun _ => SB8) ?restb7
    case hyb7 => (intro W; go_simp; (try with_reducible rfl))
    try simp only [zs.a, zs.b, zs.c]
    refine zh (i := 8) (by kernel_rfl) rfl (fun K hK => ?_)
    try rw [if_pos (show Region.wanted _ _ = true from rfl)]
    go_simp
    have CT := zkP g p xs A8 c8 _ _ _ _ _ _ _ W8 (HG6.out.on (zf BB H8.out.2)) hp24 (zbH.new HG6.out.drew (by rw [HXLN.out]; exact H8.out.1)) (by omega) (by have := zn7 X' p; omega)
    rw [HXLN.out] at CT
    refine CT.mono ?_
    clear CT
    rintro e9 W9 ⟨rfl, R9, h9, k9⟩
    have H9 := Lib.hid (And.intro h9 ((z8.of_below (zf BB H8.out.2) (Nat.le_of_lt hg6)).trans k9))
    clear h9 k9
    refine hK.out _ _ (fun hf => absurd hf (by decide)) ?_
    clear hK K
    try simp only [zs.a, zs.b, zs.c, Act.put]
    refine zL (by kernel_rfl) ?_
    clear SB SB8 HB HS BB q0 q1
    go_wp2_with fail
    go_roundw
    case rel =>
     refine ⟨k + 1, X' ++ [(((p : Int), xs), .slice A8 aa.length c8)], R9, by omega, by go_num, ⟨?_, HAT.out.oe, by have := HAT.out.eL; simp; omega⟩, HKV.out.trans (H6.out.2.trans H9.out.2), ?_⟩
     ·have h7 := H9.out.1
      rw [zk3, <- zfO X' (((p : Int), xs), .slice A8 aa.length c8) (Nat.le_trans HAT.out.oe HAT.out.eL), <- zfO X' (((p : Int), xs), .slice A8 aa.length c8) HAT.out.eL] at h7
      rw [zcn, show zj [((((p : Int), xs), Value.slice A8 aa.length c8) : FV)] = [((p : Int), xs)] from rfl, zeL, Int.toNat_natCast, <- HNE.out]
      exact h7
     ·rw [zcn, HTK.out]
      refine HBR.out.trans (zas.step HFX.out.nodup HNOT.out) fun f => ?_
      rw [HXS.out]
      simp
    case measure => simp [intOf]; omega
   ·have hin : ((p : Int), xs) ∈ zj X' := hbit.1 hb
    have HIN := Lib.hid hin
    have HBT := Lib.hid hb
    clear hin hbit hb
    go_wp2_with fail
    go_roundw
    case rel =>
     refine ⟨k + 1, X', R', by omega, by go_num, ⟨?_, HAT.out.oe, HAT.out.eL⟩, HKV.out.trans H6.out.2, ?_⟩
     ·have h6 := H6.out.1
      rw [zhF (by rw [HAT.out.raw.tl]; exact hp24) HBT.out] at h6
      exact h6
     ·rw [HTK.out]
      refine HBR.out.trans (zas.refl HFX.out.nodup (X := fun f => f = ((p : Int), xs)) fun f hf => by rw [hf]; exact HIN.out) fun f => ?_
      rw [HXS.out]
      simp
    case measure => simp [intOf]; omega
  ·have HFIN := Lib.hid (show zaR wr g X' E o e R' /\ z8 g w1 R wr R' /\ zas (zj X) (fun f => ∃ b ∈ S, f = ((p : Int), aa.map (zn b))) (zj X') from by
    rw [show k = S.length by omega, List.take_length] at hbr
    exact ⟨hat, hkp, hbr⟩)
   clear hat hkp hbr
   go_wp2_with fail
   go_end0
   exact ⟨rfl, _, _, HFIN.out.1, HK1.out.trans HFIN.out.2.1, HFIN.out.2.2⟩
open Go.RowKit
abbrev AV := Value × Value × Value
def zdo : List AV -> List Value
 | [] => []
 | u :: us => u.1 :: u.2.1 :: u.2.2 :: zdo us
theorem zgU : ∀ us : List AV, (zdo us).length = us.length * 3
 | [] => rfl
 | u :: us => by simp only [zdo, List.length_cons, zgU us]; omega
theorem zgV : ∀ us vs : List AV, zdo (us ++ vs) = zdo us ++ zdo vs
 | [], vs => rfl
 | u :: us, vs => by simp only [List.cons_append, zdo, zgV us vs]
theorem zlt : ∀ (us : List AV) (k : Nat) (h : k < us.length), (zdo us)[k * 3]? = some us[k].1 /\ (zdo us)[k * 3 + 1]? = some us[k].2.1 /\ (zdo us)[k * 3 + 2]? = some us[k].2.2
 | u :: us, 0, _ => ⟨rfl, rfl, rfl⟩
 | u :: us, k + 1, h => by
  have ih := zlt us k (by simpa using h)
  have e : ∀ r, (zdo (u :: us))[(k + 1) * 3 + r]? = (zdo us)[k * 3 + r]? := fun r => by
   rw [show (k + 1) * 3 + r = (k * 3 + r) + 1 + 1 + 1 by omega]
   rfl
  have e0 := e 0
  rw [Nat.add_zero, Nat.add_zero] at e0
  rw [e0, e 1, e 2]
  exact ih
def AtA (w : World) (g c : Nat) (us : List AV) : Prop :=
 ∃ cur, w.heap[g]? = some (.cells cur 145 (0, 0)) /\ us.length <= c /\ c <= maxLen /\ cur.size = c * 3 /\ cur.toList.take (us.length * 3) = zdo us
def zb8 (w : World) (B : Nat) (us : List AV) (ag : List zcU) : Prop := us.length = ag.length /\ ∀ k (h : k < us.length) (h2 : k < ag.length), zu w B us[k].1 ag[k].1 /\ zu w B us[k].2.1 ag[k].2.1 /\ zu w B us[k].2.2 ag[k].2.2
section
variable {w w' : World} {g c lo hi B : Nat} {us : List AV} {ag : List zcU}
theorem AtA.lt (h : AtA w g c us) : g < w.heap.size := by
 obtain ⟨cur, hg, _⟩ := h
 exact Blk.lt hg
theorem AtA.cells (h : AtA w g c us) {k : Nat} (hk : k < us.length) : w.cell? ⟨g, k * 3, none⟩ = some us[k].1 /\ w.cell? ⟨g, k * 3 + 1, none⟩ = some us[k].2.1 /\ w.cell? ⟨g, k * 3 + 2, none⟩ = some us[k].2.2 := by
 obtain ⟨a, b, d⟩ := zlt us k hk
 obtain ⟨cur, hg, h1, h2, h3, h4⟩ := h
 have key : ∀ j, j < us.length * 3 -> w.cell? ⟨g, j, none⟩ = (zdo us)[j]? := fun j hj => by
  rw [Blk.cell hg, <- h4, List.getElem?_take_of_lt hj, Array.getElem?_toList]
 exact ⟨by rw [key _ (by omega), a], by rw [key _ (by omega), b], by rw [key _ (by omega), d]⟩
theorem AtA.frozen (h : AtA w g c us) (j : Nat) : w.frozen? ⟨g, j, none⟩ = false := by
 obtain ⟨cur, hg, _⟩ := h
 exact Blk.frozen hg j
theorem AtA.below (h : AtA w g c us) (hb : Below B w w') (hg : g < B) : AtA w' g c us := by
 obtain ⟨cur, e, r⟩ := h
 exact ⟨cur, (hb.block g hg).trans e, r⟩
theorem AtA.free (h : AtA w g c us) {j : Nat} (hj : j < c * 3) : ∃ x, w.cell? ⟨g, j, none⟩ = some x := by
 obtain ⟨cur, hg, h1, h2, h3, h4⟩ := h
 exact ⟨cur[j]'(by omega), by rw [Blk.cell hg, Array.getElem?_eq_getElem]⟩
theorem AtA.made (w : World) (cs : Array Value) (n : Nat) (hs : cs.size = n * 3) (hm : n <= maxLen) : AtA (w.alloc (.cells cs 145)) w.heap.size n [] :=
 ⟨cs, Blk.new _ _ _, Nat.zero_le _, hm, hs, by simp [zdo]⟩
theorem AtA.push (h : AtA w g c us) (hl : us.length < c) (u : AV) :
 AtA (w.setCells g (us.length * 3) [u.1, u.2.1, u.2.2]) g c (us ++ [u]) /\ zl g (g + 1) w (w.setCells g (us.length * 3) [u.1, u.2.1, u.2.2]) := by
 obtain ⟨cur, hg, h1, h2, h3, h4⟩ := h
 have hfl := zgU us
 obtain ⟨cur', g1, g2, g3, g4⟩ := zcG g [u.1, u.2.1, u.2.2] (us.length * 3) w cur _ hg (by simp; omega)
 refine ⟨⟨cur', g1, by simp; omega, h2, by omega, ?_⟩, g4⟩
 rw [zgV]
 apply List.ext_getElem?
 intro j
 rw [List.length_append, List.length_singleton]
 by_cases hj : j < (us.length + 1) * 3
 ·rw [List.getElem?_take_of_lt hj, Array.getElem?_toList, g3 j]
  by_cases hj2 : j < us.length * 3
  ·rw [if_neg (by simp; omega), List.getElem?_append_left (by omega), <- h4, List.getElem?_take_of_lt hj2, Array.getElem?_toList]
  ·rw [if_pos (by simp; omega), List.getElem?_append_right (by omega), hfl]
   rfl
 ·rw [List.getElem?_eq_none (by simp; omega), List.getElem?_eq_none (by simp [zdo, hfl]; omega)]
theorem zb8.below {B' : Nat} (h : zb8 w B us ag) (hb : Below B' w w') (hB : B <= B') : zb8 w' B us ag := ⟨h.1, fun k h1 h2 => by
 obtain ⟨a, b, d⟩ := h.2 k h1 h2
 exact ⟨a.below hb hB, b.below hb hB, d.below hb hB⟩⟩
theorem zb8.more {B' : Nat} (h : zb8 w B us ag) (hB : B <= B') : zb8 w B' us ag := ⟨h.1, fun k h1 h2 => by
 obtain ⟨a, b, d⟩ := h.2 k h1 h2
 exact ⟨a.more hB, b.more hB, d.more hB⟩⟩
theorem zb8.snoc {u : AV} {a : zcU} (h : zb8 w B us ag) (h1 : zu w B u.1 a.1) (h2 : zu w B u.2.1 a.2.1) (h3 : zu w B u.2.2 a.2.2) : zb8 w B (us ++ [u]) (ag ++ [a]) := by
 refine ⟨by simp [h.1], fun k k1 k2 => ?_⟩
 by_cases e : k < us.length
 ·have e' : k < ag.length := by rw [<- h.1]; exact e
  rw [List.getElem_append_left e, List.getElem_append_left e']
  exact h.2 k e e'
 ·have e2 : k = us.length := by simp at k1; omega
  subst e2
  have l1 := h.1
  have x1 : (us ++ [u])[us.length]'k1 = u := by simp
  have x2 : (ag ++ [a])[us.length]'k2 = a := by simp [l1]
  rw [x1, x2]
  exact ⟨h1, h2, h3⟩
end
theorem Tryz.infoAges : (Tryz.prog.info? 145).map (fun i => (i.zero, i.size, i.bytes)) = some (some (.agg #[.slice none 0 0, .slice none 0 0, .slice none 0 0]), 3, 72) := by kernel_rfl
theorem zmP {w : World} {g : Nat} {R : Nat -> Value} {X : List FV} {A : Option Addr} {c : Nat} (h : w.ownsRow (g + 1) 39 2 (.slice A X.length c) X.length (zcN X)) (ha : ∀ x ∈ X, zbH w g R x) {a b : Nat} (hab : a <= b) (hb : b <= X.length) :
 zu w w.heap.size (.slice (if c = a then A else A.map (·.add (a * 2))) (b - a) (c - a)) (((zj X).take b).drop a) := by
 have hl : (((zj X).take b).drop a).length = b - a := by simp [zj]; omega
 have hcells := @World.ownsRow.cells w (g + 1) 39 2 _ X.length (zcN X) h
 have hXc : X.length <= c := by
  rcases h.2 with ⟨e, e0⟩ | ⟨b', cap, cur, e, _, _, h2, _⟩
  ·injection e with _ e2 e3; omega
  ·injection e with _ e2 e3; omega
 refine ⟨_, c - a, by rw [hl], by rw [hl]; omega, fun h0 => ?_⟩
 rw [hl] at h0
 rcases h.2 with ⟨e, e0⟩ | ⟨b', cap, cur, e, hb', hg, _⟩
 ·omega
 ·injection e with e1 _ _
  subst e1
  rw [if_neg (by omega)]
  refine ⟨b', 0 + a * 2, by simp [Addr.add]; (try omega), Blk.lt hg, fun k hk => ?_⟩
  have hkX : a + k < X.length := by rw [hl] at hk; omega
  obtain ⟨c0, c1⟩ := ziW X (a + k) hkX
  have d0 := hcells (g := b') rfl ((a + k) * 2) _ c0
  have d1 := hcells (g := b') rfl ((a + k) * 2 + 1) _ c1
  rw [Go.WideShapes.add_plain] at d0 d1
  have e3 : (((zj X).take b).drop a)[k] = X[a + k].1 := by simp [zj]
  rw [e3]
  refine ⟨X[a + k].2, ?_, ?_, (ha _ (List.getElem_mem hkX)).1⟩
  ·rw [show 0 + a * 2 + k * 2 = 0 + (a + k) * 2 by omega]; exact d0
  ·rw [show 0 + a * 2 + k * 2 + 1 = 0 + ((a + k) * 2 + 1) by omega]; exact d1
open Go.RowKit
theorem zii (X : List FV) (n p : Nat) : cntX X n p <= (ofX X p).length := by
 unfold cntX
 rw [zmR]
 exact zk4 _ _ _
theorem zhq (X : List FV) {a b : Nat} (h : a <= b) (p : Nat) : cntX X a p <= cntX X b p := by
 unfold cntX
 rw [zgo h, zeO, List.length_append]
 omega
theorem ziC (X : List FV) (n p : Nat) : (zj (ofX X p)).take (cntX X n p) = ofP ((zj X).take n) p := by
 rw [zjH]
 exact (zn8 _ _ _).symm
theorem zaR.ages {w : World} {g o e p c : Nat} {X : List FV} {E : List Nat} {R : Nat -> Value} {A : Option Addr} (h : zaR w g X E o e R) (hp : p < 24) (hv : R (2 + p) = .slice A (ofX X p).length c) :
 zu w w.heap.size (.slice A (cntX X e p) c) (zcZ (zj X) o e p).1 /\ zu w w.heap.size (.slice A (cntX X o p) c) (zcZ (zj X) o e p).2.1 /\
 zu w w.heap.size (.slice (if c = cntX X o p then A else A.map (·.add (cntX X o p * 2))) (cntX X e p - cntX X o p) (c - cntX X o p)) (zcZ (zj X) o e p).2.2 := by
 have hr := h.raw.pred p hp
 have ha := h.raw.argsP p hp
 have hc : (ofX X p).length <= c := by
  rcases hr.2 with ⟨e1, e0⟩ | ⟨b', cap, cur, e1, _, _, h2, _⟩
  ·rw [hv] at e1; injection e1 with _ e2 e3; omega
  ·rw [hv] at e1; injection e1 with _ e2 e3; omega
 have he := zii X e p
 have ho := zii X o p
 have hoe := zhq X h.oe p
 refine ⟨?_, ?_, ?_⟩
 ·have h1 := rdX hr ha he hv (c' := c) (by omega)
  rw [ziC] at h1
  exact h1
 ·have h1 := rdX hr ha ho hv (c' := c) (by omega)
  rw [ziC] at h1
  exact h1
 ·rw [hv] at hr
  have h1 := zmP hr ha hoe he
  rw [ziC] at h1
  exact h1
set_option maxHeartbeats 4000000 in
theorem znI (g : Nat) (X : List FV) (E : List Nat) (o e : Nat) (R : Nat -> Value) (v2 : Value) (ls : List zC) (w : World) (h : zaR w g X E o e R) (h2 : za6 w w.heap.size v2 ls) (hp : ∀ l ∈ ls, 0 <= l.2.1 /\ l.2.1 < 24) (hn : ls.length <= 1048576) (hX : X.length <= 1048576) :
 Calls Tryz.prog 103 #[.pointer (some ⟨g, 0, none⟩), v2] w fun e' w' =>
  ∃ g2 us, e' = .returned (.slice (some ⟨g2, 0, none⟩) ls.length ls.length) /\ w.heap.size <= g2 /\ AtA w' g2 ls.length us /\ zb8 w' w.heap.size us (zaw (zj X) o e ls) /\ Below w.heap.size w w' := by
 obtain ⟨i0, hi0, hz0, hz1, hz2⟩ := info_parts Tryz.infoAges
 have hmk := fun W => zby (P := Tryz.prog) 124 145 i0 (.agg #[.slice none 0 0, .slice none 0 0, .slice none 0 0]) Tryz.underlying124 hi0 hz0 .i64 .i64 ls.length ls.length (Nat.le_refl _) (by rw [hz2]; omega) (by omega) W
 rw [hz1] at hmk
 simp only [Value.cells] at hmk
 have HG := Lib.hid h
 have H2 := Lib.hid h2
 have HP := Lib.hid hp
 have hgl := h.lt
 obtain ⟨A2, c2, rfl, hc2, _⟩ := h2
 obtain ⟨cs, hcs⟩ : ∃ cs, cs = madeCells #[Value.slice none 0 0, Value.slice none 0 0, Value.slice none 0 0] (ls.length * 3) := ⟨_, rfl⟩
 have HM := Lib.hid (AtA.made w cs ls.length (by rw [hcs]; simp [madeCells]) (by unfold maxLen; omega))
 rw [<- hcs] at hmk
 clear hcs h hp
 go_enter Tryz.func103, Tryz.ntmps103
 go_wp2_with fail
 obtain ⟨w1, hw1⟩ : ∃ w1, w1 = w.alloc (Obj.cells cs 145) := ⟨_, rfl⟩
 have B1 : Below w.heap.size w w1 := by rw [hw1]; exact ze _ _
 rw [<- hw1] at HM ⊢
 have HB1 := Lib.hid B1
 have hs1 : w.heap.size < w1.heap.size := by rw [hw1]; simp
 obtain ⟨ga, hga⟩ : ∃ ga, ga = w.heap.size := ⟨_, rfl⟩
 rw [<- hga] at HM
 have HGA := Lib.hid hga
 rw [show (w.heap.size : Nat) = ga from hga.symm]
 clear hw1 hmk B1 hga
 go_loopw [14] (fun i wr => ∃ (k : Nat) (us : List AV), k <= ls.length /\ i = .int .i64 k /\ us.length = k /\ AtA wr ga ls.length us /\ zb8 wr w.heap.size us (zaw (zj X) o e (ls.take k)) /\ zl ga (ga + 1) w1 wr) (fun i _ => ls.length - (intOf i).toNat)
 case atStart => exact ⟨0, [], Nat.zero_le _, rfl, rfl, HM.out, ⟨by simp [zaw], fun k h1 => absurd h1 (by simp)⟩, zl.refl _ _ _⟩
 case round =>
  obtain ⟨k, us, hk, rfl, hul, hat, hrd, hon⟩ := hrel
  by_cases hlt : k < ls.length
  ·have hbe : Below w.heap.size w wr := zl.then_ HB1.out hon (by have := HGA.out; omega)
   obtain ⟨b, o3, u0, u1, u2, rfl, hbB, k0, k1, k2, rfl, rfl, p3⟩ := (H2.out.below hbe (Nat.le_refl _)).get hlt
   obtain ⟨A4, c4, rfl, hc4, _⟩ := p3
   have hsz := hon.size
   obtain ⟨l, hle⟩ : ∃ l, l = ls[k] := ⟨_, rfl⟩
   have hpl : 0 <= l.2.1 /\ l.2.1 < 24 := by rw [hle]; exact HP.out _ (List.getElem_mem hlt)
   obtain ⟨p, hpe⟩ : ∃ p : Nat, l.2.1 = (p : Int) := ⟨l.2.1.toNat, by omega⟩
   have hp24 : p < 24 := by omega
   have hpi : (p : Int) < 24 := by omega
   rw [<- hle] at k0 k1 k2
   rw [hpe] at k1
   have HTK := Lib.hid (show zcZ (zj X) o e p = zcZ (zj X) o e l.2.1 /\ ls.take (k + 1) = ls.take k ++ [l] by rw [hpe, hle]; exact ⟨rfl, zH ls k hlt⟩)
   clear hle hpe hpl
   go_upto_region 5 with fail
   obtain ⟨w2, hw2⟩ : ∃ w2, w2 = wr.alloc (Obj.cells #[Value.int IntKind.i64 l.1, Value.int IntKind.i64 (p : Int), Value.slice A4 l.2.2.length c4] 68) := ⟨_, rfl⟩
   have b2 : Below wr.heap.size wr w2 := by rw [hw2]; exact ze _ _
   have y2 : Blk w2 wr.heap.size 68 #[.int .i64 l.1, .int .i64 (p : Int), .slice A4 l.2.2.length c4] := by rw [hw2]; exact Blk.new _ _ _
   rw [<- hw2]
   clear hw2 k0 k1 k2
   have q1 : w2.cell? ⟨wr.heap.size, 1, none⟩ = some (.int .i64 (p : Int)) := y2.cell 1
   have d1 : w2.drew.cell? ⟨wr.heap.size, 1, none⟩ = some (.int .i64 (p : Int)) := y2.cell 1
   have HW2 := Lib.hid (show Below w.heap.size w w2 from zf hbe b2)
   have HA2 := Lib.hid (show AtA w2 ga ls.length us from hat.below b2 hat.lt)
   have HO2 := Lib.hid (show zl ga (ga + 1) w1 w2 from hon.trans (zl.of_below b2))
   have HRD := Lib.hid (show zb8 w2 w.heap.size us (zaw (zj X) o e (ls.take k)) from hrd.below b2 (by have := hbe.size; omega))
   have hgs : ga < w2.heap.size := HA2.out.lt
   clear hat hrd hon hbe b2 y2
   go_big_region
   go_upto_region 6 with fail
   obtain ⟨A3, c3, hv3⟩ := (HG.out.raw.formP hp24)
   obtain ⟨ce, hce⟩ : ∃ ce, ce = cntX X e p := ⟨_, rfl⟩
   obtain ⟨co, hco⟩ : ∃ co, co = cntX X o p := ⟨_, rfl⟩
   have HV := Lib.hid hv3
   have HCN := Lib.hid (And.intro hce hco)
   refine zB (fun W => W.cell? ⟨g, 26 + p * 3, none⟩ = some (.slice A3 (ofX X p).length c3) /\ W.cell? ⟨g, 26 + p * 3 + 1, none⟩ = some (.int .i64 (co : Int)) /\ W.cell? ⟨g, 26 + p * 3 + 2, none⟩ = some (.int .i64 (ce : Int))) 35 36 (by kernel_rfl) rfl ?_
   obtain ⟨wz, hwz⟩ : ∃ wz, wz = w2.drew.drew := ⟨_, rfl⟩
   have HWZ := Lib.hid (show Below w2.heap.size w2 wz by rw [hwz]; exact (Below.refl _ _).drew.drew)
   rw [<- hwz]
   clear hwz
   obtain ⟨SS, hSS⟩ : ∃ SS : World -> Prop, SS = (fun W => W.cell? ⟨g, 26 + p * 3, none⟩ = some (.slice A3 (ofX X p).length c3) /\ W.cell? ⟨g, 26 + p * 3 + 1, none⟩ = some (.int .i64 (co : Int)) /\ W.cell? ⟨g, 26 + p * 3 + 2, none⟩ = some (.int .i64 (ce : Int))) := ⟨_, rfl⟩
   rw [<- hSS]
   have HB := Lib.hid (show ∀ W, SS W -> (W.cell? ⟨g, 26 + p * 3, none⟩ = some (.slice A3 (ofX X p).length c3) /\ W.cell? ⟨g, 26 + p * 3 + 1, none⟩ = some (.int .i64 (co : Int)) /\ W.cell? ⟨g, 26 + p * 3 + 2, none⟩ = some (.int .i64 (ce : Int))) from by rw [hSS]; exact fun W hW => hW)
   have HGZ := Lib.hid (show zaR wz g X E o e R from HG.out.on (zf HW2.out HWZ.out))
   have SB : SS wz := by
    rw [hSS, <- hv3, hce, hco]
    exact ⟨HGZ.out.raw.cellPred hp24, HGZ.out.raw.cellOld hp24, HGZ.out.raw.cellLat hp24⟩
   have AGE := Lib.hid (HG.out.ages hp24 hv3)
   rw [<- hce, <- hco] at AGE
   have hlim : (co : Int) <= (ce : Int) /\ (ce : Int) <= (c3 : Int) := by
    have h1 := zhq X HG.out.oe p
    have h2 := zii X e p
    have h3 : (ofX X p).length <= c3 := by
     rcases (HG.out.raw.pred p hp24).2 with ⟨e1, e0⟩ | ⟨b', cap, cur, e1, _, _, h2, _⟩
     ·rw [hv3] at e1; injection e1 with _ e2 e3; omega
     ·rw [hv3] at e1; injection e1 with _ e2 e3; omega
    omega
   obtain ⟨hl1, hl2⟩ := hlim
   have hl3 : (co : Int) <= (c3 : Int) := by omega
   clear hSS hv3 hce hco
   refine za (i := 0) (oi := _) ?vb0 rfl rfl (by kernel_rfl) (by decide) (fun _ _ _ h => h) rfl ?hyb0 (fun _ => SB) ?restb0
   case hyb0 => (intro W; go_simp; (try with_reducible rfl))
   try simp only [zs.a, zs.b, zs.c]
   refine za (i := 1) (oi := _) ?vb1 rfl rfl (by kernel_rfl) (by decide) (fun _ _ _ h => h) rfl ?hyb1 (fun _ => SB) ?restb1
   case hyb1 => (intro W; go_simp; (try with_reducible rfl))
   try simp only [zs.a, zs.b, zs.c]
   refine za (i := 2) (oi := _) ?vb2 rfl rfl (by kernel_rfl) (by decide) (fun _ _ _ h => h) rfl ?hyb2 (fun _ => SB) ?restb2
   case hyb2 => (intro W; go_simp; (try with_reducible rfl))
   try simp only [zs.a, zs.b, zs.c]
   refine za (i := 3) (oi := _) ?vb3 rfl rfl (by kernel_rfl) (by decide) (fun _ _ _ h => h) rfl ?hyb3 (fun _ => SB) ?restb3
   case hyb3 => (intro W; go_simp; (try with_reducible rfl))
   try simp only [zs.a, zs.b, zs.c]
   refine za (i := 4) (oi := _) ?vb4 rfl rfl (by kernel_rfl) (by decide) (fun _ _ _ h => h) rfl ?hyb4 (fun _ => SB) ?restb4
   case hyb4 => (intro W; go_simp; (try with_reducible rfl))
   try simp only [zs.a, zs.b, zs.c]
   refine zm (i := 5) (oi := _) ?vb5 rfl rfl (by kernel_rfl) (fun _ _ _ h => h) rfl ?hyb5 SB ?restb5
   case hyb5 => (intro W hW; obtain ⟨E0, E1, E2⟩ := HB.out W hW; go_simp; (try with_reducible rfl))
   try simp only [zs.a, zs.b, zs.c]
   refine za (i := 6) (oi := _) ?vb6 rfl rfl (by kernel_rfl) (by decide) (fun _ _ _ h => h) rfl ?hyb6 (fun _ => SB) ?restb6
   case hyb6 => (intro W; go_simp; (try with_reducible rfl))
   try simp only [zs.a, zs.b, zs.c]
   refine za (i := 7) (oi := _) ?vb7 rfl rfl (by kernel_rfl) (by decide) (fun _ _ _ h => h) rfl ?hyb7 (fun _ => SB) ?restb7
   case hyb7 => (intro W; go_simp; (try with_reducible rfl))
   try simp only [zs.a, zs.b, zs.c]
   refine za (i := 8) (oi := _) ?vb8 rfl rfl (by kernel_rfl) (by decide) (fun _ _ _ h => h) rfl ?hyb8 (fun _ => SB) ?restb8
   case hyb8 => (intro W; go_simp; (try with_reducible rfl))
   try simp only [zs.a, zs.b, zs.c]
   refine zm (i := 9) (oi := _) ?vb9 rfl rfl (by kernel_rfl) (fun _ _ _ h => h) rfl ?hyb9 SB ?restb9
   case hyb9 => (intro W hW; obtain ⟨E0, E1, E2⟩ := HB.out W hW; go_simp; (try with_reducible rfl))
   try simp only [zs.a, zs.b, zs.c]
   refine za (i := 10) (oi := _) ?vb10 rfl rfl (by kernel_rfl) (by decide) (fun _ _ _ h => h) rfl ?hyb10 (fun _ => SB) ?restb10
   case hyb10 => (intro W; go_simp; (try with_reducible rfl))
   try simp only [zs.a, zs.b, zs.c]
   refine za (i := 11) (oi := _) ?vb11 rfl rfl (by kernel_rfl) (by decide) (fun _ _ _ h => h) rfl ?hyb11 (fun _ => SB) ?restb11
   case hyb11 => (intro W; go_simp; (try with_reducible rfl))
   try simp only [zs.a, zs.b, zs.c]
   refine za (i := 12) (oi := _) ?vb12 rfl rfl (by kernel_rfl) (by decide) (fun _ _ _ h => h) rfl ?hyb12 (fun _ => SB) ?restb12
   case hyb12 => (intro W; go_simp; (try with_reducible rfl))
   try simp only [zs.a, zs.b, zs.c]
   refine za (i := 13) (oi := _) ?vb13 rfl rfl (by kernel_rfl) (by decide) (fun _ _ _ h => h) rfl ?hyb13 (fun _ => SB) ?restb13
   case hyb13 => (intro W; go_simp; (try with_reducible rfl))
   try simp only [zs.a, zs.b, zs.c]
   refine zm (i := 14) (oi := _) ?vb14 rfl rfl (by kernel_rfl) (fun _ _ _ h => h) rfl ?hyb14 SB ?restb14
   case hyb14 => (intro W hW; obtain ⟨E0, E1, E2⟩ := HB.out W hW; go_simp; (try with_reducible rfl))
   try simp only [zs.a, zs.b, zs.c]
   refine za (i := 15) (oi := _) ?vb15 rfl rfl (by kernel_rfl) (by decide) (fun _ _ _ h => h) rfl ?hyb15 (fun _ => SB) ?restb15
   case hyb15 => (intro W; go_simp; (try with_reducible rfl))
   try simp only [zs.a, zs.b, zs.c]
   refine za (i := 16) (oi := _) ?vb16 rfl rfl (by kernel_rfl) (by decide) (fun _ _ _ h => h) rfl ?hyb16 (fun _ => SB) ?restb16
   case hyb16 => (intro W; go_simp; (try with_reducible rfl))
   try simp only [zs.a, zs.b, zs.c]
   refine za (i := 17) (oi := _) ?vb17 rfl rfl (by kernel_rfl) (by decide) (fun _ _ _ h => h) rfl ?hyb17 (fun _ => SB) ?restb17
   case hyb17 => (intro W; go_simp; (try with_reducible rfl))
   try simp only [zs.a, zs.b, zs.c]
   refine zm (i := 18) (oi := _) ?vb18 rfl rfl (by kernel_rfl) (fun _ _ _ h => h) rfl ?hyb18 SB ?restb18
   case hyb18 => (intro W hW; obtain ⟨E0, E1, E2⟩ := HB.out W hW; go_simp; (try with_reducible rfl))
   try simp only [zs.a, zs.b, zs.c]
   refine za (i := 19) (oi := _) ?vb19 rfl rfl (by kernel_rfl) (by decide) (fun _ _ _ h => h) rfl ?hyb19 (fun _ => SB) ?restb19
   case hyb19 => (intro W; go_simp; (try with_reducible rfl))
   try simp only [zs.a, zs.b, zs.c]
   refine za (i := 20) (oi := _) ?vb20 rfl rfl (by kernel_rfl) (by decide) (fun _ _ _ h => h) rfl ?hyb20 (fun _ => SB) ?restb20
   case hyb20 => (intro W; go_simp; (try with_reducible rfl))
   try simp only [zs.a, zs.b, zs.c]
   refine za (i := 21) (oi := _) ?vb21 rfl rfl (by kernel_rfl) (by decide) (fun _ _ _ h => h) rfl ?hyb21 (fun _ => SB) ?restb21
   case hyb21 => (intro W; go_simp; (try with_reducible rfl))
   try simp only [zs.a, zs.b, zs.c]
   refine za (i := 22) (oi := _) ?vb22 rfl rfl (by kernel_rfl) (by decide) (fun _ _ _ h => h) rfl ?hyb22 (fun _ => SB) ?restb22
   case hyb22 => (intro W; go_simp; (try with_reducible rfl))
   try simp only [zs.a, zs.b, zs.c]
   refine zm (i := 23) (oi := _) ?vb23 rfl rfl (by kernel_rfl) (fun _ _ _ h => h) rfl ?hyb23 SB ?restb23
   case hyb23 => (intro W hW; obtain ⟨E0, E1, E2⟩ := HB.out W hW; go_simp; (try with_reducible rfl))
   try simp only [zs.a, zs.b, zs.c]
   refine za (i := 24) (oi := _) ?vb24 rfl rfl (by kernel_rfl) (by decide) (fun _ _ _ h => h) rfl ?hyb24 (fun _ => SB) ?restb24
   case hyb24 => (intro W; go_simp; (try with_reducible rfl))
   try simp only [zs.a, zs.b, zs.c]
   refine za (i := 25) (oi := _) ?vb25 rfl rfl (by kernel_rfl) (by decide) (fun _ _ _ h => h) rfl ?hyb25 (fun _ => SB) ?restb25
   case hyb25 => (intro W; go_simp; (try with_reducible rfl))
   try simp only [zs.a, zs.b, zs.c]
   refine za (i := 26) (oi := _) ?vb26 rfl rfl (by kernel_rfl) (by decide) (fun _ _ _ h => h) rfl ?hyb26 (fun _ => SB) ?restb26
   case hyb26 => (intro W; go_simp; (try with_reducible rfl))
   try simp only [zs.a, zs.b, zs.c]
   refine zm (i := 27) (oi := _) ?vb27 rfl rfl (by kernel_rfl) (fun _ _ _ h => h) rfl ?hyb27 SB ?restb27
   case hyb27 => (intro W hW; obtain ⟨E0, E1, E2⟩ := HB.out W hW; go_simp; (try with_reducible rfl))
   try simp only [zs.a, zs.b, zs.c]
   refine za (i := 28) (oi := _) ?vb28 rfl rfl (by kernel_rfl) (by decide) (fun _ _ _ h => h) rfl ?hyb28 (fun _ => SB) ?restb28
   case hyb28 => (intro W; go_simp; (try with_reducible rfl))
   try simp only [zs.a, zs.b, zs.c]
   refine za (i := 29) (oi := _) ?vb29 rfl rfl (by kernel_rfl) (by decide) (fun _ _ _ h => h) rfl ?hyb29 (fun _ => SB) ?restb29
   case hyb29 => (intro W; go_simp; (try with_reducible rfl))
   try simp only [zs.a, zs.b, zs.c]
   refine za (i := 30) (oi := _) ?vb30 rfl rfl (by kernel_rfl) (by decide) (fun _ _ _ h => h) rfl ?hyb30 (fun _ => SB) ?restb30
   case hyb30 => (intro W; go_simp; (try with_reducible rfl))
   try simp only [zs.a, zs.b, zs.c]
   refine zm (i := 31) (oi := _) ?vb31 rfl rfl (by kernel_rfl) (fun _ _ _ h => h) rfl ?hyb31 SB ?restb31
   case hyb31 => (intro W hW; obtain ⟨E0, E1, E2⟩ := HB.out W hW; go_simp; (try with_reducible rfl))
   try simp only [zs.a, zs.b, zs.c]
   refine za (i := 32) (oi := _) ?vb32 rfl rfl (by kernel_rfl) (by decide) (fun _ _ _ h => h) rfl ?hyb32 (fun _ => SB) ?restb32
   case hyb32 => (intro W; go_simp; (try with_reducible rfl))
   try simp only [zs.a, zs.b, zs.c]
   refine za (i := 33) (oi := _) ?vb33 rfl rfl (by kernel_rfl) (by decide) (fun _ _ _ h => h) rfl ?hyb33 (fun _ => SB) ?restb33
   case hyb33 => (intro W; go_simp; (try with_reducible rfl))
   try simp only [zs.a, zs.b, zs.c]
   have HAZ := HA2.out.below HWZ.out hgs
   obtain ⟨x0, r0⟩ := HAZ.free (j := k * 3) (by omega)
   obtain ⟨x1, r1⟩ := HAZ.free (j := k * 3 + 1) (by omega)
   obtain ⟨x2, r2⟩ := HAZ.free (j := k * 3 + 2) (by omega)
   have f0 := HAZ.frozen (k * 3)
   have f1 := HAZ.frozen (k * 3 + 1)
   have f2 := HAZ.frozen (k * 3 + 2)
   have hp3 := HAZ.push (by omega) (.slice A3 ce c3, .slice A3 co c3, .slice (if c3 = co then A3 else A3.map (·.add (co * 2))) (ce - co) (c3 - co))
   rw [hul] at hp3
   have HP3 := Lib.hid hp3
   have HWB := Lib.hid (show Below w.heap.size w wz from zf HW2.out HWZ.out)
   have HRZ := Lib.hid (show zb8 wz w.heap.size us (zaw (zj X) o e (ls.take k)) from HRD.out.below HWZ.out (by have := HW2.out.size; omega))
   clear HAZ hp3
   refine za (i := 34) (oi := _) ?vb34 rfl rfl (by kernel_rfl) (by decide) (fun _ _ _ h => h) rfl ?hyb34 (fun _ => SB) ?restb34
   case hyb34 => (intro W; go_simp; (try with_reducible rfl))
   try simp only [zs.a, zs.b, zs.c]
   refine zh (i := 35) (by kernel_rfl) rfl (fun K hK => ?_)
   go_simp
   refine hK.out _ _ (fun hf => absurd hf (by decide)) ?_
   clear hK K
   refine zL (by kernel_rfl) ?_
   have HN := Lib.hid (show ∀ W, W = wz.setCells ga (k * 3) [.slice A3 ce c3, .slice A3 co c3, .slice (if c3 = co then A3 else A3.map (·.add (co * 2))) (ce - co) (c3 - co)] -> AtA W ga ls.length (us ++ [(.slice A3 ce c3, .slice A3 co c3, .slice (if c3 = co then A3 else A3.map (·.add (co * 2))) (ce - co) (c3 - co))]) /\ zb8 W w.heap.size (us ++ [(.slice A3 ce c3, .slice A3 co c3, .slice (if c3 = co then A3 else A3.map (·.add (co * 2))) (ce - co) (c3 - co))]) (zaw (zj X) o e (ls.take (k + 1))) /\ zl ga (ga + 1) w1 W from fun W hW => by
    subst hW
    have hbz : Below w.heap.size wz (wz.setCells ga (k * 3) [.slice A3 ce c3, .slice A3 co c3, .slice (if c3 = co then A3 else A3.map (·.add (co * 2))) (ce - co) (c3 - co)]) := HP3.out.2.below (by have := HGA.out; omega) HWB.out.size
    refine ⟨HP3.out.1, ?_, (HO2.out.trans (zl.of_below HWZ.out)).trans HP3.out.2⟩
    have he : zaw (zj X) o e (ls.take (k + 1)) = zaw (zj X) o e (ls.take k) ++ [zcZ (zj X) o e p] := by
     rw [HTK.out.1, HTK.out.2]
     simp [zaw]
    rw [he]
    have hbw := HWB.out.trans hbz
    exact (HRZ.out.below hbz (Nat.le_refl _)).snoc (AGE.out.1.below hbw (Nat.le_refl _)) (AGE.out.2.1.below hbw (Nat.le_refl _)) (AGE.out.2.2.below hbw (Nat.le_refl _)))
   have HN2 := Lib.hid (HN.out _ rfl)
   clear r0 r1 r2 f0 f1 f2 SB
   go_wp2_with fail
   go_roundw
   case rel => exact ⟨k + 1, _, by omega, by go_num, by simp [hul], HN2.out.1, HN2.out.2.1, HN2.out.2.2⟩
   case measure => simp [intOf]; omega
  ·have hkn : k = ls.length := by omega
   have HF := Lib.hid (show AtA wr ga ls.length us /\ zb8 wr w.heap.size us (zaw (zj X) o e ls) /\ Below w.heap.size w wr from ⟨hat, by rw [hkn, List.take_length] at hrd; exact hrd, zl.then_ HB1.out hon (by have := HGA.out; omega)⟩)
   clear hkn hat hrd hon hul
   go_wp2_with fail
   go_ret
   exact ⟨_, us, rfl, by have := HGA.out; omega, HF.out.1, HF.out.2.1, HF.out.2.2⟩
open Go.RowKit
theorem zbX.snoc {w : World} {B : Nat} {us : List QV} {qs : List LQ} {u : QV} {q : LQ} (h : zbX w B us qs) (h1 : zmI w B u.1 u.2.1 u.2.2.1 u.2.2.2 q) : zbX w B (us ++ [u]) (qs ++ [q]) := by
 refine ⟨by simp [h.1], fun k k1 k2 => ?_⟩
 by_cases e : k < us.length
 ·have e' : k < qs.length := by rw [<- h.1]; exact e
  rw [List.getElem_append_left e, List.getElem_append_left e']
  exact h.2 k e e'
 ·have e2 : k = us.length := by simp at k1; omega
  subst e2
  have l1 := h.1
  have x1 : (us ++ [u])[us.length]'k1 = u := by simp
  have x2 : (qs ++ [q])[us.length]'k2 = q := by simp [l1]
  rw [x1, x2]
  exact h1
set_option maxHeartbeats 4000000 in
theorem zhw (g : Nat) (X : List FV) (E : List Nat) (o e : Nat) (R : Nat -> Value) (v2 : Value) (ls : List zC) (w : World) (h : zaR w g X E o e R) (h2 : za6 w w.heap.size v2 ls) (hp : ∀ l ∈ ls, 0 <= l.2.1 /\ l.2.1 < 24) (hn : ls.length <= 1048576) (hX : X.length <= 1048576) :
 Calls Tryz.prog 104 #[.pointer (some ⟨g, 0, none⟩), v2] w fun e' w' =>
  ∃ g2 us, e' = .returned (.slice (some ⟨g2, 0, none⟩) ls.length ls.length) /\ w.heap.size <= g2 /\ AtQ w' g2 ls.length us /\ zbX w' w.heap.size us (zd0 (zj X) e ls) /\ Below w.heap.size w w' := by
 obtain ⟨i0, hi0, hz0, hz1, hz2⟩ := info_parts Tryz.infoQuestion
 have hmk := fun W => zby (P := Tryz.prog) 99 135 i0 (.agg #[.int .i64 0, .int .i64 0, .slice none 0 0, .slice none 0 0]) Tryz.underlying99 hi0 hz0 .i64 .i64 ls.length ls.length (Nat.le_refl _) (by rw [hz2]; omega) (by omega) W
 rw [hz1] at hmk
 simp only [Value.cells] at hmk
 have HG := Lib.hid h
 have H2 := Lib.hid h2
 have HP := Lib.hid hp
 have hgl := h.lt
 obtain ⟨A2, c2, rfl, hc2, _⟩ := h2
 obtain ⟨cs, hcs⟩ : ∃ cs, cs = madeCells #[Value.int IntKind.i64 0, Value.int IntKind.i64 0, Value.slice none 0 0, Value.slice none 0 0] (ls.length * 4) := ⟨_, rfl⟩
 have HM := Lib.hid (AtQ.made w cs ls.length (by rw [hcs]; simp [madeCells]) (by unfold maxLen; omega))
 rw [<- hcs] at hmk
 clear hcs h hp
 go_enter Tryz.func104, Tryz.ntmps104
 go_wp2_with fail
 obtain ⟨w1, hw1⟩ : ∃ w1, w1 = w.alloc (Obj.cells cs 135) := ⟨_, rfl⟩
 have B1 : Below w.heap.size w w1 := by rw [hw1]; exact ze _ _
 rw [<- hw1] at HM ⊢
 have HB1 := Lib.hid B1
 have hs1 : w.heap.size < w1.heap.size := by rw [hw1]; simp
 obtain ⟨ga, hga⟩ : ∃ ga, ga = w.heap.size := ⟨_, rfl⟩
 rw [<- hga] at HM
 have HGA := Lib.hid hga
 rw [show (w.heap.size : Nat) = ga from hga.symm]
 clear hw1 hmk B1 hga
 go_loopw [14] (fun i wr => ∃ (k : Nat) (us : List QV), k <= ls.length /\ i = .int .i64 k /\ us.length = k /\ AtQ wr ga ls.length us /\ zbX wr w.heap.size us (zd0 (zj X) e (ls.take k)) /\ zl ga (ga + 1) w1 wr) (fun i _ => ls.length - (intOf i).toNat)
 case atStart => exact ⟨0, [], Nat.zero_le _, rfl, rfl, HM.out, ⟨by simp [zd0], fun k h1 => absurd h1 (by simp)⟩, zl.refl _ _ _⟩
 case round =>
  obtain ⟨k, us, hk, rfl, hul, hat, hrd, hon⟩ := hrel
  by_cases hlt : k < ls.length
  ·have hbe : Below w.heap.size w wr := zl.then_ HB1.out hon (by have := HGA.out; omega)
   obtain ⟨b, o3, u0, u1, u2, rfl, hbB, k0, k1, k2, rfl, rfl, p3⟩ := (H2.out.below hbe (Nat.le_refl _)).get hlt
   have HP3A := Lib.hid p3
   obtain ⟨A4, c4, rfl, hc4, _⟩ := p3
   have hsz := hon.size
   obtain ⟨l, hle⟩ : ∃ l, l = ls[k] := ⟨_, rfl⟩
   have hpl : 0 <= l.2.1 /\ l.2.1 < 24 := by rw [hle]; exact HP.out _ (List.getElem_mem hlt)
   obtain ⟨p, hpe⟩ : ∃ p : Nat, l.2.1 = (p : Int) := ⟨l.2.1.toNat, by omega⟩
   have hp24 : p < 24 := by omega
   have hpi : (p : Int) < 24 := by omega
   rw [<- hle] at k0 k1 k2
   rw [hpe] at k1
   have HTK := Lib.hid (show zcZ (zj X) o e p = zcZ (zj X) o e l.2.1 /\ ls.take (k + 1) = ls.take k ++ [l] by rw [hpe, hle]; exact ⟨rfl, zH ls k hlt⟩)
   rw [<- hle] at HP3A hc4
   have HL2 := Lib.hid hpe
   clear hle hpe hpl
   go_upto_region 5 with fail
   obtain ⟨w2, hw2⟩ : ∃ w2, w2 = wr.alloc (Obj.cells #[Value.int IntKind.i64 l.1, Value.int IntKind.i64 (p : Int), Value.slice A4 l.2.2.length c4] 68) := ⟨_, rfl⟩
   have b2 : Below wr.heap.size wr w2 := by rw [hw2]; exact ze _ _
   have y2 : Blk w2 wr.heap.size 68 #[.int .i64 l.1, .int .i64 (p : Int), .slice A4 l.2.2.length c4] := by rw [hw2]; exact Blk.new _ _ _
   rw [<- hw2]
   clear hw2 k0 k1 k2
   have q1 : w2.cell? ⟨wr.heap.size, 1, none⟩ = some (.int .i64 (p : Int)) := y2.cell 1
   have d1 : w2.drew.cell? ⟨wr.heap.size, 1, none⟩ = some (.int .i64 (p : Int)) := y2.cell 1
   have HY2 := Lib.hid (And.intro y2 y2.lt)
   have HW2 := Lib.hid (show Below w.heap.size w w2 from zf hbe b2)
   have HWR := Lib.hid (show w.heap.size <= wr.heap.size /\ Below wr.heap.size wr w2 from ⟨hbe.size, b2⟩)
   have HA2 := Lib.hid (show AtQ w2 ga ls.length us from hat.below b2 hat.lt)
   have HO2 := Lib.hid (show zl ga (ga + 1) w1 w2 from hon.trans (zl.of_below b2))
   have HRD := Lib.hid (show zbX w2 w.heap.size us (zd0 (zj X) e (ls.take k)) from hrd.below b2 (by have := hbe.size; omega))
   have hgs : ga < w2.heap.size := HA2.out.lt
   clear hat hrd hon hbe b2 y2
   go_big_region
   go_upto_region 6 with fail
   obtain ⟨A3, c3, hv3⟩ := (HG.out.raw.formP hp24)
   obtain ⟨bx, hbx⟩ : ∃ bx, bx = wr.heap.size := ⟨_, rfl⟩
   rw [<- hbx]
   have HBX := Lib.hid hbx
   clear hbx
   obtain ⟨ce, hce⟩ : ∃ ce, ce = cntX X e p := ⟨_, rfl⟩
   obtain ⟨co, hco⟩ : ∃ co, co = cntX X o p := ⟨_, rfl⟩
   have HV := Lib.hid hv3
   have HCN := Lib.hid (And.intro hce hco)
   refine zB (fun W => W.cell? ⟨g, 26 + p * 3, none⟩ = some (.slice A3 (ofX X p).length c3) /\ W.cell? ⟨g, 26 + p * 3 + 2, none⟩ = some (.int .i64 (ce : Int)) /\ W.cell? ⟨bx, 0, none⟩ = some (.int .i64 l.1) /\ W.cell? ⟨bx, 1, none⟩ = some (.int .i64 (p : Int)) /\ W.cell? ⟨bx, 2, none⟩ = some (.slice A4 l.2.2.length c4)) 14 15 (by kernel_rfl) rfl ?_
   obtain ⟨wz, hwz⟩ : ∃ wz, wz = w2.drew.drew := ⟨_, rfl⟩
   have HWZ := Lib.hid (show Below w2.heap.size w2 wz by rw [hwz]; exact (Below.refl _ _).drew.drew)
   rw [<- hwz]
   clear hwz
   obtain ⟨SS, hSS⟩ : ∃ SS : World -> Prop, SS = (fun W => W.cell? ⟨g, 26 + p * 3, none⟩ = some (.slice A3 (ofX X p).length c3) /\ W.cell? ⟨g, 26 + p * 3 + 2, none⟩ = some (.int .i64 (ce : Int)) /\ W.cell? ⟨bx, 0, none⟩ = some (.int .i64 l.1) /\ W.cell? ⟨bx, 1, none⟩ = some (.int .i64 (p : Int)) /\ W.cell? ⟨bx, 2, none⟩ = some (.slice A4 l.2.2.length c4)) := ⟨_, rfl⟩
   rw [<- hSS]
   have HB := Lib.hid (show ∀ W, SS W -> (W.cell? ⟨g, 26 + p * 3, none⟩ = some (.slice A3 (ofX X p).length c3) /\ W.cell? ⟨g, 26 + p * 3 + 2, none⟩ = some (.int .i64 (ce : Int)) /\ W.cell? ⟨bx, 0, none⟩ = some (.int .i64 l.1) /\ W.cell? ⟨bx, 1, none⟩ = some (.int .i64 (p : Int)) /\ W.cell? ⟨bx, 2, none⟩ = some (.slice A4 l.2.2.length c4)) from by rw [hSS]; exact fun W hW => hW)
   have HGZ := Lib.hid (show zaR wz g X E o e R from HG.out.on (zf HW2.out HWZ.out))
   have SB : SS wz := by
    rw [hSS, <- hv3, hce]
    have hy := HY2.out.1.below HWZ.out HY2.out.2
    rw [<- HBX.out] at hy
    exact ⟨HGZ.out.raw.cellPred hp24, HGZ.out.raw.cellLat hp24, hy.cell 0, hy.cell 1, hy.cell 2⟩
   have AGE := Lib.hid (HG.out.ages hp24 hv3)
   rw [<- hce, <- hco] at AGE
   have hlim : (co : Int) <= (ce : Int) /\ (ce : Int) <= (c3 : Int) := by
    have h1 := zhq X HG.out.oe p
    have h2 := zii X e p
    have h3 : (ofX X p).length <= c3 := by
     rcases (HG.out.raw.pred p hp24).2 with ⟨e1, e0⟩ | ⟨b', cap, cur, e1, _, _, h2, _⟩
     ·rw [hv3] at e1; injection e1 with _ e2 e3; omega
     ·rw [hv3] at e1; injection e1 with _ e2 e3; omega
    omega
   obtain ⟨hl1, hl2⟩ := hlim
   have hl3 : (co : Int) <= (c3 : Int) := by omega
   clear hSS hv3 hce hco
   refine za (i := 0) (oi := _) ?vb0 rfl rfl (by kernel_rfl) (by decide) (fun _ _ _ h => h) rfl ?hyb0 (fun _ => SB) ?restb0
   case hyb0 => (intro W; go_simp; (try with_reducible rfl))
   try simp only [zs.a, zs.b, zs.c]
   refine za (i := 1) (oi := _) ?vb1 rfl rfl (by kernel_rfl) (by decide) (fun _ _ _ h => h) rfl ?hyb1 (fun _ => SB) ?restb1
   case hyb1 => (intro W; go_simp; (try with_reducible rfl))
   try simp only [zs.a, zs.b, zs.c]
   refine zm (i := 2) (oi := _) ?vb2 rfl rfl (by kernel_rfl) (fun _ _ _ h => h) rfl ?hyb2 SB ?restb2
   case hyb2 => (intro W hW; obtain ⟨E0, E1, E2, E3, E4⟩ := HB.out W hW; go_simp; (try with_reducible rfl))
   try simp only [zs.a, zs.b, zs.c]
   refine za (i := 3) (oi := _) ?vb3 rfl rfl (by kernel_rfl) (by decide) (fun _ _ _ h => h) rfl ?hyb3 (fun _ => SB) ?restb3
   case hyb3 => (intro W; go_simp; (try with_reducible rfl))
   try simp only [zs.a, zs.b, zs.c]
   refine za (i := 4) (oi := _) ?vb4 rfl rfl (by kernel_rfl) (by decide) (fun _ _ _ h => h) rfl ?hyb4 (fun _ => SB) ?restb4
   case hyb4 => (intro W; go_simp; (try with_reducible rfl))
   try simp only [zs.a, zs.b, zs.c]
   refine za (i := 5) (oi := _) ?vb5 rfl rfl (by kernel_rfl) (by decide) (fun _ _ _ h => h) rfl ?hyb5 (fun _ => SB) ?restb5
   case hyb5 => (intro W; go_simp; (try with_reducible rfl))
   try simp only [zs.a, zs.b, zs.c]
   refine zm (i := 6) (oi := _) ?vb6 rfl rfl (by kernel_rfl) (fun _ _ _ h => h) rfl ?hyb6 SB ?restb6
   case hyb6 => (intro W hW; obtain ⟨E0, E1, E2, E3, E4⟩ := HB.out W hW; go_simp; (try with_reducible rfl))
   try simp only [zs.a, zs.b, zs.c]
   refine za (i := 7) (oi := _) ?vb7 rfl rfl (by kernel_rfl) (by decide) (fun _ _ _ h => h) rfl ?hyb7 (fun _ => SB) ?restb7
   case hyb7 => (intro W; go_simp; (try with_reducible rfl))
   try simp only [zs.a, zs.b, zs.c]
   refine za (i := 8) (oi := _) ?vb8 rfl rfl (by kernel_rfl) (by decide) (fun _ _ _ h => h) rfl ?hyb8 (fun _ => SB) ?restb8
   case hyb8 => (intro W; go_simp; (try with_reducible rfl))
   try simp only [zs.a, zs.b, zs.c]
   refine za (i := 9) (oi := _) ?vb9 rfl rfl (by kernel_rfl) (by decide) (fun _ _ _ h => h) rfl ?hyb9 (fun _ => SB) ?restb9
   case hyb9 => (intro W; go_simp; (try with_reducible rfl))
   try simp only [zs.a, zs.b, zs.c]
   refine zm (i := 10) (oi := _) ?vb10 rfl rfl (by kernel_rfl) (fun _ _ _ h => h) rfl ?hyb10 SB ?restb10
   case hyb10 => (intro W hW; obtain ⟨E0, E1, E2, E3, E4⟩ := HB.out W hW; go_simp; (try with_reducible rfl))
   try simp only [zs.a, zs.b, zs.c]
   refine za (i := 11) (oi := _) ?vb11 rfl rfl (by kernel_rfl) (by decide) (fun _ _ _ h => h) rfl ?hyb11 (fun _ => SB) ?restb11
   case hyb11 => (intro W; go_simp; (try with_reducible rfl))
   try simp only [zs.a, zs.b, zs.c]
   refine za (i := 12) (oi := _) ?vb12 rfl rfl (by kernel_rfl) (by decide) (fun _ _ _ h => h) rfl ?hyb12 (fun _ => SB) ?restb12
   case hyb12 => (intro W; go_simp; (try with_reducible rfl))
   try simp only [zs.a, zs.b, zs.c]
   have HAZ := HA2.out.below HWZ.out hgs
   obtain ⟨x0, r0⟩ := HAZ.free (j := k * 4) (by omega)
   obtain ⟨x1, r1⟩ := HAZ.free (j := k * 4 + 1) (by omega)
   obtain ⟨x2, r2⟩ := HAZ.free (j := k * 4 + 2) (by omega)
   obtain ⟨x3, r3⟩ := HAZ.free (j := k * 4 + 3) (by omega)
   have f0 := HAZ.frozen (k * 4)
   have f3 := HAZ.frozen (k * 4 + 3)
   have f1 := HAZ.frozen (k * 4 + 1)
   have f2 := HAZ.frozen (k * 4 + 2)
   have hp3 := HAZ.push (by omega) (.int .i64 l.1, .int .i64 (p : Int), .slice A4 l.2.2.length c4, .slice A3 ce c3)
   rw [hul] at hp3
   have HP3 := Lib.hid hp3
   have HWB := Lib.hid (show Below w.heap.size w wz from zf HW2.out HWZ.out)
   have HRZ := Lib.hid (show zbX wz w.heap.size us (zd0 (zj X) e (ls.take k)) from HRD.out.below HWZ.out (by have := HW2.out.size; omega))
   clear HAZ hp3
   refine za (i := 13) (oi := _) ?vb13 rfl rfl (by kernel_rfl) (by decide) (fun _ _ _ h => h) rfl ?hyb13 (fun _ => SB) ?restb13
   case hyb13 => (intro W; go_simp; (try with_reducible rfl))
   try simp only [zs.a, zs.b, zs.c]
   refine zh (i := 14) (by kernel_rfl) rfl (fun K hK => ?_)
   go_simp
   refine hK.out _ _ (fun hf => absurd hf (by decide)) ?_
   clear hK K
   refine zL (by kernel_rfl) ?_
   have HN := Lib.hid (show ∀ W, W = wz.setCells ga (k * 4) [.int .i64 l.1, .int .i64 (p : Int), .slice A4 l.2.2.length c4, .slice A3 ce c3] -> AtQ W ga ls.length (us ++ [(.int .i64 l.1, .int .i64 (p : Int), .slice A4 l.2.2.length c4, .slice A3 ce c3)]) /\ zbX W w.heap.size (us ++ [(.int .i64 l.1, .int .i64 (p : Int), .slice A4 l.2.2.length c4, .slice A3 ce c3)]) (zd0 (zj X) e (ls.take (k + 1))) /\ zl ga (ga + 1) w1 W from fun W hW => by
    subst hW
    have hbz : Below w.heap.size wz (wz.setCells ga (k * 4) [.int .i64 l.1, .int .i64 (p : Int), .slice A4 l.2.2.length c4, .slice A3 ce c3]) := HP3.out.2.below (by have := HGA.out; omega) HWB.out.size
    refine ⟨HP3.out.1, ?_, (HO2.out.trans (zl.of_below HWZ.out)).trans HP3.out.2⟩
    have he : zd0 (zj X) e (ls.take (k + 1)) = zd0 (zj X) e (ls.take k) ++ [(l, (zcZ (zj X) o e p).1)] := by
     rw [HTK.out.1, HTK.out.2]
     simp [zd0, zcZ]
    rw [he]
    have hbw := HWB.out.trans hbz
    refine (HRZ.out.below hbz (Nat.le_refl _)).snoc ⟨rfl, by rw [HL2.out], ?_, AGE.out.1.below hbw (Nat.le_refl _)⟩
    exact HP3A.out.below ((HWR.out.2.mono HWR.out.1).trans (HWZ.out.mono (by have := HW2.out.size; omega)) |>.trans hbz) (Nat.le_refl _))
   have HN2 := Lib.hid (HN.out _ rfl)
   clear r0 r1 r2 r3 f0 f1 f2 f3 SB
   go_wp2_with fail
   go_roundw
   case rel => exact ⟨k + 1, _, by omega, by go_num, by simp [hul], HN2.out.1, HN2.out.2.1, HN2.out.2.2⟩
   case measure => simp [intOf]; omega
  ·have hkn : k = ls.length := by omega
   have HF := Lib.hid (show AtQ wr ga ls.length us /\ zbX wr w.heap.size us (zd0 (zj X) e ls) /\ Below w.heap.size w wr from ⟨hat, by rw [hkn, List.take_length] at hrd; exact hrd, zl.then_ HB1.out hon (by have := HGA.out; omega)⟩)
   clear hkn hat hrd hon hul
   go_wp2_with fail
   go_ret
   exact ⟨_, us, rfl, by have := HGA.out; omega, HF.out.1, HF.out.2.1, HF.out.2.2⟩
open Go.RowKit
theorem zoI {w : World} {lo g c : Nat} {us : List QV} (h : w.ownsRow lo 135 4 (.slice (some ⟨g, 0, none⟩) us.length c) us.length (zaG us)) : AtQ w g c us /\ lo <= g := by
 rcases h.2 with ⟨e, _⟩ | ⟨g', cap, cur, e, hb, hg, h1, h2, h3, h4⟩
 ·cases e
 ·injection e with e1 e2 e3
  injection e1 with e1
  injection e1 with e1
  subst e1 e3
  exact ⟨⟨cur, hg, h1, h2, h3, h4⟩, hb⟩
structure zfG (w wr : World) (us : List QV) (qs : List LQ) (g c : Nat) : Prop where
 below : Below w.heap.size w wr
 row : wr.ownsRow w.heap.size 135 4 (.slice (some ⟨g, 0, none⟩) us.length c) us.length (zaG us)
 rd : zbX wr w.heap.size us qs
theorem zfG.on {w wr w2 : World} {us : List QV} {qs : List LQ} {g c : Nat} (h : zfG w wr us qs g c) (hb : Below wr.heap.size wr w2) : zfG w w2 us qs g c :=
 ⟨zf h.below hb, zw h.row fun b hb' => hb.block b (h.row.lt b hb').2, h.rd.below (hb.mono h.below.size) (Nat.le_refl _)⟩
theorem zfG.push {w wr w5 : World} {us : List QV} {qs : List LQ} {g c g2 cap : Nat} {u : QV} {q : LQ} {o : Obj} (h : zfG w wr us qs g c) (hg : (wr.alloc o).grownBy w5 (some g)) (hown : w5.ownsRow w.heap.size 135 4 (.slice (some ⟨g2, 0, none⟩) (us.length + 1) cap) (us.length + 1) (zaG us ++ [u.1, u.2.1, u.2.2.1, u.2.2.2]))
 (hq : zmI wr w.heap.size u.1 u.2.1 u.2.2.1 u.2.2.2 q) : zfG w w5 (us ++ [u]) (qs ++ [q]) g2 cap := by
 have hg' := zy hg
 have hs := h.below.size
 have hb : Below w.heap.size wr w5 := ⟨hg'.os, hg'.tape, hg'.output, hg'.size, fun k hk => hg'.block k (by omega) fun e => by
  have := (h.row.lt k (by simpa [Value.ownBlock] using e.symm)).1
  omega⟩
 refine ⟨h.below.trans hb, by rw [List.length_append, zdx]; exact hown, (h.rd.below hb (Nat.le_refl _)).snoc ?_⟩
 obtain ⟨a, b, d, e⟩ := hq
 exact ⟨a, b, d.below hb (Nat.le_refl _), e.below hb (Nat.le_refl _)⟩
set_option maxHeartbeats 4000000 in
theorem zga (ga ca i : Nat) (ls : List zC) (ag : List zcU) (us : List AV) (v : Value) (w : World) (h : za6 w w.heap.size v ls) (h2 : AtA w ga ca us) (h3 : zb8 w w.heap.size us ag) (hal : ag.length = ls.length) (hi : i < ls.length) (hn : ls.length <= 4) :
 Calls Tryz.prog 126 #[v, .slice (some ⟨ga, 0, none⟩) ls.length ca, .int .i64 i] w fun e' w' =>
  ∃ g2 c2 us2, e' = .returned (.slice (some ⟨g2, 0, none⟩) ls.length c2) /\ w.heap.size <= g2 /\ AtQ w' g2 c2 us2 /\ zbX w' w.heap.size us2 (zac ls ag i ls.length) /\ Below w.heap.size w w' := by
 obtain ⟨i0, hi0, hz0, hz1, hz2⟩ := info_parts Tryz.infoQuestion
 have hmk := fun W => zby (P := Tryz.prog) 99 135 i0 (.agg #[.int .i64 0, .int .i64 0, .slice none 0 0, .slice none 0 0]) Tryz.underlying99 hi0 hz0 .i64 .i64 0 ls.length (by omega) (by rw [hz2]; omega) (by omega) W
 rw [hz1] at hmk
 simp only [Value.cells, show ((0 : Nat) : Int) = 0 from rfl] at hmk
 have HL := Lib.hid h
 have HA := Lib.hid h2
 have HR := Lib.hid h3
 have HAL := Lib.hid (And.intro hal h3.1)
 obtain ⟨A, c, rfl, hc, _⟩ := h
 obtain ⟨cs, hcs⟩ : ∃ cs, cs = madeCells #[Value.int IntKind.i64 0, Value.int IntKind.i64 0, Value.slice none 0 0, Value.slice none 0 0] (ls.length * 4) := ⟨_, rfl⟩
 have HM := Lib.hid (show zfG w (w.alloc (.cells cs 135)) [] [] w.heap.size ls.length from
  ⟨ze _ _, World.ownsRow_made w cs ls.length (Nat.le_refl _) (by unfold maxLen; omega) (by rw [hcs]; simp [madeCells]), ⟨rfl, fun k h1 => absurd h1 (by simp)⟩⟩)
 rw [<- hcs] at hmk
 clear hcs h2 h3 hal
 go_enter Tryz.func126, Tryz.ntmps126
 go_upto_region 2 with fail
 obtain ⟨w1, hw1⟩ : ∃ w1, w1 = w.alloc (Obj.cells cs 135) := ⟨_, rfl⟩
 obtain ⟨gq, hgq⟩ : ∃ gq, gq = w.heap.size := ⟨_, rfl⟩
 rw [<- hw1] at HM ⊢
 rw [show (w.heap.size : Nat) = gq from hgq.symm]
 have HGQ := Lib.hid hgq
 have HM1 := Lib.hid (show zfG w w1 [] [] gq ls.length by rw [hgq]; exact HM.out)
 have hs1 : w.heap.size < w1.heap.size := by rw [hw1]; simp
 clear hw1 hgq hmk HM
 obtain ⟨l, hle⟩ : ∃ l, l = zba ls i := ⟨_, rfl⟩
 have hli : l = ls[i] := by rw [hle, zda hi]
 obtain ⟨b, o3, u0, u1, u2, rfl, hbB, k0, k1, k2, rfl, rfl, p3⟩ := HL.out.get hi
 obtain ⟨A4, c4, rfl, hc4, _⟩ := id p3
 rw [<- hli] at k0 k1 k2 hc4 p3
 have HLE := Lib.hid hle
 have HP3 := Lib.hid p3
 have hui : i < us.length := by rw [HAL.out.2, HAL.out.1]; exact hi
 have hai : i < ag.length := by rw [HAL.out.1]; exact hi
 have k3 := (HA.out.cells hui).2.2
 have hf3 := (HR.out.2 i hui hai).2.2
 rw [<- ze0 hai] at hf3
 obtain ⟨A5, c5, e5, _, _⟩ := id hf3
 rw [e5] at k3 hf3
 have HF3 := Lib.hid hf3
 have hga : ga < w.heap.size := HA.out.lt
 clear hle hli p3 hf3 e5
 refine zB (fun W => Below w.heap.size w W) 13 14 (by kernel_rfl) rfl ?_
 obtain ⟨wy, hwy⟩ : ∃ wy, wy = w1.drew := ⟨_, rfl⟩
 have HQ := Lib.hid (show zfG w wy [] [] gq ls.length by rw [hwy]; exact HM1.out.on (Below.refl _ _).drew)
 rw [<- hwy]
 clear hwy
 obtain ⟨SS, hSS⟩ : ∃ SS : World -> Prop, SS = (fun W => Below w.heap.size w W) := ⟨_, rfl⟩
 rw [<- hSS]
 have HB := Lib.hid (show ∀ W, SS W -> (W.cell? ⟨b, o3 + i * 3, none⟩ = some (.int .i64 l.1) /\ W.cell? ⟨b, o3 + i * 3 + 1, none⟩ = some (.int .i64 l.2.1) /\ W.cell? ⟨b, o3 + i * 3 + 2, none⟩ = some (.slice A4 l.2.2.length c4) /\ W.cell? ⟨ga, i * 3 + 2, none⟩ = some (.slice A5 (zaD ag i).2.2.length c5)) from by
  rw [hSS]
  intro W hW
  exact ⟨(hW.cell (p := ⟨b, o3 + i * 3, none⟩) hbB).trans k0, (hW.cell (p := ⟨b, o3 + i * 3 + 1, none⟩) hbB).trans k1, (hW.cell (p := ⟨b, o3 + i * 3 + 2, none⟩) hbB).trans k2, (hW.cell (p := ⟨ga, i * 3 + 2, none⟩) hga).trans k3⟩)
 have HS := Lib.hid (show ∀ W, Below w.heap.size w W -> SS W from by rw [hSS]; exact fun W hW => hW)
 have SB : SS wy := HS.out wy HQ.out.below
 clear hSS k0 k1 k2 k3
 refine za (i := 0) (oi := _) ?va0 rfl rfl (by kernel_rfl) (by decide) (fun _ _ _ h => h) rfl ?hya0 (fun _ => SB) ?resta0
 case hya0 => (intro W; go_simp; (try with_reducible rfl))
 try simp only [zs.a, zs.b, zs.c]
 refine za (i := 1) (oi := _) ?va1 rfl rfl (by kernel_rfl) (by decide) (fun _ _ _ h => h) rfl ?hya1 (fun _ => SB) ?resta1
 case hya1 => (intro W; go_simp; (try with_reducible rfl))
 try simp only [zs.a, zs.b, zs.c]
 refine za (i := 2) (oi := _) ?va2 rfl rfl (by kernel_rfl) (by decide) (fun _ _ _ h => h) rfl ?hya2 (fun _ => SB) ?resta2
 case hya2 => (intro W; go_simp; (try with_reducible rfl))
 try simp only [zs.a, zs.b, zs.c]
 refine za (i := 3) (oi := _) ?va3 rfl rfl (by kernel_rfl) (by decide) (fun _ _ _ h => h) rfl ?hya3 (fun _ => SB) ?resta3
 case hya3 => (intro W; go_simp; (try with_reducible rfl))
 try simp only [zs.a, zs.b, zs.c]
 refine zm (i := 4) (oi := _) ?va4 rfl rfl (by kernel_rfl) (fun _ _ _ h => h) rfl ?hya4 SB ?resta4
 case hya4 => (intro W hW; obtain ⟨E0, E1, E2, E3⟩ := HB.out W hW; go_simp; (try with_reducible rfl))
 try simp only [zs.a, zs.b, zs.c]
 refine za (i := 5) (oi := _) ?va5 rfl rfl (by kernel_rfl) (by decide) (fun _ _ _ h => h) rfl ?hya5 (fun _ => SB) ?resta5
 case hya5 => (intro W; go_simp; (try with_reducible rfl))
 try simp only [zs.a, zs.b, zs.c]
 refine za (i := 6) (oi := _) ?va6 rfl rfl (by kernel_rfl) (by decide) (fun _ _ _ h => h) rfl ?hya6 (fun _ => SB) ?resta6
 case hya6 => (intro W; go_simp; (try with_reducible rfl))
 try simp only [zs.a, zs.b, zs.c]
 refine za (i := 7) (oi := _) ?va7 rfl rfl (by kernel_rfl) (by decide) (fun _ _ _ h => h) rfl ?hya7 (fun _ => SB) ?resta7
 case hya7 => (intro W; go_simp; (try with_reducible rfl))
 try simp only [zs.a, zs.b, zs.c]
 refine za (i := 8) (oi := _) ?va8 rfl rfl (by kernel_rfl) (by decide) (fun _ _ _ h => h) rfl ?hya8 (fun _ => SB) ?resta8
 case hya8 => (intro W; go_simp; (try with_reducible rfl))
 try simp only [zs.a, zs.b, zs.c]
 refine zm (i := 9) (oi := _) ?va9 rfl rfl (by kernel_rfl) (fun _ _ _ h => h) rfl ?hya9 SB ?resta9
 case hya9 => (intro W hW; obtain ⟨E0, E1, E2, E3⟩ := HB.out W hW; go_simp; (try with_reducible rfl))
 try simp only [zs.a, zs.b, zs.c]
 refine za (i := 10) (oi := _) ?va10 rfl rfl (by kernel_rfl) (by decide) (fun _ _ _ h => h) rfl ?hya10 (fun _ => SB) ?resta10
 case hya10 => (intro W; go_simp; (try with_reducible rfl))
 try simp only [zs.a, zs.b, zs.c]
 refine zh (i := 11) (by kernel_rfl) rfl (fun K hK => ?_)
 try rw [if_pos (show Region.wanted _ _ = true from rfl)]
 go_simp
 have S6 : SS _ := HS.out (wy.alloc (Obj.cells #[Value.int IntKind.i64 l.1, Value.int IntKind.i64 l.2.1, Value.slice A4 l.2.2.length c4, Value.slice A5 (zaD ag i).2.2.length c5] 135)) (HQ.out.below.trans ((ze wy _).mono HQ.out.below.size))
 refine hK.out _ _ (fun _ => S6) ?_
 clear hK K
 try simp only [zs.a, zs.b, zs.c, Act.put]
 refine zh (i := 12) (by kernel_rfl) rfl (fun K hK => ?_)
 refine step_append_lies _ rfl (.tmp 13) (.tmp 24) 99 rfl w.heap.size 135 i0 (.agg #[.int .i64 0, .int .i64 0, .slice none 0 0, .slice none 0 0]) 4 64 Tryz.underlying99 hi0 hz0 hz1 hz2 rfl (by decide) (.slice (some ⟨gq, 0, none⟩) 0 ls.length) 0 [] rfl ?c1 ⟨wy.heap.size, 0, none⟩ 1 1 [.int .i64 l.1, .int .i64 l.2.1, .slice A4 l.2.2.length c4, .slice A5 (zaD ag i).2.2.length c5] rfl rfl ?c4 ?c2 (by omega) (by unfold maxLen; omega) (by omega) ?c3 _ rfl ?c5
 case c1 => exact HQ.out.row.alloc _
 case c4 => exact World.news_of_block (cs := #[.int .i64 l.1, .int .i64 l.2.1, .slice A4 l.2.2.length c4, .slice A5 (zaD ag i).2.2.length c5]) (heap_alloc_new wy _)
 case c2 => intro u hu; simp at hu; rcases hu with rfl | rfl | rfl | rfl <;> rfl
 case c3 => have := HQ.out.below.size; simp; omega
 case c5 =>
 intro g2 cap w5 hown hgr hat _
 have HQ5 := Lib.hid (show zfG w w5 [(.int .i64 l.1, .int .i64 l.2.1, .slice A4 l.2.2.length c4, .slice A5 (zaD ag i).2.2.length c5)] (zac ls ag i 0) g2 cap from by
  rw [zgL, <- HLE.out]
  exact HQ.out.push (u := (.int .i64 l.1, .int .i64 l.2.1, .slice A4 l.2.2.length c4, .slice A5 (zaD ag i).2.2.length c5)) hgr hown ⟨rfl, rfl, HP3.out.below HQ.out.below (Nat.le_refl _), HF3.out.below HQ.out.below (Nat.le_refl _)⟩)
 have S5 : SS w5 := HS.out w5 HQ5.out.below
 clear hown hgr hat
 refine hK.out _ _ (fun _ => S5) ?_
 clear hK K
 try simp only [zs.a, zs.b, zs.c, Act.put]
 refine zh (i := 13) (by kernel_rfl) rfl (fun K hK => ?_)
 go_simp
 refine hK.out _ _ (fun hf => absurd hf (by decide)) ?_
 clear hK K
 refine zL (by kernel_rfl) ?_
 clear S5 S6 SB HB HS
 go_wp2_with fail
 go_loopw [7, 28] (fun q x wr => ∃ (k : Nat) (us2 : List QV) (g2 c2 : Nat), k <= ls.length /\ x = .int .i64 k /\ q = .slice (some ⟨g2, 0, none⟩) us2.length c2 /\ us2.length <= 5 /\ zfG w wr us2 (zac ls ag i k) g2 c2) (fun _ x _ => ls.length - (intOf x).toNat)
 case atStart => exact ⟨0, _, g2, cap, Nat.zero_le _, rfl, rfl, by simp, HQ5.out⟩
 case round =>
  obtain ⟨k, us2, g3, c3, hk, rfl, rfl, hu5, hq⟩ := hrel
  have HQR := Lib.hid hq
  by_cases hlt : k < ls.length
  ·obtain ⟨l, hle⟩ : ∃ l, l = zba ls k := ⟨_, rfl⟩
   have hli : l = ls[k] := by rw [hle, zda hlt]
   obtain ⟨b', o', u0, u1, u2, e1, hbB', k0', k1', k2', rfl, rfl, p3⟩ := HL.out.get hlt
   injection e1 with e1
   injection e1 with e1 e2 _
   subst e1 e2
   obtain ⟨A4, c4, rfl, hc4, _⟩ := id p3
   rw [<- hli] at k0' k1' k2' hc4 p3
   have k0 := (hq.below.cell (p := ⟨b, o3 + k * 3, none⟩) hbB).trans k0'
   have k1 := (hq.below.cell (p := ⟨b, o3 + k * 3 + 1, none⟩) hbB).trans k1'
   have k2 := (hq.below.cell (p := ⟨b, o3 + k * 3 + 2, none⟩) hbB).trans k2'
   have HLE := Lib.hid hle
   have HP3 := Lib.hid p3
   obtain ⟨bx, hbx⟩ : ∃ bx, bx = wr.heap.size := ⟨_, rfl⟩
   have HBX := Lib.hid hbx
   clear hle hli p3 hq k0' k1' k2' hbx
   by_cases hki : k = i
   ·have hbt : ((k : Int) == (i : Int)) = true := by simp [hki]
    have HFT := Lib.hid (show zac ls ag i (k + 1) = zac ls ag i k by rw [hki]; exact zgM ls ag i)
    clear hki
    go_wp2_with fail
    go_roundw
    case rel => exact ⟨k + 1, us2, g3, c3, by omega, by go_num, rfl, hu5, by rw [HFT.out]; exact HQR.out.on (ze _ _)⟩
    case measure => simp [intOf]; omega
   have hbf : ((k : Int) == (i : Int)) = false := by simp; omega
   by_cases hcond : k < i /\ l.1 = 0
   ·obtain ⟨hc1, hc2⟩ := hcond
    have hd1 : decide (k < i) = true := decide_eq_true hc1
    have hd2 : decide ((k : Int) < (i : Int)) = true := by simpa using hc1
    have hk0 : (l.1 == 0) = true := by simpa using hc2
    have HC2 := Lib.hid hc2
    clear hc2
    have huk : k < us.length := by rw [HAL.out.2, HAL.out.1]; exact hlt
    have hak : k < ag.length := by rw [HAL.out.1]; exact hlt
    have k3 := (HA.out.cells huk).2.1
    have hf3 := (HR.out.2 k huk hak).2.1
    rw [<- ze0 hak] at hf3
    obtain ⟨A5, c5, e5, _, _⟩ := id hf3
    rw [e5] at k3 hf3
    have HF3 := Lib.hid hf3
    have HK3 := Lib.hid k3
    have HFT := Lib.hid (show zac ls ag i (k + 1) = zac ls ag i k ++ [(l, (zaD ag k).2.1)] by
     rw [zdv ls ag hki]
     unfold qAt
     rw [<- HLE.out, if_pos (show k < i /\ l.1 = 0 from ⟨hc1, HC2.out⟩)])
    clear hf3 e5 k3
    go_upto_region 9 with fail
    obtain ⟨w2, hw2⟩ : ∃ w2, w2 = wr.alloc (Obj.cells #[Value.int IntKind.i64 l.1, Value.int IntKind.i64 l.2.1, Value.slice A4 l.2.2.length c4] 68) := ⟨_, rfl⟩
    have b2 : Below wr.heap.size wr w2 := by rw [hw2]; exact ze _ _
    have y2 : Blk w2 bx 68 #[.int .i64 l.1, .int .i64 l.2.1, .slice A4 l.2.2.length c4] := by rw [hw2, HBX.out]; exact Blk.new _ _ _
    rw [<- hw2]
    rw [show (wr.heap.size : Nat) = bx from HBX.out.symm]
    clear hw2 k0 k1 k2
    refine zB (fun W => Below w.heap.size w W /\ W.cell? ⟨bx, 0, none⟩ = some (.int .i64 l.1) /\ W.cell? ⟨bx, 1, none⟩ = some (.int .i64 l.2.1) /\ W.cell? ⟨bx, 2, none⟩ = some (.slice A4 l.2.2.length c4)) 10 11 (by kernel_rfl) rfl ?_
    obtain ⟨wy, hwy⟩ : ∃ wy, wy = w2.drew := ⟨_, rfl⟩
    have HQ := Lib.hid (show zfG w wy us2 (zac ls ag i k) g3 c3 by rw [hwy]; exact HQR.out.on b2.drew)
    have HY := Lib.hid (show Blk wy bx 68 #[.int .i64 l.1, .int .i64 l.2.1, .slice A4 l.2.2.length c4] by rw [hwy]; exact y2)
    have HRB := Lib.hid (show g3 < bx /\ bx < wy.heap.size from ⟨by rw [HBX.out]; exact (HQR.out.row.lt g3 rfl).2, HY.out.lt⟩)
    rw [<- hwy]
    clear hwy b2 y2
    obtain ⟨SS, hSS⟩ : ∃ SS : World -> Prop, SS = (fun W => Below w.heap.size w W /\ W.cell? ⟨bx, 0, none⟩ = some (.int .i64 l.1) /\ W.cell? ⟨bx, 1, none⟩ = some (.int .i64 l.2.1) /\ W.cell? ⟨bx, 2, none⟩ = some (.slice A4 l.2.2.length c4)) := ⟨_, rfl⟩
    rw [<- hSS]
    have HB := Lib.hid (show ∀ W, SS W -> (W.cell? ⟨bx, 0, none⟩ = some (.int .i64 l.1) /\ W.cell? ⟨bx, 1, none⟩ = some (.int .i64 l.2.1) /\ W.cell? ⟨bx, 2, none⟩ = some (.slice A4 l.2.2.length c4) /\ W.cell? ⟨ga, k * 3 + 1, none⟩ = some (.slice A5 (zaD ag k).2.1.length c5)) from by
     rw [hSS]
     intro W hW
     exact ⟨hW.2.1, hW.2.2.1, hW.2.2.2, (hW.1.cell (p := ⟨ga, k * 3 + 1, none⟩) hga).trans HK3.out⟩)
    have HS := Lib.hid (show ∀ W : World, Below w.heap.size w W -> W.heap[bx]? = wy.heap[bx]? -> SS W from by
     rw [hSS]
     intro W hW hx
     have hy : Blk W bx 68 #[.int .i64 l.1, .int .i64 l.2.1, .slice A4 l.2.2.length c4] := hx.trans HY.out
     exact ⟨hW, hy.cell 0, hy.cell 1, hy.cell 2⟩)
    have SB : SS wy := HS.out wy HQ.out.below rfl
    clear hSS
    refine za (i := 0) (oi := _) ?vb0 rfl rfl (by kernel_rfl) (by decide) (fun _ _ _ h => h) rfl ?hyb0 (fun _ => SB) ?restb0
    case hyb0 => (intro W; go_simp; (try with_reducible rfl))
    try simp only [zs.a, zs.b, zs.c]
    refine zm (i := 1) (oi := _) ?vb1 rfl rfl (by kernel_rfl) (fun _ _ _ h => h) rfl ?hyb1 SB ?restb1
    case hyb1 => (intro W hW; obtain ⟨E0, E1, E2, E3⟩ := HB.out W hW; go_simp; (try with_reducible rfl))
    try simp only [zs.a, zs.b, zs.c]
    refine za (i := 2) (oi := _) ?vb2 rfl rfl (by kernel_rfl) (by decide) (fun _ _ _ h => h) rfl ?hyb2 (fun _ => SB) ?restb2
    case hyb2 => (intro W; go_simp; (try with_reducible rfl))
    try simp only [zs.a, zs.b, zs.c]
    refine za (i := 3) (oi := _) ?vb3 rfl rfl (by kernel_rfl) (by decide) (fun _ _ _ h => h) rfl ?hyb3 (fun _ => SB) ?restb3
    case hyb3 => (intro W; go_simp; (try with_reducible rfl))
    try simp only [zs.a, zs.b, zs.c]
    refine za (i := 4) (oi := _) ?vb4 rfl rfl (by kernel_rfl) (by decide) (fun _ _ _ h => h) rfl ?hyb4 (fun _ => SB) ?restb4
    case hyb4 => (intro W; go_simp; (try with_reducible rfl))
    try simp only [zs.a, zs.b, zs.c]
    refine za (i := 5) (oi := _) ?vb5 rfl rfl (by kernel_rfl) (by decide) (fun _ _ _ h => h) rfl ?hyb5 (fun _ => SB) ?restb5
    case hyb5 => (intro W; go_simp; (try with_reducible rfl))
    try simp only [zs.a, zs.b, zs.c]
    refine zm (i := 6) (oi := _) ?vb6 rfl rfl (by kernel_rfl) (fun _ _ _ h => h) rfl ?hyb6 SB ?restb6
    case hyb6 => (intro W hW; obtain ⟨E0, E1, E2, E3⟩ := HB.out W hW; go_simp; (try with_reducible rfl))
    try simp only [zs.a, zs.b, zs.c]
    refine za (i := 7) (oi := _) ?vb7 rfl rfl (by kernel_rfl) (by decide) (fun _ _ _ h => h) rfl ?hyb7 (fun _ => SB) ?restb7
    case hyb7 => (intro W; go_simp; (try with_reducible rfl))
    try simp only [zs.a, zs.b, zs.c]
    refine zh (i := 8) (by kernel_rfl) rfl (fun K hK => ?_)
    try rw [if_pos (show Region.wanted _ _ = true from rfl)]
    go_simp
    have S6 : SS _ := HS.out (wy.alloc (Obj.cells #[Value.int IntKind.i64 l.1, Value.int IntKind.i64 l.2.1, Value.slice A4 l.2.2.length c4, Value.slice A5 (zaD ag k).2.1.length c5] 135)) (HQ.out.below.trans ((ze wy _).mono HQ.out.below.size)) (Below.heap_alloc _ _ _ HRB.out.2)
    refine hK.out _ _ (fun _ => S6) ?_
    clear hK K
    try simp only [zs.a, zs.b, zs.c, Act.put]
    refine zh (i := 9) (by kernel_rfl) rfl (fun K hK => ?_)
    refine step_append_lies _ rfl (.tmp 56) (.tmp 64) 99 rfl w.heap.size 135 i0 (.agg #[.int .i64 0, .int .i64 0, .slice none 0 0, .slice none 0 0]) 4 64 Tryz.underlying99 hi0 hz0 hz1 hz2 rfl (by decide) (.slice (some ⟨g3, 0, none⟩) us2.length c3) us2.length (zaG us2) rfl ?bc1 ⟨wy.heap.size, 0, none⟩ 1 1 [.int .i64 l.1, .int .i64 l.2.1, .slice A4 l.2.2.length c4, .slice A5 (zaD ag k).2.1.length c5] rfl rfl ?bc4 ?bc2 (by omega) (by unfold maxLen; omega) (by omega) ?bc3 _ rfl ?bc5
    case bc1 => exact HQ.out.row.alloc _
    case bc4 => exact World.news_of_block (cs := #[.int .i64 l.1, .int .i64 l.2.1, .slice A4 l.2.2.length c4, .slice A5 (zaD ag k).2.1.length c5]) (heap_alloc_new wy _)
    case bc2 => intro u hu; simp at hu; rcases hu with rfl | rfl | rfl | rfl <;> rfl
    case bc3 => have := HQ.out.below.size; simp; omega
    case bc5 =>
    intro g2 cap w5 hown hgr hat _
    have HQ5 := Lib.hid (show zfG w w5 (us2 ++ [(.int .i64 l.1, .int .i64 l.2.1, .slice A4 l.2.2.length c4, .slice A5 (zaD ag k).2.1.length c5)]) (zac ls ag i (k + 1)) g2 cap from by
     rw [HFT.out]
     exact HQ.out.push (u := (.int .i64 l.1, .int .i64 l.2.1, .slice A4 l.2.2.length c4, .slice A5 (zaD ag k).2.1.length c5)) hgr hown ⟨rfl, rfl, HP3.out.below (HQ.out.below) (Nat.le_refl _), HF3.out.below HQ.out.below (Nat.le_refl _)⟩)
    have S5 : SS w5 := HS.out w5 HQ5.out.below ((zy hgr).block bx HRB.out.2 fun e => by have := HRB.out.1; simp [Value.ownBlock] at e; omega)
    clear hown hgr hat
    refine hK.out _ _ (fun _ => S5) ?_
    clear hK K
    try simp only [zs.a, zs.b, zs.c, Act.put]
    refine zh (i := 10) (by kernel_rfl) rfl (fun K hK => ?_)
    go_simp
    refine hK.out _ _ (fun hf => absurd hf (by decide)) ?_
    clear hK K
    refine zL (by kernel_rfl) ?_
    clear S5 S6 SB HB HS
    go_wp2_with fail
    go_roundw
    case rel => exact ⟨k + 1, us2 ++ [(.int .i64 l.1, .int .i64 l.2.1, .slice A4 l.2.2.length c4, .slice A5 (zaD ag k).2.1.length c5)], g2, cap, by omega, by go_num, by simp, by have := (zb3 ls ag i k).1; have := HQR.out.rd.1; simp; omega, HQ5.out⟩
    case measure => simp [intOf]; omega
   ·have HNC := Lib.hid hcond
    have hd : (k < i /\ decide (k < i) = true /\ decide ((k : Int) < (i : Int)) = true /\ (l.1 == 0) = false) \/ (¬ k < i /\ decide (k < i) = false /\ decide ((k : Int) < (i : Int)) = false) := by
     by_cases e : k < i
     ·exact .inl ⟨e, decide_eq_true e, by simpa using e, by simpa using fun e2 => hcond ⟨e, e2⟩⟩
     ·exact .inr ⟨e, decide_eq_false e, by simpa using e⟩
    clear hcond
    rcases hd with ⟨hx1, hx2, hx3, hx4⟩ | ⟨hx1, hx2, hx3⟩
    ·have huk : k < us.length := by rw [HAL.out.2, HAL.out.1]; exact hlt
     have hak : k < ag.length := by rw [HAL.out.1]; exact hlt
     have k3 := (HA.out.cells huk).1
     have hf3 := (HR.out.2 k huk hak).1
     rw [<- ze0 hak] at hf3
     obtain ⟨A5, c5, e5, _, _⟩ := id hf3
     rw [e5] at k3 hf3
     have HF3 := Lib.hid hf3
     have HK3 := Lib.hid k3
     have HFT := Lib.hid (show zac ls ag i (k + 1) = zac ls ag i k ++ [(l, (zaD ag k).1)] by
      rw [zdv ls ag hki]
      unfold qAt
      rw [<- HLE.out, if_neg (show ¬ (k < i /\ l.1 = 0) from HNC.out)])
     clear hf3 e5 k3
     go_upto_region 6 with fail
     obtain ⟨w2, hw2⟩ : ∃ w2, w2 = wr.alloc (Obj.cells #[Value.int IntKind.i64 l.1, Value.int IntKind.i64 l.2.1, Value.slice A4 l.2.2.length c4] 68) := ⟨_, rfl⟩
     have b2 : Below wr.heap.size wr w2 := by rw [hw2]; exact ze _ _
     have y2 : Blk w2 bx 68 #[.int .i64 l.1, .int .i64 l.2.1, .slice A4 l.2.2.length c4] := by rw [hw2, HBX.out]; exact Blk.new _ _ _
     rw [<- hw2]
     rw [show (wr.heap.size : Nat) = bx from HBX.out.symm]
     clear hw2 k0 k1 k2
     refine zB (fun W => Below w.heap.size w W /\ W.cell? ⟨bx, 0, none⟩ = some (.int .i64 l.1) /\ W.cell? ⟨bx, 1, none⟩ = some (.int .i64 l.2.1) /\ W.cell? ⟨bx, 2, none⟩ = some (.slice A4 l.2.2.length c4)) 10 11 (by kernel_rfl) rfl ?_
     obtain ⟨wy, hwy⟩ : ∃ wy, wy = w2.drew := ⟨_, rfl⟩
     have HQ := Lib.hid (show zfG w wy us2 (zac ls ag i k) g3 c3 by rw [hwy]; exact HQR.out.on b2.drew)
     have HY := Lib.hid (show Blk wy bx 68 #[.int .i64 l.1, .int .i64 l.2.1, .slice A4 l.2.2.length c4] by rw [hwy]; exact y2)
     have HRB := Lib.hid (show g3 < bx /\ bx < wy.heap.size from ⟨by rw [HBX.out]; exact (HQR.out.row.lt g3 rfl).2, HY.out.lt⟩)
     rw [<- hwy]
     clear hwy b2 y2
     obtain ⟨SS, hSS⟩ : ∃ SS : World -> Prop, SS = (fun W => Below w.heap.size w W /\ W.cell? ⟨bx, 0, none⟩ = some (.int .i64 l.1) /\ W.cell? ⟨bx, 1, none⟩ = some (.int .i64 l.2.1) /\ W.cell? ⟨bx, 2, none⟩ = some (.slice A4 l.2.2.length c4)) := ⟨_, rfl⟩
     rw [<- hSS]
     have HB := Lib.hid (show ∀ W, SS W -> (W.cell? ⟨bx, 0, none⟩ = some (.int .i64 l.1) /\ W.cell? ⟨bx, 1, none⟩ = some (.int .i64 l.2.1) /\ W.cell? ⟨bx, 2, none⟩ = some (.slice A4 l.2.2.length c4) /\ W.cell? ⟨ga, k * 3, none⟩ = some (.slice A5 (zaD ag k).1.length c5)) from by
      rw [hSS]
      intro W hW
      exact ⟨hW.2.1, hW.2.2.1, hW.2.2.2, (hW.1.cell (p := ⟨ga, k * 3, none⟩) hga).trans HK3.out⟩)
     have HS := Lib.hid (show ∀ W : World, Below w.heap.size w W -> W.heap[bx]? = wy.heap[bx]? -> SS W from by
      rw [hSS]
      intro W hW hx
      have hy : Blk W bx 68 #[.int .i64 l.1, .int .i64 l.2.1, .slice A4 l.2.2.length c4] := hx.trans HY.out
      exact ⟨hW, hy.cell 0, hy.cell 1, hy.cell 2⟩)
     have SB : SS wy := HS.out wy HQ.out.below rfl
     clear hSS
     refine za (i := 0) (oi := _) ?vd0 rfl rfl (by kernel_rfl) (by decide) (fun _ _ _ h => h) rfl ?hyd0 (fun _ => SB) ?restd0
     case hyd0 => (intro W; go_simp; (try with_reducible rfl))
     try simp only [zs.a, zs.b, zs.c]
     refine zm (i := 1) (oi := _) ?vd1 rfl rfl (by kernel_rfl) (fun _ _ _ h => h) rfl ?hyd1 SB ?restd1
     case hyd1 => (intro W hW; obtain ⟨E0, E1, E2, E3⟩ := HB.out W hW; go_simp; (try with_reducible rfl))
     try simp only [zs.a, zs.b, zs.c]
     refine za (i := 2) (oi := _) ?vd2 rfl rfl (by kernel_rfl) (by decide) (fun _ _ _ h => h) rfl ?hyd2 (fun _ => SB) ?restd2
     case hyd2 => (intro W; go_simp; (try with_reducible rfl))
     try simp only [zs.a, zs.b, zs.c]
     refine za (i := 3) (oi := _) ?vd3 rfl rfl (by kernel_rfl) (by decide) (fun _ _ _ h => h) rfl ?hyd3 (fun _ => SB) ?restd3
     case hyd3 => (intro W; go_simp; (try with_reducible rfl))
     try simp only [zs.a, zs.b, zs.c]
     refine za (i := 4) (oi := _) ?vd4 rfl rfl (by kernel_rfl) (by decide) (fun _ _ _ h => h) rfl ?hyd4 (fun _ => SB) ?restd4
     case hyd4 => (intro W; go_simp; (try with_reducible rfl))
     try simp only [zs.a, zs.b, zs.c]
     refine za (i := 5) (oi := _) ?vd5 rfl rfl (by kernel_rfl) (by decide) (fun _ _ _ h => h) rfl ?hyd5 (fun _ => SB) ?restd5
     case hyd5 => (intro W; go_simp; (try with_reducible rfl))
     try simp only [zs.a, zs.b, zs.c]
     refine zm (i := 6) (oi := _) ?vd6 rfl rfl (by kernel_rfl) (fun _ _ _ h => h) rfl ?hyd6 SB ?restd6
     case hyd6 => (intro W hW; obtain ⟨E0, E1, E2, E3⟩ := HB.out W hW; go_simp; (try with_reducible rfl))
     try simp only [zs.a, zs.b, zs.c]
     refine za (i := 7) (oi := _) ?vd7 rfl rfl (by kernel_rfl) (by decide) (fun _ _ _ h => h) rfl ?hyd7 (fun _ => SB) ?restd7
     case hyd7 => (intro W; go_simp; (try with_reducible rfl))
     try simp only [zs.a, zs.b, zs.c]
     refine zh (i := 8) (by kernel_rfl) rfl (fun K hK => ?_)
     try rw [if_pos (show Region.wanted _ _ = true from rfl)]
     go_simp
     have S6 : SS _ := HS.out (wy.alloc (Obj.cells #[Value.int IntKind.i64 l.1, Value.int IntKind.i64 l.2.1, Value.slice A4 l.2.2.length c4, Value.slice A5 (zaD ag k).1.length c5] 135)) (HQ.out.below.trans ((ze wy _).mono HQ.out.below.size)) (Below.heap_alloc _ _ _ HRB.out.2)
     refine hK.out _ _ (fun _ => S6) ?_
     clear hK K
     try simp only [zs.a, zs.b, zs.c, Act.put]
     refine zh (i := 9) (by kernel_rfl) rfl (fun K hK => ?_)
     refine step_append_lies _ rfl (.tmp 33) (.tmp 41) 99 rfl w.heap.size 135 i0 (.agg #[.int .i64 0, .int .i64 0, .slice none 0 0, .slice none 0 0]) 4 64 Tryz.underlying99 hi0 hz0 hz1 hz2 rfl (by decide) (.slice (some ⟨g3, 0, none⟩) us2.length c3) us2.length (zaG us2) rfl ?dc1 ⟨wy.heap.size, 0, none⟩ 1 1 [.int .i64 l.1, .int .i64 l.2.1, .slice A4 l.2.2.length c4, .slice A5 (zaD ag k).1.length c5] rfl rfl ?dc4 ?dc2 (by omega) (by unfold maxLen; omega) (by omega) ?dc3 _ rfl ?dc5
     case dc1 => exact HQ.out.row.alloc _
     case dc4 => exact World.news_of_block (cs := #[.int .i64 l.1, .int .i64 l.2.1, .slice A4 l.2.2.length c4, .slice A5 (zaD ag k).1.length c5]) (heap_alloc_new wy _)
     case dc2 => intro u hu; simp at hu; rcases hu with rfl | rfl | rfl | rfl <;> rfl
     case dc3 => have := HQ.out.below.size; simp; omega
     case dc5 =>
     intro g2 cap w5 hown hgr hat _
     have HQ5 := Lib.hid (show zfG w w5 (us2 ++ [(.int .i64 l.1, .int .i64 l.2.1, .slice A4 l.2.2.length c4, .slice A5 (zaD ag k).1.length c5)]) (zac ls ag i (k + 1)) g2 cap from by
      rw [HFT.out]
      exact HQ.out.push (u := (.int .i64 l.1, .int .i64 l.2.1, .slice A4 l.2.2.length c4, .slice A5 (zaD ag k).1.length c5)) hgr hown ⟨rfl, rfl, HP3.out.below (HQ.out.below) (Nat.le_refl _), HF3.out.below HQ.out.below (Nat.le_refl _)⟩)
     have S5 : SS w5 := HS.out w5 HQ5.out.below ((zy hgr).block bx HRB.out.2 fun e => by have := HRB.out.1; simp [Value.ownBlock] at e; omega)
     clear hown hgr hat
     refine hK.out _ _ (fun _ => S5) ?_
     clear hK K
     try simp only [zs.a, zs.b, zs.c, Act.put]
     refine zh (i := 10) (by kernel_rfl) rfl (fun K hK => ?_)
     go_simp
     refine hK.out _ _ (fun hf => absurd hf (by decide)) ?_
     clear hK K
     refine zL (by kernel_rfl) ?_
     clear S5 S6 SB HB HS
     go_wp2_with fail
     go_roundw
     case rel => exact ⟨k + 1, us2 ++ [(.int .i64 l.1, .int .i64 l.2.1, .slice A4 l.2.2.length c4, .slice A5 (zaD ag k).1.length c5)], g2, cap, by omega, by go_num, by simp, by have := (zb3 ls ag i k).1; have := HQR.out.rd.1; simp; omega, HQ5.out⟩
     case measure => simp [intOf]; omega
    ·have huk : k < us.length := by rw [HAL.out.2, HAL.out.1]; exact hlt
     have hak : k < ag.length := by rw [HAL.out.1]; exact hlt
     have k3 := (HA.out.cells huk).1
     have hf3 := (HR.out.2 k huk hak).1
     rw [<- ze0 hak] at hf3
     obtain ⟨A5, c5, e5, _, _⟩ := id hf3
     rw [e5] at k3 hf3
     have HF3 := Lib.hid hf3
     have HK3 := Lib.hid k3
     have HFT := Lib.hid (show zac ls ag i (k + 1) = zac ls ag i k ++ [(l, (zaD ag k).1)] by
      rw [zdv ls ag hki]
      unfold qAt
      rw [<- HLE.out, if_neg (show ¬ (k < i /\ l.1 = 0) from HNC.out)])
     clear hf3 e5 k3
     go_upto_region 6 with fail
     obtain ⟨w2, hw2⟩ : ∃ w2, w2 = wr.alloc (Obj.cells #[Value.int IntKind.i64 l.1, Value.int IntKind.i64 l.2.1, Value.slice A4 l.2.2.length c4] 68) := ⟨_, rfl⟩
     have b2 : Below wr.heap.size wr w2 := by rw [hw2]; exact ze _ _
     have y2 : Blk w2 bx 68 #[.int .i64 l.1, .int .i64 l.2.1, .slice A4 l.2.2.length c4] := by rw [hw2, HBX.out]; exact Blk.new _ _ _
     rw [<- hw2]
     rw [show (wr.heap.size : Nat) = bx from HBX.out.symm]
     clear hw2 k0 k1 k2
     refine zB (fun W => Below w.heap.size w W /\ W.cell? ⟨bx, 0, none⟩ = some (.int .i64 l.1) /\ W.cell? ⟨bx, 1, none⟩ = some (.int .i64 l.2.1) /\ W.cell? ⟨bx, 2, none⟩ = some (.slice A4 l.2.2.length c4)) 10 11 (by kernel_rfl) rfl ?_
     obtain ⟨wy, hwy⟩ : ∃ wy, wy = w2.drew := ⟨_, rfl⟩
     have HQ := Lib.hid (show zfG w wy us2 (zac ls ag i k) g3 c3 by rw [hwy]; exact HQR.out.on b2.drew)
     have HY := Lib.hid (show Blk wy bx 68 #[.int .i64 l.1, .int .i64 l.2.1, .slice A4 l.2.2.length c4] by rw [hwy]; exact y2)
     have HRB := Lib.hid (show g3 < bx /\ bx < wy.heap.size from ⟨by rw [HBX.out]; exact (HQR.out.row.lt g3 rfl).2, HY.out.lt⟩)
     rw [<- hwy]
     clear hwy b2 y2
     obtain ⟨SS, hSS⟩ : ∃ SS : World -> Prop, SS = (fun W => Below w.heap.size w W /\ W.cell? ⟨bx, 0, none⟩ = some (.int .i64 l.1) /\ W.cell? ⟨bx, 1, none⟩ = some (.int .i64 l.2.1) /\ W.cell? ⟨bx, 2, none⟩ = some (.slice A4 l.2.2.length c4)) := ⟨_, rfl⟩
     rw [<- hSS]
     have HB := Lib.hid (show ∀ W, SS W -> (W.cell? ⟨bx, 0, none⟩ = some (.int .i64 l.1) /\ W.cell? ⟨bx, 1, none⟩ = some (.int .i64 l.2.1) /\ W.cell? ⟨bx, 2, none⟩ = some (.slice A4 l.2.2.length c4) /\ W.cell? ⟨ga, k * 3, none⟩ = some (.slice A5 (zaD ag k).1.length c5)) from by
      rw [hSS]
      intro W hW
      exact ⟨hW.2.1, hW.2.2.1, hW.2.2.2, (hW.1.cell (p := ⟨ga, k * 3, none⟩) hga).trans HK3.out⟩)
     have HS := Lib.hid (show ∀ W : World, Below w.heap.size w W -> W.heap[bx]? = wy.heap[bx]? -> SS W from by
      rw [hSS]
      intro W hW hx
      have hy : Blk W bx 68 #[.int .i64 l.1, .int .i64 l.2.1, .slice A4 l.2.2.length c4] := hx.trans HY.out
      exact ⟨hW, hy.cell 0, hy.cell 1, hy.cell 2⟩)
     have SB : SS wy := HS.out wy HQ.out.below rfl
     clear hSS
     refine za (i := 0) (oi := _) ?vf0 rfl rfl (by kernel_rfl) (by decide) (fun _ _ _ h => h) rfl ?hyf0 (fun _ => SB) ?restf0
     case hyf0 => (intro W; go_simp; (try with_reducible rfl))
     try simp only [zs.a, zs.b, zs.c]
     refine zm (i := 1) (oi := _) ?vf1 rfl rfl (by kernel_rfl) (fun _ _ _ h => h) rfl ?hyf1 SB ?restf1
     case hyf1 => (intro W hW; obtain ⟨E0, E1, E2, E3⟩ := HB.out W hW; go_simp; (try with_reducible rfl))
     try simp only [zs.a, zs.b, zs.c]
     refine za (i := 2) (oi := _) ?vf2 rfl rfl (by kernel_rfl) (by decide) (fun _ _ _ h => h) rfl ?hyf2 (fun _ => SB) ?restf2
     case hyf2 => (intro W; go_simp; (try with_reducible rfl))
     try simp only [zs.a, zs.b, zs.c]
     refine za (i := 3) (oi := _) ?vf3 rfl rfl (by kernel_rfl) (by decide) (fun _ _ _ h => h) rfl ?hyf3 (fun _ => SB) ?restf3
     case hyf3 => (intro W; go_simp; (try with_reducible rfl))
     try simp only [zs.a, zs.b, zs.c]
     refine za (i := 4) (oi := _) ?vf4 rfl rfl (by kernel_rfl) (by decide) (fun _ _ _ h => h) rfl ?hyf4 (fun _ => SB) ?restf4
     case hyf4 => (intro W; go_simp; (try with_reducible rfl))
     try simp only [zs.a, zs.b, zs.c]
     refine za (i := 5) (oi := _) ?vf5 rfl rfl (by kernel_rfl) (by decide) (fun _ _ _ h => h) rfl ?hyf5 (fun _ => SB) ?restf5
     case hyf5 => (intro W; go_simp; (try with_reducible rfl))
     try simp only [zs.a, zs.b, zs.c]
     refine zm (i := 6) (oi := _) ?vf6 rfl rfl (by kernel_rfl) (fun _ _ _ h => h) rfl ?hyf6 SB ?restf6
     case hyf6 => (intro W hW; obtain ⟨E0, E1, E2, E3⟩ := HB.out W hW; go_simp; (try with_reducible rfl))
     try simp only [zs.a, zs.b, zs.c]
     refine za (i := 7) (oi := _) ?vf7 rfl rfl (by kernel_rfl) (by decide) (fun _ _ _ h => h) rfl ?hyf7 (fun _ => SB) ?restf7
     case hyf7 => (intro W; go_simp; (try with_reducible rfl))
     try simp only [zs.a, zs.b, zs.c]
     refine zh (i := 8) (by kernel_rfl) rfl (fun K hK => ?_)
     try rw [if_pos (show Region.wanted _ _ = true from rfl)]
     go_simp
     have S6 : SS _ := HS.out (wy.alloc (Obj.cells #[Value.int IntKind.i64 l.1, Value.int IntKind.i64 l.2.1, Value.slice A4 l.2.2.length c4, Value.slice A5 (zaD ag k).1.length c5] 135)) (HQ.out.below.trans ((ze wy _).mono HQ.out.below.size)) (Below.heap_alloc _ _ _ HRB.out.2)
     refine hK.out _ _ (fun _ => S6) ?_
     clear hK K
     try simp only [zs.a, zs.b, zs.c, Act.put]
     refine zh (i := 9) (by kernel_rfl) rfl (fun K hK => ?_)
     refine step_append_lies _ rfl (.tmp 33) (.tmp 41) 99 rfl w.heap.size 135 i0 (.agg #[.int .i64 0, .int .i64 0, .slice none 0 0, .slice none 0 0]) 4 64 Tryz.underlying99 hi0 hz0 hz1 hz2 rfl (by decide) (.slice (some ⟨g3, 0, none⟩) us2.length c3) us2.length (zaG us2) rfl ?fc1 ⟨wy.heap.size, 0, none⟩ 1 1 [.int .i64 l.1, .int .i64 l.2.1, .slice A4 l.2.2.length c4, .slice A5 (zaD ag k).1.length c5] rfl rfl ?fc4 ?fc2 (by omega) (by unfold maxLen; omega) (by omega) ?fc3 _ rfl ?fc5
     case fc1 => exact HQ.out.row.alloc _
     case fc4 => exact World.news_of_block (cs := #[.int .i64 l.1, .int .i64 l.2.1, .slice A4 l.2.2.length c4, .slice A5 (zaD ag k).1.length c5]) (heap_alloc_new wy _)
     case fc2 => intro u hu; simp at hu; rcases hu with rfl | rfl | rfl | rfl <;> rfl
     case fc3 => have := HQ.out.below.size; simp; omega
     case fc5 =>
     intro g2 cap w5 hown hgr hat _
     have HQ5 := Lib.hid (show zfG w w5 (us2 ++ [(.int .i64 l.1, .int .i64 l.2.1, .slice A4 l.2.2.length c4, .slice A5 (zaD ag k).1.length c5)]) (zac ls ag i (k + 1)) g2 cap from by
      rw [HFT.out]
      exact HQ.out.push (u := (.int .i64 l.1, .int .i64 l.2.1, .slice A4 l.2.2.length c4, .slice A5 (zaD ag k).1.length c5)) hgr hown ⟨rfl, rfl, HP3.out.below (HQ.out.below) (Nat.le_refl _), HF3.out.below HQ.out.below (Nat.le_refl _)⟩)
     have S5 : SS w5 := HS.out w5 HQ5.out.below ((zy hgr).block bx HRB.out.2 fun e => by have := HRB.out.1; simp [Value.ownBlock] at e; omega)
     clear hown hgr hat
     refine hK.out _ _ (fun _ => S5) ?_
     clear hK K
     try simp only [zs.a, zs.b, zs.c, Act.put]
     refine zh (i := 10) (by kernel_rfl) rfl (fun K hK => ?_)
     go_simp
     refine hK.out _ _ (fun hf => absurd hf (by decide)) ?_
     clear hK K
     refine zL (by kernel_rfl) ?_
     clear S5 S6 SB HB HS
     go_wp2_with fail
     go_roundw
     case rel => exact ⟨k + 1, us2 ++ [(.int .i64 l.1, .int .i64 l.2.1, .slice A4 l.2.2.length c4, .slice A5 (zaD ag k).1.length c5)], g2, cap, by omega, by go_num, by simp, by have := (zb3 ls ag i k).1; have := HQR.out.rd.1; simp; omega, HQ5.out⟩
     case measure => simp [intOf]; omega
  ·obtain rfl : k = ls.length := by omega
   have hl2 : us2.length = ls.length := by
    rw [hq.rd.1]
    exact (zb3 ls ag i ls.length).2.1 hi
   have HQF := Lib.hid (And.intro (zoI hq.row) hq)
   clear hq
   rw [hl2]
   go_wp2_with fail
   go_ret
   exact ⟨g3, c3, us2, rfl, HQF.out.1.2, HQF.out.1.1, HQF.out.2.rd, HQF.out.2.below⟩
end Go.Proofs.YtofkcmihcgmmpaaGreatDoor
