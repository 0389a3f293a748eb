/-
  The law FnRounds: for every input the call returns true, and each argument reads behind it as it read before. Conditions: none but the row's own.
-/
import Derived.Shelf.SlSortCmp.NoneTotal
import Derived.Test.YtofkcmihcgmmpaaGreatDoorRows
import Derived.Test.YtofkcmihcgmmpaaGreatDoorCards
import Derived.Test.YtofkcmihcgmmpaaGreatDoorTie
import Derived.Lay
import Derived.SevenTiedAt
import Derived.Test.YtofkcmihcgmmpaaGreatDoorPlainRoundsJoin
import Derived.Test.YtofkcmihcgmmpaaGreatDoorJFum
import Derived.Test.YtofkcmihcgmmpaaGreatDoorJFug
import Derived.Test.YtofkcmihcgmmpaaGreatDoorPlainRoundsGoes
import Derived.Test.YtofkcmihcgmmpaaGreatDoorMLr1
import Derived.Test.YtofkcmihcgmmpaaGreatDoorMLr2
import Derived.Test.YtofkcmihcgmmpaaGreatDoorMLr7
import Derived.Test.YtofkcmihcgmmpaaGreatDoorMLr10
import Derived.Test.YtofkcmihcgmmpaaGreatDoorMLr11
import Derived.Test.YtofkcmihcgmmpaaGreatDoorMLr12
import Derived.Test.YtofkcmihcgmmpaaGreatDoorMLr14
import Derived.Test.YtofkcmihcgmmpaaGreatDoorMLr15
namespace Go.Proofs.YtofkcmihcgmmpaaGreatDoor
set_option maxRecDepth 100000
open Go.RowKit
theorem zkD (x y : Int) (w : World) :
 Calls Tryz.prog 121 #[.int .i64 x, .int .i64 y] w fun e w' => e = .returned (.bool (decide (x < y))) /\ w' = w := by
 go_enter Tryz.func121, Tryz.ntmps121
 go_wp2
 go_ret
 simp
theorem zhY {x y : Int} {b : Bool} (h : decide (x < y) = b) (w : World) :
 Calls Tryz.prog 121 #[.int .i64 x, .int .i64 y] w fun e w' => e = .returned (.bool b) /\ w' = w := h ▸ zkD x y w
def zow (T : List Int) (m : Int) (i : Nat) : Prop := ∀ k (h : k < T.length), k < i -> T[k] < m
def zox (T : List Int) (m : Int) (j : Nat) : Prop := ∀ k (h : k < T.length), j <= k -> m <= T[k]
theorem znn {T : List Int} {m : Int} {h : Nat} (hup : T.Pairwise (· <= ·)) (hh : h < T.length) (e : T[h] < m) : zow T m (h + 1) := fun k hk hlt => by
 by_cases e2 : k = h
 ·subst e2
  exact e
 ·have := List.pairwise_iff_getElem.1 hup k h hk hh (by omega)
  omega
theorem znx {T : List Int} {m : Int} {h : Nat} (hup : T.Pairwise (· <= ·)) (hh : h < T.length) (e : ¬ T[h] < m) : zox T m h := fun k hk hle => by
 by_cases e2 : k = h
 ·subst e2
  omega
 ·have := List.pairwise_iff_getElem.1 hup h k hh hk (by omega)
  omega
set_option maxHeartbeats 2000000 in
theorem zkU (v : Value) (T : List Int) (m : Int) (B : Nat) (w : World) (h : zv w B v T) (hup : T.Pairwise (· <= ·)) (hn : T.length <= 1048576) :
 Calls Tryz.prog 92 #[v, .int .i64 m] w fun e w' =>
  (∃ (i : Nat) (R : Bool), e = .returned (.tuple #[.int .i64 i, .bool R]) /\ i <= T.length /\ zow T m i /\ zox T m i) /\ w' = w := by
 have HU := Lib.hid hup
 have H := Lib.hid h
 obtain ⟨A, c, rfl, hc, hcell⟩ := h
 have HC := Lib.hid hcell
 clear hup hcell
 go_enter Tryz.func92, Tryz.ntmps92
 go_wp2_with fail
 go_loopg [7, 8] T.length (fun q vi vj wr => ∃ i j : Nat, vi = .int .i64 i /\ vj = .int .i64 j /\ i <= j /\ j <= T.length /\ j - i <= q /\ wr = w /\ Hid (zow T m i /\ zox T m j))
 case atStart => exact ⟨0, T.length, rfl, rfl, Nat.zero_le _, Nat.le_refl _, Nat.sub_le _ _, rfl, fun k _ hk => absurd hk (by omega), fun k hk hle => absurd hk (by omega)⟩
 case round =>
  obtain ⟨i, j, rfl, rfl, hij, hj, hq, rfl, HI⟩ := hrel
  by_cases hlt : i < j
  ·obtain ⟨p, hp⟩ : ∃ p, p = (i + j) / 2 := ⟨_, rfl⟩
   have hp1 : i <= p := by omega
   have hp2 : p < j := by omega
   have hpl : p < T.length := by omega
   have HM := Lib.hid (show ((i : Int) + (j : Int)) / 2 = (p : Int) by omega)
   obtain ⟨b, o, rfl, hbB, kk⟩ := HC.out (by omega)
   have k1 := kk p hpl
   obtain ⟨K, hK⟩ : ∃ K, K = T[p] := ⟨_, rfl⟩
   rw [<- hK] at k1
   have HK := Lib.hid hK
   clear hK hp kk
   go_upto_region 5 with fail
   rw [HM.out]
   by_cases hl : K < m
   ·have hl2 : decide (K < m) = true := decide_eq_true hl
    have HN := Lib.hid (znn HU.out hpl (by rw [<- HK.out]; exact hl))
    have HL := Lib.hid hl2
    clear hl2 hl
    go_wp2_with (go_at_call 121; refine (zhY HL.out _).mono ?_; rintro e w' ⟨rfl, rfl⟩)
    go_roundg (j - (p + 1))
    case measure => omega
    case rel => exact ⟨p + 1, j, by go_num, rfl, by omega, hj, Nat.le_refl _, rfl, HN.out, HI.out.2⟩
   ·have hl2 : decide (K < m) = false := decide_eq_false hl
    have HN := Lib.hid (znx HU.out hpl (by rw [<- HK.out]; exact hl))
    have HL := Lib.hid hl2
    clear hl2 hl
    go_wp2_with (go_at_call 121; refine (zhY HL.out _).mono ?_; rintro e w' ⟨rfl, rfl⟩)
    go_roundg (p - i)
    case measure => omega
    case rel => exact ⟨i, p, rfl, rfl, hp1, by omega, Nat.le_refl _, rfl, HI.out.1, HN.out⟩
  ·obtain rfl : i = j := by omega
   have HNN : ∀ W (x : Int), Calls Tryz.prog 122 #[.int .i64 x] W fun e w' => e = .returned (.bool false) /\ w' = W := by
    intro W x
    go_enter Tryz.func122, Tryz.ntmps122
    go_wp2
    go_ret
    exact ⟨rfl, rfl⟩
   by_cases hpl : i < T.length
   ·obtain ⟨b, o, rfl, hbB, kk⟩ := HC.out (by omega)
    have k1 := kk i hpl
    obtain ⟨K, hK⟩ : ∃ K, K = T[i] := ⟨_, rfl⟩
    rw [<- hK] at k1
    clear hK kk
    by_cases e : K = m
    ·subst e
     go_wp2_with (go_at_call 122; refine (HNN _ _).mono ?_; rintro e w' ⟨rfl, rfl⟩)
     go_ret2
     exact ⟨⟨i, _, rfl, hj, HI.out.1, HI.out.2⟩, rfl⟩
    ·have hne : (K == m) = false := by simpa using e
     go_wp2_with (go_at_call 122; refine (HNN _ _).mono ?_; rintro e w' ⟨rfl, rfl⟩)
     go_ret2
     exact ⟨⟨i, _, rfl, hj, HI.out.1, HI.out.2⟩, rfl⟩
   ·go_wp2_with (go_at_call 122; refine (HNN _ _).mono ?_; rintro e w' ⟨rfl, rfl⟩)
    go_ret2
    exact ⟨⟨i, _, rfl, hj, HI.out.1, HI.out.2⟩, rfl⟩
open Go.RowKit
theorem zaR.rdEnds {w : World} {g o e : Nat} {X : List FV} {E : List Nat} {R : Nat -> Value} (h : zaR w g X E o e R) (hm : 0 < E.length) : ∃ b c, R 1 = .slice (some ⟨b, 0, none⟩) E.length c /\ zv w w.heap.size (.slice (some ⟨b, 0, none⟩) E.length c) (E.map fun (n : Nat) => (n : Int)) := by
 obtain ⟨b, c, h1, h2, h3⟩ := h.endsAt hm
 have hlt := (h.raw.rowLt (r := 1) (by omega) (b := b) (by rw [h1]; rfl)).2
 refine ⟨b, c, h1, _, c, by rw [List.length_map], by rw [List.length_map]; exact h3, fun _ => ⟨b, 0, rfl, hlt, fun k hk => ?_⟩⟩
 rw [List.length_map] at hk
 have := h2 k hk
 rw [Nat.zero_add, this]
 simp [hk]
set_option maxHeartbeats 4000000 in
theorem zk1 (g : Nat) (X : List FV) (E : List Nat) (o e : Nat) (R : Nat -> Value) (f : zd) (A2 : Option Addr) (c2 : Nat) (w : World) (h : zaR w g X E o e R) (hf : zv w w.heap.size (.slice A2 f.2.length c2) f.2) (hX : X.length <= 1048576) (hXs : ∀ x ∈ zj X, x.2.length <= 1048576) (hfn : f.2.length <= 1048576) (hE : 0 < E.length) (hE2 : E.length <= 1048576) (hup : E.Pairwise (· < ·)) :
 Calls Tryz.prog 57 #[.pointer (some ⟨g, 0, none⟩), .agg #[.int .i64 f.1, .slice A2 f.2.length c2]] w fun e' w' =>
  ((e' = .returned (.int .i64 (-1)) /\ f ∉ zj X) \/ ∃ r k : Nat, e' = .returned (.int .i64 r) /\ (∃ hk : k < (zj X).length, (zj X)[k] = f) /\ r <= E.length /\ (∀ i, i < r -> i < E.length -> E.getD i 0 <= k) /\ ∀ i, r <= i -> i < E.length -> k < E.getD i 0) /\ Below w.heap.size w w' := by
 have HG := Lib.hid h
 have HF := Lib.hid hf
 have HUP := Lib.hid (show (E.map fun (n : Nat) => (n : Int)).Pairwise (· <= ·) from by
  rw [List.pairwise_map]
  exact hup.imp fun h => by omega)
 obtain ⟨A0, c0, hv0⟩ := h.raw.formL
 have hgl := h.lt
 clear h hf hup
 go_enter Tryz.func57, Tryz.ntmps57
 go_upto_region 1 with fail
 obtain ⟨w1, hw1⟩ : ∃ w1, w1 = w.alloc (Obj.cells #[Value.int IntKind.i64 f.1, Value.slice A2 f.2.length c2] 39) := ⟨_, rfl⟩
 have X1 : Blk w1 w.heap.size 39 #[.int .i64 f.1, .slice A2 f.2.length c2] := by rw [hw1]; exact Blk.new _ _ _
 have B1 : Below w.heap.size w w1 := by rw [hw1]; exact ze _ _
 rw [<- hw1]
 clear hw1
 have G1 := HG.out.on B1
 have HG1 := Lib.hid G1
 have q0 : w1.cell? ⟨g, 0, none⟩ = some (.slice A0 X.length c0) := by rw [<- hv0]; exact G1.raw.cellList
 have hXc : X.length <= c0 := by
  rcases G1.raw.list.2 with ⟨e1, e0⟩ | ⟨b', cap, cur, e1, _, _, h2, _⟩
  ·rw [hv0] at e1; injection e1 with _ e2 e3; omega
  ·rw [hv0] at e1; injection e1 with _ e2 e3; omega
 have hl := zae X
 have HRD := Lib.hid (rdX G1.raw.list G1.raw.argsL (Nat.le_refl _) hv0 (c' := c0) hXc)
 rw [show (zj X).take X.length = zj X from List.take_of_length_le (by rw [hl]; exact Nat.le_refl _)] at HRD
 have CI := Lib.hid (zjt (.slice A0 X.length c0) (zj X) w.heap.size f A2 c2 w1 HRD.out X1 (HF.out.on B1) (by omega) hXs hfn)
 have HL := Lib.hid hl
 have HB1 := Lib.hid B1
 clear X1 B1 G1 hv0 hl
 go_upto_region 2 with (go_at_call 90; refine CI.out.mono ?_; rintro e2 w2 ⟨hcase, b2⟩; rcases hcase with ⟨rfl, hno⟩ | ⟨k, rfl, hk⟩)
 ·have HB2 := Lib.hid (zf HB1.out b2)
  have HNO := Lib.hid hno
  clear hno b2 q0
  go_wp2_with fail
  go_ret
  exact ⟨.inl ⟨rfl, HNO.out⟩, HB2.out⟩
 ·have HB2 := Lib.hid (zf HB1.out b2)
  have G2 := HG1.out.on b2
  obtain ⟨b1, c1, hv1, hrd⟩ := G2.rdEnds hE
  have q1 : w2.cell? ⟨g, 1, none⟩ = some (.slice (some ⟨b1, 0, none⟩) E.length c1) := by rw [<- hv1]; exact G2.raw.cellEnds
  have HK := Lib.hid hk
  have hk0 : ¬ (k : Int) < 0 := by omega
  have hk1 : k < X.length := by rw [<- HL.out]; exact hk.1
  have CS := Lib.hid (zkU (.slice (some ⟨b1, 0, none⟩) E.length c1) (E.map fun (n : Nat) => (n : Int)) ((k : Int) + 1) w2.heap.size w2 hrd HUP.out (by rw [List.length_map]; exact hE2))
  clear hk b2 q0 G2 hv1 hrd
  go_wp2_with (go_at_call 92; refine CS.out.mono ?_; rintro e3 w3 ⟨⟨i, Rb, rfl, hi, hless, hfrom⟩, rfl⟩; have HI := Lib.hid (And.intro hi (And.intro hless hfrom)); clear hi hless hfrom)
  go_ret
  obtain ⟨hi, hless, hfrom⟩ := HI.out
  rw [List.length_map] at hi
  refine ⟨.inr ⟨i, k, rfl, HK.out, hi, fun j h1 h2 => ?_, fun j h1 h2 => ?_⟩, HB2.out⟩
  ·have := hless j (by rw [List.length_map]; exact h2) h1
   simp [List.getD_eq_getElem?_getD, h2] at this ⊢
   omega
  ·have := hfrom j (by rw [List.length_map]; exact h2) h1
   simp [List.getD_eq_getElem?_getD, h2] at this ⊢
   omega
open Go.RowKit
theorem zeh.shorts {w : World} {g o m : Nat} {p : zal} {fs : List zd} {X : List FV} {E : List Nat} {R : Nat -> Value} (h : zeh w g p fs X E o R m) (hl : zcb p fs = true) : X.length <= 1536 /\ (∀ x ∈ zj X, x.2.length <= 1048576) /\ 0 < E.length := by
 obtain ⟨h1, _⟩ := zbh hl
 refine ⟨h.at_.few h1 h.fit, fun x hx => ?_, by have := h.len; omega⟩
 have := zbb h1 (h.fit.fits x hx)
 omega
set_option maxHeartbeats 4000000 in
theorem zic (v v2 v3 : Value) (p : zal) (fs : List zd) (f : zd) (w : World) (h : zb7 w w.heap.size v p) (h2 : zu w w.heap.size v2 fs) (h3 : zU w w.heap.size v3 f) (hs : szP p <= 1048576) (hn : fs.length <= 1048576) (ht : tot fs <= 1048576) (hf : f.2.length <= 1048576) :
 Calls Tryz.prog 22 #[v, v2, v3] w fun e w' => e = .returned (.int .i64 (zbv p fs f)) /\ Below w.heap.size w w' := by
 have HP := Lib.hid h
 have H2 := Lib.hid h2
 obtain ⟨a, b, rfl, hA, hR⟩ := h
 obtain ⟨A, c, rfl, hcA, _⟩ := hA
 obtain ⟨A2, c2, rfl, hcR, _⟩ := hR
 obtain ⟨A3, c3, rfl, hcF, _⟩ := h2
 obtain ⟨a3, rfl, ha3⟩ := h3
 have H3 := Lib.hid ha3
 obtain ⟨A4, c4, rfl, hc4, _⟩ := ha3
 obtain ⟨R, hRR⟩ : ∃ R, R = zbv p fs f := ⟨_, rfl⟩
 have HRR := Lib.hid hRR
 rw [<- hRR]
 clear hRR
 go_enter Tryz.func22, Tryz.ntmps22
 go_upto_region 1 with fail
 obtain ⟨w1, hw1⟩ : ∃ w1, w1 = w.alloc (Obj.cells #[Value.slice A p.1.length c, Value.slice A2 p.2.length c2] 26) := ⟨_, rfl⟩
 have X1 : Blk w1 w.heap.size 26 #[.slice A p.1.length c, .slice A2 p.2.length c2] := by rw [hw1]; exact Blk.new _ _ _
 have B1 : Below w.heap.size w w1 := by rw [hw1]; exact ze _ _
 have hs1 : w1.heap.size = w.heap.size + 1 := by rw [hw1]; simp
 rw [<- hw1]
 clear hw1
 obtain ⟨w2, hw2⟩ : ∃ w2, w2 = w1.alloc (Obj.cells #[Value.int IntKind.i64 f.1, Value.slice A4 f.2.length c4] 39) := ⟨_, rfl⟩
 have Y2 : Blk w2 (w.heap.size + 1) 39 #[.int .i64 f.1, .slice A4 f.2.length c4] := by rw [hw2, <- hs1]; exact Blk.new _ _ _
 have b2 : Below w1.heap.size w1 w2 := by rw [hw2]; exact ze _ _
 rw [<- hw2]
 clear hw2
 have X2 := X1.below b2 X1.lt
 have B2 := zf B1 b2
 have x0 : w2.cell? ⟨w.heap.size, 0, none⟩ = some (.slice A p.1.length c) := X2.cell 0
 have x1 : w2.cell? ⟨w.heap.size, 1, none⟩ = some (.slice A2 p.2.length c2) := X2.cell 1
 have CG := Lib.hid (zgK _ _ p fs w2 (HP.out.on B2) (H2.out.on B2) hs hn ht)
 have HY2 := Lib.hid Y2
 have HB2 := Lib.hid B2
 clear X1 X2 Y2 B1 B2 b2 hs1
 go_upto_region 2 with (go_at_call 30; refine CG.out.mono ?_; rintro e w3 ⟨hcase, b3⟩; rcases hcase with ⟨hno, rfl⟩ | ⟨hyes, g, X, E, o, Rg, m, rfl, hg, hgr⟩)
 ·have HNO := Lib.hid hno
  have HB3 := Lib.hid (zf HB2.out b3)
  clear hno b3 x0 x1
  go_wp2_with fail
  go_ret
  exact ⟨by rw [HRR.out]; unfold zbv zF; rw [HNO.out]; rfl, HB3.out⟩
 ·have HGR := Lib.hid hgr
  have HY := Lib.hid hyes
  have hB3 := zf HB2.out b3
  have HB3 := Lib.hid hB3
  have Y3 := HY2.out.below b3 HY2.out.lt
  have y0 : w3.cell? ⟨w.heap.size + 1, 0, none⟩ = some (.int .i64 f.1) := Y3.cell 0
  have y1 : w3.cell? ⟨w.heap.size + 1, 1, none⟩ = some (.slice A4 f.2.length c4) := Y3.cell 1
  obtain ⟨s1, s2, s3⟩ := hgr.shorts hyes
  have CR := Lib.hid (zk1 g X E o X.length Rg f A4 c4 w3 hgr.at_ (H3.out.on hB3) (by omega) s2 hf s3 (by have := (hgr.len_ hyes).2; omega) hgr.up)
  clear hgr hyes b3 x0 x1 hB3 Y3 s1 s2 s3
  go_wp2_with (go_at_call 57; refine CR.out.mono ?_; rintro e w4 ⟨hcase, b4⟩; have HC := Lib.hid hcase; have HB4 := Lib.hid (zf HB3.out b4); clear b4; rcases hcase with ⟨rfl, hno⟩ | ⟨r, k, rfl, hrk⟩)
  ·have HNO := Lib.hid hno
   clear hno HC
   go_wp2_with fail
   go_ret
   exact ⟨zT (by rw [HRR.out, (HGR.out.ix HY.out f).1 HNO.out]), HB4.out⟩
  ·have HRK := Lib.hid hrk
   clear hrk HC
   go_wp2_with fail
   go_ret
   exact ⟨zT (by rw [HRR.out, (HGR.out.ix HY.out f).2 r k HRK.out.1 HRK.out.2.1 HRK.out.2.2.1 HRK.out.2.2.2]), HB4.out⟩
set_option maxHeartbeats 4000000 in
theorem zh5 (v v2 v3 : Value) (p : zal) (fs : List zd) (f : zd) (w : World) (h : zb7 w w.heap.size v p) (h2 : zu w w.heap.size v2 fs) (h3 : zU w w.heap.size v3 f) (hs : szP p <= 1048576) (hn : fs.length <= 1048576) (ht : tot fs <= 1048576) (hf : f.2.length <= 1048576) :
 Calls Tryz.prog 23 #[v, v2, v3] w fun e w' => e = .returned (.int .i64 (zbv p fs f)) /\ Below w.heap.size w w' := by
 have HP := Lib.hid h
 have H2 := Lib.hid h2
 obtain ⟨a, b, rfl, hA, hR⟩ := h
 obtain ⟨A, c, rfl, hcA, _⟩ := hA
 obtain ⟨A2, c2, rfl, hcR, _⟩ := hR
 obtain ⟨A3, c3, rfl, hcF, _⟩ := h2
 obtain ⟨a3, rfl, ha3⟩ := h3
 have H3 := Lib.hid ha3
 obtain ⟨A4, c4, rfl, hc4, _⟩ := ha3
 obtain ⟨R, hRR⟩ : ∃ R, R = zbv p fs f := ⟨_, rfl⟩
 obtain ⟨RS, hRS⟩ : ∃ RS, RS = zF p fs := ⟨_, rfl⟩
 have HRR := Lib.hid (show R = zdb f RS 0 by rw [hRR, hRS]; rfl)
 have HFW := Lib.hid (show RS.length <= 2001 /\ ∀ F ∈ RS, szF F <= 1048576 from by
  rw [hRS]
  refine ⟨?_, fun F hF => (zhH p fs).2 F hF⟩
  unfold zF
  split
  ·have h4 : zd9 p.2 (zG fs) <= 2000 := zeA p.2 (zG fs) 2000 0
   simp [zad]
   omega
  ·simp)
 have HRS := Lib.hid hRS
 rw [<- hRR]
 clear hRR hRS
 go_enter Tryz.func23, Tryz.ntmps23
 go_upto_region 1 with fail
 obtain ⟨w1, hw1⟩ : ∃ w1, w1 = w.alloc (Obj.cells #[Value.slice A p.1.length c, Value.slice A2 p.2.length c2] 26) := ⟨_, rfl⟩
 have X1 : Blk w1 w.heap.size 26 #[.slice A p.1.length c, .slice A2 p.2.length c2] := by rw [hw1]; exact Blk.new _ _ _
 have B1 : Below w.heap.size w w1 := by rw [hw1]; exact ze _ _
 have hs1 : w1.heap.size = w.heap.size + 1 := by rw [hw1]; simp
 rw [<- hw1]
 clear hw1
 obtain ⟨w2, hw2⟩ : ∃ w2, w2 = w1.alloc (Obj.cells #[Value.int IntKind.i64 f.1, Value.slice A4 f.2.length c4] 39) := ⟨_, rfl⟩
 have Y2 : Blk w2 (w.heap.size + 1) 39 #[.int .i64 f.1, .slice A4 f.2.length c4] := by rw [hw2, <- hs1]; exact Blk.new _ _ _
 have b2 : Below w1.heap.size w1 w2 := by rw [hw2]; exact ze _ _
 rw [<- hw2]
 clear hw2
 have X2 := X1.below b2 X1.lt
 have B2 := zf B1 b2
 have x0 : w2.cell? ⟨w.heap.size, 0, none⟩ = some (.slice A p.1.length c) := X2.cell 0
 have x1 : w2.cell? ⟨w.heap.size, 1, none⟩ = some (.slice A2 p.2.length c2) := X2.cell 1
 have CG := Lib.hid (zfi _ _ p fs w2 (HP.out.on B2) (H2.out.on B2) hs hn ht)
 rw [<- HRS.out] at CG
 have HY2 := Lib.hid Y2
 have HB2 := Lib.hid B2
 clear X1 X2 Y2 B1 B2 b2 hs1
 go_upto_region 2 with (go_at_call 21; refine CG.out.mono ?_; rintro e w3 ⟨A5, c5, rfl, o5, b3⟩; have HO := Lib.hid (And.intro o5 b3); clear o5 b3)
 clear x0 x1
 have HB3 := Lib.hid (zf HB2.out HO.out.2)
 have HY3 := Lib.hid (HY2.out.below HO.out.2 HY2.out.lt)
 have hn5 : RS.length <= 2001 := HFW.out.1
 go_wp2_with fail
 go_loopw [8] (fun i wr => ∃ k : Nat, k <= RS.length /\ i = .int .i64 k /\ (∀ j (hj : j < RS.length), j < k -> f ∉ RS[j]) /\ Below w3.heap.size w3 wr) (fun i _ => RS.length - (intOf i).toNat)
 case atStart => exact ⟨0, Nat.zero_le _, rfl, fun j _ h => absurd h (by omega), Below.refl _ _⟩
 case round =>
  obtain ⟨k, hk, rfl, hs2, hbe⟩ := hrel
  by_cases hlt : k < RS.length
  ·obtain ⟨hv, P, Q, hff⟩ := HO.out.1.below hbe (Nat.le_refl _)
   obtain ⟨gr, A6, c6, rfl, hgr, hlo, k0, o0, _, _⟩ := hff.get hlt
   have HR0 := Lib.hid o0.rdS
   have Y4 := HY3.out.below hbe HY3.out.lt
   have HYR := Lib.hid Y4
   have HS2 := Lib.hid hs2
   have HBE := Lib.hid hbe
   have hfl := HFW.out.2 _ (List.getElem_mem hlt)
   obtain ⟨F, hFe⟩ : ∃ F, F = RS[k] := ⟨_, rfl⟩
   rw [<- hFe] at k0 HR0 hfl
   have HFE := Lib.hid hFe
   unfold szF at hfl
   clear hff o0 hs2 hbe Y4 hFe
   go_upto_region 5 with fail
   obtain ⟨wo, rfl⟩ : ∃ wo, wo = wr := ⟨_, rfl⟩
   obtain ⟨SS, hSS⟩ : ∃ SS : World -> Prop, SS = (fun W => W.cell? ⟨gr, k, none⟩ = some (.slice A6 F.length c6) /\ W.cell? ⟨w.heap.size + 1, 0, none⟩ = some (.int .i64 f.1) /\ W.cell? ⟨w.heap.size + 1, 1, none⟩ = some (.slice A4 f.2.length c4)) := ⟨_, rfl⟩
   have HB := Lib.hid (show ∀ W, SS W -> (W.cell? ⟨gr, k, none⟩ = some (.slice A6 F.length c6) /\ W.cell? ⟨w.heap.size + 1, 0, none⟩ = some (.int .i64 f.1) /\ W.cell? ⟨w.heap.size + 1, 1, none⟩ = some (.slice A4 f.2.length c4)) from by rw [hSS]; exact fun W hW => hW)
   have SB : SS wo.drew := by
    rw [hSS]
    exact ⟨k0, HYR.out.cell 0, HYR.out.cell 1⟩
   have BB : Below wo.heap.size wo wo.drew := (Below.refl _ _).drew
   have HBB := Lib.hid (zf HBE.out BB)
   have CH := Lib.hid (zey (.slice A6 F.length c6) (.agg #[.int .i64 f.1, .slice A4 f.2.length c4]) F f wo.drew (HR0.out.on BB) ⟨_, rfl, H3.out.on (HB3.out.trans (HBB.out.mono HB3.out.size))⟩ (by omega) (by omega) hf)
   rw [zbe] at CH
   have hki : (k : Int) < (RS.length : Int) := by omega
   clear hSS k0
   by_cases hm : f ∈ F
   ·rw [decide_eq_true hm] at CH
    have HM := Lib.hid hm
    clear hm
    refine zB SS 5 6 (by kernel_rfl) rfl ?_
    refine za (i := 0) (oi := _) ?va0 rfl rfl (by kernel_rfl) (by decide) (fun _ _ _ h => h) rfl ?hya0 (fun _ => SB) ?resta0
    case hya0 => (intro W; go_simp; (try with_reducible rfl))
    try simp only [zs.a, zs.b, zs.c]
    refine za (i := 1) (oi := _) ?va1 rfl rfl (by kernel_rfl) (by decide) (fun _ _ _ h => h) rfl ?hya1 (fun _ => SB) ?resta1
    case hya1 => (intro W; go_simp; (try with_reducible rfl))
    try simp only [zs.a, zs.b, zs.c]
    refine za (i := 2) (oi := _) ?va2 rfl rfl (by kernel_rfl) (by decide) (fun _ _ _ h => h) rfl ?hya2 (fun _ => SB) ?resta2
    case hya2 => (intro W; go_simp; (try with_reducible rfl))
    try simp only [zs.a, zs.b, zs.c]
    refine zm (i := 3) (oi := _) ?va3 rfl rfl (by kernel_rfl) (fun _ _ _ h => h) rfl ?hya3 SB ?resta3
    case hya3 => (intro W hW; obtain ⟨E0, _, _⟩ := HB.out W hW; go_simp; (try with_reducible rfl))
    try simp only [zs.a, zs.b, zs.c]
    refine zm (i := 4) (oi := _) ?va4 rfl rfl (by kernel_rfl) (fun _ _ _ h => h) rfl ?hya4 SB ?resta4
    case hya4 => (intro W hW; obtain ⟨_, E0, E1⟩ := HB.out W hW; go_simp; (try with_reducible rfl))
    try simp only [zs.a, zs.b, zs.c]
    refine zh (i := 5) (by kernel_rfl) rfl (fun K hK => ?_)
    try rw [if_pos (show Region.wanted _ _ = true from rfl)]
    go_simp
    refine CH.out.mono ?_
    rintro e6 w6 ⟨rfl, b6⟩
    have H6 := Lib.hid b6
    clear b6
    refine hK.out _ _ (fun hf => absurd hf (by decide)) ?_
    clear hK K
    try simp only [zs.a, zs.b, zs.c, Act.put]
    refine zL (by kernel_rfl) ?_
    go_wp2_with fail
    go_ret
    refine ⟨zT ?_, HB3.out.trans ((zf HBB.out H6.out).mono HB3.out.size)⟩
    rw [HRR.out, zgb (r := k) hlt (by rw [<- HFE.out]; exact HM.out) fun i hi hik => HS2.out i hi hik]
    simp
   ·rw [decide_eq_false hm] at CH
    have HM := Lib.hid hm
    clear hm
    refine zB SS 5 6 (by kernel_rfl) rfl ?_
    refine za (i := 0) (oi := _) ?vb0 rfl rfl (by kernel_rfl) (by decide) (fun _ _ _ h => h) rfl ?hyb0 (fun _ => SB) ?restb0
    case hyb0 => (intro W; go_simp; (try with_reducible rfl))
    try simp only [zs.a, zs.b, zs.c]
    refine za (i := 1) (oi := _) ?vb1 rfl rfl (by kernel_rfl) (by decide) (fun _ _ _ h => h) rfl ?hyb1 (fun _ => SB) ?restb1
    case hyb1 => (intro W; go_simp; (try with_reducible rfl))
    try simp only [zs.a, zs.b, zs.c]
    refine za (i := 2) (oi := _) ?vb2 rfl rfl (by kernel_rfl) (by decide) (fun _ _ _ h => h) rfl ?hyb2 (fun _ => SB) ?restb2
    case hyb2 => (intro W; go_simp; (try with_reducible rfl))
    try simp only [zs.a, zs.b, zs.c]
    refine zm (i := 3) (oi := _) ?vb3 rfl rfl (by kernel_rfl) (fun _ _ _ h => h) rfl ?hyb3 SB ?restb3
    case hyb3 => (intro W hW; obtain ⟨E0, _, _⟩ := HB.out W hW; go_simp; (try with_reducible rfl))
    try simp only [zs.a, zs.b, zs.c]
    refine zm (i := 4) (oi := _) ?vb4 rfl rfl (by kernel_rfl) (fun _ _ _ h => h) rfl ?hyb4 SB ?restb4
    case hyb4 => (intro W hW; obtain ⟨_, E0, E1⟩ := HB.out W hW; go_simp; (try with_reducible rfl))
    try simp only [zs.a, zs.b, zs.c]
    refine zh (i := 5) (by kernel_rfl) rfl (fun K hK => ?_)
    try rw [if_pos (show Region.wanted _ _ = true from rfl)]
    go_simp
    refine CH.out.mono ?_
    rintro e6 w6 ⟨rfl, b6⟩
    have H6 := Lib.hid b6
    clear b6
    refine hK.out _ _ (fun hf => absurd hf (by decide)) ?_
    clear hK K
    try simp only [zs.a, zs.b, zs.c, Act.put]
    refine zL (by kernel_rfl) ?_
    clear SB HB
    go_wp2_with fail
    go_roundw
    case rel => exact ⟨k + 1, by omega, by go_num, fun j hj hjk => by
     by_cases e : j = k
     ·subst e
      rw [<- HFE.out]
      exact HM.out
     ·exact HS2.out j hj (by omega), zf HBB.out H6.out⟩
    case measure => simp [intOf]; omega
  ·have HBE := Lib.hid hbe
   have HNO := Lib.hid (show ∀ F ∈ RS, f ∉ F from fun F hF => by
    obtain ⟨j, hj, rfl⟩ := List.getElem_of_mem hF
    exact hs2 j hj (by omega))
   clear hs2 hbe
   go_wp2_with fail
   go_ret
   exact ⟨zT (by rw [HRR.out, zdy HNO.out]), HB3.out.trans (HBE.out.mono HB3.out.size)⟩
open Go.RowKit
theorem znF (p : zal) (fs : List zd) : (zfC p fs).length <= 1536 /\ tot (zfC p fs) <= 3072 := by
 unfold zfC
 cases h : (zaW p && zat p.1 fs)
 ·simp [tot]
 ·rw [Bool.and_eq_true] at h
  obtain ⟨har, _, hfit⟩ := zf4 h.1
  rw [if_pos rfl]
  exact zeY fs har hfit
open Go.RowKit Go.Sort
theorem zmM {w0 : World} {g c : Nat} {fs : List zd} {av : List Value} (hrow : za1 w0 g c fs av) (hrd : zay w0 g av fs) (hl : ∀ k (hk : k < fs.length), fs[k].2.length <= 1048576) {i j : Nat} (hi : i < fs.length) (hj : j < fs.length)
 (hi' : i < av.length) (hj' : j < av.length) (x : zbG w0) :
 Calls Tryz.prog 87 #[.agg #[.int .i64 fs[i].1, av[i]], .agg #[.int .i64 fs[j].1, av[j]]] x.val fun e w' => e = .returned (.bool (decide (fs[i] = fs[j]))) /\ Below x.val.heap.size x.val w' := by
 have hg := Nat.le_of_lt hrow.lt
 have h1 := ((hrd.2 i hi hi' hi).more hg).on x.2
 have h2 := ((hrd.2 j hj hj' hj).more hg).on x.2
 refine (zfX _ _ fs[i] fs[j] x.val ⟨_, rfl, h1⟩ ⟨_, rfl, h2⟩ (hl i hi) (hl j hj)).mono fun e w' ⟨he, hG⟩ => ⟨by rw [he, znY], hG.below⟩
theorem za1.cells {w : World} {g c : Nat} {fs : List zd} {av : List Value} (h : za1 w g c fs av) (hl : av.length = fs.length) {k : Nat} (hk : k < fs.length) (hk' : k < av.length) :
 w.cell? ⟨g, k * 2, none⟩ = some (.int .i64 fs[k].1) /\ w.cell? ⟨g, k * 2 + 1, none⟩ = some av[k] := by
 obtain ⟨c0, c1⟩ := zcM fs av hl k hk hk'
 exact ⟨by rw [h.cell (by omega), c0], by rw [h.cell (by omega), c1]⟩
set_option maxHeartbeats 4000000 in
theorem zkB (g c : Nat) (fs : List zd) (av : List Value) (w : World) (hrow : za1 w g c fs av) (hrd : zay w g av fs) (hn : fs.length <= 4194304) (hl : ∀ k (hk : k < fs.length), fs[k].2.length <= 1048576) :
 Calls Tryz.prog 86 #[.slice (some ⟨g, 0, none⟩) fs.length c, .func (.func 87) #[] #[]] w fun e w' =>
  ∃ av', e = .returned (.slice (some ⟨g, 0, none⟩) (zI fs).length c) /\ za1 w' g c (zI fs) av' /\ zay w' g av' (zI fs) /\ zl g (g + 1) w w' := by
 have hlc := hrow.len
 have hcm : c <= maxLen := by obtain ⟨_, _, _, h, _⟩ := hrow; exact h
 have hcm2 : c <= 9223372036854775807 := by unfold maxLen at hcm; omega
 by_cases h2 : fs.length < 2
 ·have HE := Lib.hid (show zI fs = fs by
   match fs, h2 with
   | [], _ => rfl
   | [f], _ => rfl)
  have h2I : (fs.length : Int) < 2 := by omega
  have HR := Lib.hid (And.intro hrow hrd)
  clear hrow hrd h2
  go_enter Tryz.func86, Tryz.ntmps86
  go_wp2_with (fail)
  go_ret
  rw [HE.out]
  exact ⟨av, rfl, HR.out.1, HR.out.2, zl.refl _ _ _⟩
 ·have h2I : ¬ (fs.length : Int) < 2 := by omega
  have hg := hrow.lt
  have hav := hrd.1
  have HR := Lib.hid (And.intro hrow hrd)
  have HAV := Lib.hid hav
  clear hrow hrd h2 hav
  go_enter Tryz.func86, Tryz.ntmps86
  go_wp2_with (fail)
  go_loopw [5] (fun i wr => ∃ j : Nat, j + 1 <= fs.length /\ i = .int .i64 ((j + 1 : Nat) : Int) /\ zI (fs.take (j + 1)) = fs.take (j + 1) /\ Below w.heap.size w wr) (fun i _ => fs.length - (intOf i).toNat)
  case atStart => exact ⟨0, by omega, rfl, by
   rw [zH fs 0 (by omega)]
   rfl, Below.refl _ _⟩
  case round =>
   obtain ⟨j, hj, rfl, hcp, hbe⟩ := hrel
   have hrow := HR.out.1.below hbe hg
   have hrd := HR.out.2.below hbe (Nat.le_of_lt hg)
   by_cases hlt : j + 1 < fs.length
   ·have hj1 : j < fs.length := by omega
    have hja : j < av.length := by have := HAV.out; omega
    have hja1 : j + 1 < av.length := by have := HAV.out; omega
    obtain ⟨a0, a1⟩ := hrow.cells HAV.out hlt hja1
    obtain ⟨b0, b1⟩ := hrow.cells HAV.out hj1 hja
    have A0 := zx a0
    have A1 := zx a1
    have B0 := zx b0
    have B1 := zx b1
    have CS := Lib.hid (zmM hrow hrd hl hlt hj1 hja1 hja)
    have HC := Lib.hid hcp
    have HST := Lib.hid (zgZ hlt)
    have HRR := Lib.hid (And.intro hrow hrd)
    obtain ⟨va, hva⟩ : ∃ va, va = av[j + 1] := ⟨_, rfl⟩
    obtain ⟨vb, hvb⟩ : ∃ vb, vb = av[j] := ⟨_, rfl⟩
    rw [<- hva] at A1 CS
    rw [<- hvb] at B1 CS
    obtain ⟨Aa, ca, hfa, _⟩ := hrd.2 (j + 1) hlt hja1 hlt
    obtain ⟨Ab, cb, hfb, _⟩ := hrd.2 j hj1 hja hj1
    rw [<- hva] at hfa
    rw [<- hvb] at hfb
    subst hfa hfb
    clear hcp hrow hrd a0 a1 b0 b1 hva hvb
    by_cases he : fs[j + 1] = fs[j]
    ·-- the first two that are the same
     have hd : decide (fs[j + 1] = fs[j]) = true := decide_eq_true he
     rw [hd] at CS
     have HE := Lib.hid he
     clear he hd
     go_wp2_with (fail)
     refine zD (by kernel_rfl) (by kernel_rfl) ?_
     repeat (go_big_quiet_step ((go_at_call 87; exact zaq (CS.out _))))
     refine wpQuiet_nil ?_
     rintro _ ⟨xq, rfl⟩
     go_wp2_with (fail)
     have HLN := Lib.hid (show zI (fs.take (j + 1 + 1)) = fs.take (j + 1) by
      rw [show j + 1 + 1 = j + 2 from rfl, HST.out, if_pos HE.out.symm, HC.out])
     have HAll := Lib.hid (show ∀ f ∈ fs, f.2.length <= 1048576 from fun f hf => by
      obtain ⟨q, hq, rfl⟩ := List.getElem_of_mem hf
      exact hl q hq)
     clear A0 A1 B0 B1
     go_loopw [5, 7] (fun m k wr => ∃ (i m' : Nat) (fw : List zd) (aw : List Value), i + 1 <= fs.length - (j + 1) /\ k = .int .i64 ((i + 1 : Nat) : Int) /\ m = .int .i64 (m' : Nat) /\ m' <= j + 1 + i /\ fw.length = fs.length /\ fw.take m' = zI (fs.take (j + 1 + i + 1)) /\ m' = (zI (fs.take (j + 1 + i + 1))).length /\ fw.drop (j + 1 + i) = fs.drop (j + 1 + i) /\
      (∀ f ∈ fw, f.2.length <= 1048576) /\ za1 wr g c fw aw /\ zay wr g aw fw /\ zl g (g + 1) w wr) (fun _ k _ => fs.length - (intOf k).toNat)
     case atStart =>
      exact ⟨0, j + 1, fs, av, by omega, rfl, rfl, by omega, rfl, HLN.out.symm, by rw [HLN.out, List.length_take]; omega, rfl, HAll.out, HRR.out.1.keep (xq.2.block g (Nat.lt_of_lt_of_le hg hbe.size)), HRR.out.2.below xq.2 (Nat.le_trans (Nat.le_of_lt hg) hbe.size), (zl.of_below hbe).trans (zl.of_below xq.2)⟩
     case round =>
      obtain ⟨i, m, fw, aw, hi, rfl, rfl, hm, hfl, htk, hml, hdr, hal, hrow, hrd, hon⟩ := hrel
      have hgr := hrow.lt
      have haw := hrd.1
      by_cases hlt2 : i + 1 < fs.length - (j + 1)
      ·have hq1 : j + 1 + i + 1 < fs.length := by omega
       have hq0 : j + 1 + i < fs.length := by omega
       have hq1f : j + 1 + i + 1 < fw.length := by omega
       have hq0f : j + 1 + i < fw.length := by omega
       have hq1a : j + 1 + i + 1 < aw.length := by omega
       have hq0a : j + 1 + i < aw.length := by omega
       have hma : m < aw.length := by omega
       have hmf : m < fw.length := by omega
       have e0 : fw[j + 1 + i] = fs[j + 1 + i] := by
        have h1 := congrArg (fun l => l[0]?) hdr
        simpa [hq0, hq0f] using h1
       have e1 : fw[j + 1 + i + 1] = fs[j + 1 + i + 1] := by
        have h1 := congrArg (fun l => l[1]?) hdr
        simpa [hq1, hq1f] using h1
       obtain ⟨a0, a1⟩ := hrow.cells haw hq1f hq1a
       obtain ⟨b0, b1⟩ := hrow.cells haw hq0f hq0a
       obtain ⟨d0, d1⟩ := hrow.cells haw hmf hma
       rw [show (j + 1 + i + 1) * 2 = (j + 1) * 2 + (i + 1) * 2 by omega] at a0 a1
       rw [show (j + 1 + i) * 2 = (j + 1) * 2 + i * 2 by omega] at b0 b1
       have CS2 := Lib.hid (zmM hrow hrd (fun k hk => hal _ (List.getElem_mem hk)) hq1f hq0f hq1a hq0a)
       have HST2 := Lib.hid (zgZ hq1)
       obtain ⟨va, hva⟩ : ∃ va, va = aw[j + 1 + i + 1] := ⟨_, rfl⟩
       obtain ⟨vb, hvb⟩ : ∃ vb, vb = aw[j + 1 + i] := ⟨_, rfl⟩
       obtain ⟨Aa, ca, hfa, hfx⟩ := hrd.2 (j + 1 + i + 1) hq1f hq1a hq1f
       obtain ⟨Ab, cb, hfb, _⟩ := hrd.2 (j + 1 + i) hq0f hq0a hq0f
       have RA := hrd.2 (j + 1 + i + 1) hq1f hq1a hq1f
       rw [<- hva] at a1 CS2 hfa RA
       rw [<- hvb] at b1 CS2 hfb
       subst hfa hfb
       rw [e1] at a0 a1 CS2 RA
       rw [e0] at b0 b1 CS2
       have A0 := zx a0
       have A1 := zx a1
       have B0 := zx b0
       have B1 := zx b1
       have HQ := Lib.hid (And.intro hrow (And.intro hrd (And.intro hon (And.intro htk (And.intro hml (And.intro hdr RA))))))
       have HAL := Lib.hid hal
       have HF := Lib.hid (And.intro hfl haw)
       clear hva hvb a0 a1 b0 b1 e0 e1 hrow hrd hon htk hml hdr RA hal hfx
       by_cases he2 : fs[j + 1 + i + 1] = fs[j + 1 + i]
       ·have hd2 : decide (fs[j + 1 + i + 1] = fs[j + 1 + i]) = true := decide_eq_true he2
        rw [hd2] at CS2
        have HN := Lib.hid (show zI (fs.take (j + 1 + (i + 1) + 1)) = zI (fs.take (j + 1 + i + 1)) by
         rw [show j + 1 + (i + 1) + 1 = j + 1 + i + 2 by omega, HST2.out, if_pos he2.symm])
        clear he2 hd2 d0 d1
        go_wp2_with (fail)
        refine zD (by kernel_rfl) (by kernel_rfl) ?_
        repeat (go_big_quiet_step ((go_at_call 87; exact zaq (CS2.out _))))
        refine wpQuiet_nil ?_
        rintro _ ⟨xr, rfl⟩
        go_wp2_with (fail)
        go_roundw
        case rel =>
         obtain ⟨h1, h2, h3, h4, h5, h6, h7⟩ := HQ.out
         refine ⟨i + 1, m, fw, aw, by omega, by go_num, rfl, by omega, HF.out.1, by rw [HN.out]; exact h4, by rw [HN.out]; exact h5, ?_, HAL.out, h1.keep (xr.2.block g hgr), h2.below xr.2 (Nat.le_of_lt hgr), h3.trans (zl.of_below xr.2)⟩
         have := congrArg (List.drop 1) h6
         rwa [List.drop_drop, List.drop_drop] at this
        case measure => simp [intOf]; omega
       ·have hd2 : decide (fs[j + 1 + i + 1] = fs[j + 1 + i]) = false := decide_eq_false he2
        rw [hd2] at CS2
        have HN := Lib.hid (show zI (fs.take (j + 1 + (i + 1) + 1)) = zI (fs.take (j + 1 + i + 1)) ++ [fs[j + 1 + i + 1]] by
         rw [show j + 1 + (i + 1) + 1 = j + 1 + i + 2 by omega, HST2.out, if_neg (fun e => he2 e.symm)])
        clear he2 hd2
        go_wp2_with (fail)
        refine zD (by kernel_rfl) (by kernel_rfl) ?_
        repeat (go_big_quiet_step ((go_at_call 87; exact zaq (CS2.out _))))
        refine wpQuiet_nil ?_
        rintro _ ⟨xr, rfl⟩
        have D0 := zx d0 xr
        have D1 := zx d1 xr
        have hrx := HQ.out.1.keep (xr.2.block g hgr)
        have F0 := hrx.frozen (m * 2)
        have F1 := hrx.frozen (m * 2 + 1)
        have hset := hrx.set HF.out.2 hmf fs[j + 1 + i + 1] (.slice Aa fs[j + 1 + i + 1].2.length ca)
        have HSET := Lib.hid hset
        have hbx := xr.2
        obtain ⟨Vd, hVd⟩ : ∃ Vd, Vd = aw[m] := ⟨_, rfl⟩
        rw [<- hVd] at D1
        clear hset hrx d0 d1 hVd
        go_wp2_with (fail)
        go_roundw
        case rel =>
         obtain ⟨h1, h2, h3, h4, h5, h6, h7⟩ := HQ.out
         have o1 : zl g (g + 1) xr.val ((xr.val.setCell ⟨g, m * 2, none⟩ (.int .i64 fs[j + 1 + i + 1].1)).setCell ⟨g, m * 2 + 1, none⟩ (.slice Aa fs[j + 1 + i + 1].2.length ca)) :=
          zl.setCell (p := ⟨g, m * 2 + 1, none⟩) (zl.setCell (p := ⟨g, m * 2, none⟩) (zl.refl g (g + 1) xr.val) ⟨Nat.le_refl g, Nat.lt_succ_self g⟩ _) ⟨Nat.le_refl g, Nat.lt_succ_self g⟩ _
         have o2 := (h3.trans (zl.of_below xr.2)).trans o1
         refine ⟨i + 1, m + 1, fw.set m fs[j + 1 + i + 1], aw.set m (.slice Aa fs[j + 1 + i + 1].2.length ca), by omega, by go_num, by go_num, by omega, by rw [List.length_set]; exact HF.out.1, ?_, ?_, ?_, ?_, HSET.out, ?_, o2⟩
         ·rw [HN.out, <- h4, List.take_set, zH fw m hmf, List.set_append_right _ _ (by simp; omega)]
          simp [Nat.min_eq_left (Nat.le_of_lt hmf)]
         ·rw [HN.out, List.length_append, <- h5]
          rfl
         ·rw [List.drop_set_of_lt (by omega)]
          have := congrArg (List.drop 1) h6
          rwa [List.drop_drop, List.drop_drop] at this
         ·intro f hf
          rcases List.mem_or_eq_of_mem_set hf with hf | rfl
          ·exact HAL.out f hf
          ·exact hl _ hq1
         ·have hbw : Below g wr ((xr.val.setCell ⟨g, m * 2, none⟩ (.int .i64 fs[j + 1 + i + 1].1)).setCell ⟨g, m * 2 + 1, none⟩ (.slice Aa fs[j + 1 + i + 1].2.length ca)) := ((zl.of_below xr.2).trans o1).below (Nat.le_refl _) (Nat.le_of_lt hgr)
          have h2b := h2.below hbw (Nat.le_refl _)
          refine ⟨by simp [h2.1], fun q q1 q2 q3 => ?_⟩
          by_cases eq : m = q
          ·subst eq
           simpa using h7.below hbw (Nat.le_refl _)
          ·have := h2b.2 q (by simpa using q1) (by simpa using q2) (by simpa using q3)
           simpa [List.getElem_set_ne eq] using this
        case measure => simp [intOf]; omega
      ·have hn1 : j + 1 + i + 1 = fs.length := by omega
       have hmn : m < fw.length := by omega
       obtain ⟨WC, hcl, hoc, hac⟩ := zh7 hrow hmn (c - m)
       rw [hfl] at hcl
       have HX := Lib.hid (show fw.take m = zI fs /\ m = (zI fs).length by
        rw [hn1, List.take_length] at htk hml
        exact ⟨htk, hml⟩)
       have HQ := Lib.hid (And.intro (hac haw) (And.intro hrd (And.intro (hon.trans hoc) (hoc.below (Nat.le_refl _) (Nat.le_of_lt hgr)))))
       have hmn2 : m <= fs.length := by omega
       have hmc : m <= c := by omega
       clear hrow hrd hon htk hml hdr hal hoc hac
       go_wp2_with (simp only [hcl])
       go_ret
       obtain ⟨h1, h2, h3, h4⟩ := HQ.out
       rw [<- HX.out.1] at *
       refine ⟨aw.take m, ?_, h1, ?_, h3⟩
       ·congr 2
        simp
        omega
       ·have h2b := h2.below h4 (Nat.le_refl _)
        refine ⟨by simp [h2.1], fun q q1 q2 q3 => ?_⟩
        simp at q1 q2 q3
        have := h2b.2 q (by omega) (by omega) (by omega)
        simpa using this
    ·have hd : decide (fs[j + 1] = fs[j]) = false := decide_eq_false he
     rw [hd] at CS
     have HN := Lib.hid (show zI (fs.take (j + 1 + 1)) = fs.take (j + 1 + 1) by
      rw [show j + 1 + 1 = j + 2 from rfl, HST.out, if_neg (fun e => he e.symm), HC.out, <- zH fs (j + 1) hlt])
     clear he hd
     go_wp2_with (fail)
     refine zD (by kernel_rfl) (by kernel_rfl) ?_
     repeat (go_big_quiet_step ((go_at_call 87; exact zaq (CS.out _))))
     refine wpQuiet_nil ?_
     rintro _ ⟨xq, rfl⟩
     go_wp2_with (fail)
     go_roundw
     case rel => exact ⟨j + 1, by omega, by go_num, HN.out, zf hbe xq.2⟩
     case measure => simp [intOf]; omega
   ·have HE := Lib.hid (show zI fs = fs by
     have e : fs.take (j + 1) = fs := by rw [show j + 1 = fs.length by omega, List.take_length]
     rw [e] at hcp
     exact hcp)
    have HRR := Lib.hid (And.intro hrow hrd)
    clear hcp hrow hrd
    go_wp2_with (fail)
    go_ret
    rw [HE.out]
    exact ⟨av, rfl, HRR.out.1, HRR.out.2, zl.of_below hbe⟩
open Go.RowKit
set_option maxHeartbeats 400000 in
theorem zjw (v : Value) (fs : List zd) (w : World) (h : zu w w.heap.size v fs) (hl : fs.length <= 4194304) (hn : tot fs <= 1048576) :
 Calls Tryz.prog 47 #[v] w fun e w' => ∃ A' c', e = .returned (.slice A' fs.length c') /\ zq w' w.heap.size w'.heap.size (.slice A' fs.length c') fs /\ Below w.heap.size w w' := by
 obtain ⟨i0, hi0, hz0, hz1, hz2⟩ := info_parts Tryz.infoFact
 have hmk := fun W => zby (P := Tryz.prog) 27 39 i0 (.agg #[.int .i64 0, .slice none 0 0]) Tryz.underlying27 hi0 hz0 .i64 .i64 fs.length fs.length (Nat.le_refl _) (by rw [hz2]; omega) (by omega) W
 rw [hz1] at hmk
 simp only [Value.cells] at hmk
 have H := Lib.hid h
 obtain ⟨A, c, rfl, hc, _⟩ := h
 go_enter Tryz.func47, Tryz.ntmps47
 go_wp2_with (fail)
 go_loopw [4, 5, 11] (fun _ _ i wr => ∃ (k : Nat) (av : List Value), k <= fs.length /\ i = .int .i64 k /\ ze8 w wr fs k av) (fun _ _ i _ => fs.length - (intOf i).toNat)
 case atStart => exact ⟨0, [], Nat.zero_le _, rfl, ze8.start w fs⟩
 case round =>
  obtain ⟨k, av, hk, rfl, hr⟩ := hrel
  by_cases hlt : k < fs.length
  ·obtain ⟨b, o, A3, c3, rfl, hbB, k1, k2, k3⟩ := (H.out.on hr.below).get hlt
   have K3 := Lib.hid (show zU wr wr.heap.size (.agg #[.int .i64 fs[k].1, .slice A3 fs[k].2.length c3]) fs[k] from ⟨_, rfl, k3⟩)
   have hln := zaz fs k hlt
   clear k3
   go_wp2_with (fail)
   refine (zky _ fs[k] _ (K3.out.on (ze _ _)) (by omega)).mono ?_
   rintro e w4 ⟨A4, c4, rfl, ho4, hb4⟩
   have hb5 := zf (ze _ _) hb4
   have ho5 : zg w4 wr.heap.size w4.heap.size _ _ := ho4.mono (by simp) (Nat.le_refl _)
   obtain ⟨r1, r2, r3, r4⟩ := hr.room hlt hb5
   have hstep := hr.step hlt hb5 ho5
   clear ho4 ho5 hb4
   go_wp2_with (fail)
   go_roundw
   case rel => exact ⟨k + 1, _, by omega, by go_num, hstep⟩
   case measure => simp [intOf]; omega
  ·have hkn : k = fs.length := by omega
   have HO := Lib.hid (show zq wr w.heap.size wr.heap.size (.slice (some ⟨w.heap.size, 0, none⟩) fs.length fs.length) fs from ze8.done (by rw [<- hkn]; exact hr) (by unfold maxLen; omega))
   have hbe := hr.below
   clear hkn hr
   go_wp2_with (fail)
   go_ret
   exact ⟨_, _, rfl, HO.out, hbe⟩
open Go.RowKit Go.Sort
theorem zi7 (w : World) :
 Calls Tryz.prog 86 #[.slice none 0 0, .func (.func 87) #[] #[]] w fun e w' => e = .returned (.slice none 0 0) /\ w = w' := by
 go_enter Tryz.func86, Tryz.ntmps86
 go_wp2_with (fail)
 go_ret
 exact ⟨rfl, rfl⟩
theorem zoK {fs : List zd} {n : Nat} (h : tot fs <= n) : ∀ k (hk : k < fs.length), fs[k].2.length <= n := fun k hk => Nat.le_trans (zaz fs k hk) h
set_option maxHeartbeats 1000000 in
theorem zly (v : Value) (fs : List zd) (w : World) (h : zu w w.heap.size v fs) (hn : fs.length <= 2097152) (ht : tot fs <= 1048576) :
 Calls Tryz.prog 48 #[v] w fun e w' => ∃ A' c', e = .returned (.slice A' (zG fs).length c') /\ zu w' w'.heap.size (.slice A' (zG fs).length c') (zG fs) /\ Below w.heap.size w w' := by
 obtain ⟨A, c, av, rfl, ha, hc⟩ := h.heads
 have HA := Lib.hid (And.intro ha hc)
 clear h ha hc
 go_enter Tryz.func48, Tryz.ntmps48
 go_wp2_with (fail)
 refine (zot A c fs av w HA.out.1 HA.out.2 (by omega)).mono ?_
 rintro e w1 ⟨A1, c1, rfl, hrow, hb1⟩
 rcases hrow.row.2 with ⟨e1, h0⟩ | ⟨g, cap, cur, e1, hbg, hgg, r1, r2, r3, r4⟩
 ·injection e1 with e1 _ e3
  subst e1
  subst e3
  have hfs : fs = [] := List.eq_nil_of_length_eq_zero h0
  subst hfs
  have HS := Lib.hid (show zG [] = [] from rfl)
  have hs := AnyF.slices_SortFunc_none Tryz.sortFact none 0 (.func (.func 32) #[] #[]) w1
  clear hrow h0
  go_wp2_with (fail)
  refine Calls.mono hs ?_
  rintro e w2 ⟨rfl, rfl⟩
  go_wp2_with (fail)
  refine (zi7 _).mono ?_
  rintro e w2 ⟨rfl, rfl⟩
  go_wp2_with (fail)
  go_ret
  rw [HS.out]
  exact ⟨none, 0, rfl, ⟨none, 0, rfl, by simp, fun h => absurd h (by simp)⟩, hb1⟩
 ·injection e1 with e1 _ e3
  subst e1
  subst e3
  have hat : za1 w1 g c1 fs av := ⟨cur, hgg, r1, r2, r3, r4⟩
  have hrd : zay w1 g av fs := ((HA.out.1.below hb1 (Nat.le_refl _)).more hbg)
  have hlen := zoK ht
  have hs := zm7 g c1 fs av w1 hat hrd (by omega) hlen
  clear hrow hat hgg r1 r2 r3 r4
  go_wp2_with (fail)
  refine hs.mono ?_
  rintro e w2 ⟨rfl, fs', av', hp, hup, hat2, hrd2, ho2⟩
  have hl2 : ∀ k (hk : k < fs'.length), fs'[k].2.length <= 1048576 := fun k hk => by
   obtain ⟨q, hq, e⟩ := List.getElem_of_mem (hp.mem_iff.1 (List.getElem_mem hk))
   rw [<- e]
   exact hlen q hq
  have hk := zkB g c1 fs' av' w2 hat2 hrd2 (by rw [hp.length_eq]; omega) hl2
  have HC := Lib.hid (show zI fs' = zG fs from zjx hup fun x => hp.mem_iff)
  rw [show fs.length = fs'.length from hp.length_eq.symm]
  have HB2 := Lib.hid (show Below w.heap.size w w2 from zl.then_ hb1 ho2 hbg)
  have hg1 := hat2.lt
  clear hs hp hup hat2 hrd2 hl2 hlen hrd
  go_wp2_with (fail)
  refine hk.mono ?_
  rw [HC.out]
  rintro e w3 ⟨av3, rfl, hat3, hrd3, ho3⟩
  have HR := Lib.hid (show zu w3 w3.heap.size (.slice (some ⟨g, 0, none⟩) (zG fs).length c1) (zG fs) from
   (zfd.facts (base := 0) ⟨hat3.row hrd3.1 (Nat.zero_le _), hrd3.more (Nat.le_of_lt hat3.lt)⟩))
  have HB3 := Lib.hid (show Below w.heap.size w w3 from zl.then_ HB2.out ho3 hbg)
  clear hk hat3 hrd3 ho3 ho2
  go_wp2_with (fail)
  go_ret
  exact ⟨_, c1, rfl, HR.out, HB3.out⟩
set_option maxHeartbeats 1000000 in
theorem zfR (v v2 : Value) (xs ys : List zd) (w : World) (h : zu w w.heap.size v xs) (h2 : zu w w.heap.size v2 ys) (hn : xs.length + ys.length <= 1048576) (ht : tot xs + tot ys <= 1048576) :
 Calls Tryz.prog 16 #[v, v2] w fun e w' => ∃ A' c', e = .returned (.slice A' (zG (xs ++ ys)).length c') /\ zq w' w.heap.size w'.heap.size (.slice A' (zG (xs ++ ys)).length c') (zG (xs ++ ys)) /\ Below w.heap.size w w' := by
 have H := Lib.hid h
 have H2 := Lib.hid h2
 obtain ⟨A, c, rfl, hc, _⟩ := h
 obtain ⟨A2, c2, rfl, hc2, _⟩ := h2
 obtain ⟨zs, hzs⟩ : ∃ zs, zs = xs ++ ys := ⟨_, rfl⟩
 have HZ := Lib.hid hzs
 have HZB := Lib.hid (show zs.length <= 2097152 /\ tot zs <= 1048576 from ⟨by rw [hzs, List.length_append]; omega, by rw [hzs, zdJ]; exact ht⟩)
 have HL := Lib.hid (show (zG zs).length <= 4194304 /\ tot (zG zs) <= 1048576 by
  have hbd := zfm zs
  have := HZB.out
  omega)
 rw [<- hzs]
 clear hzs
 go_enter Tryz.func16, Tryz.ntmps16
 go_wp2_with (fail)
 obtain ⟨w1, hw1⟩ : ∃ w1, w1 = w.alloc (Obj.cells #[Value.slice A xs.length c, Value.slice A2 ys.length c2] 27) := ⟨_, rfl⟩
 have B1 : Below w.heap.size w w1 := by rw [hw1]; exact ze _ _
 have b1 : Blk w1 w.heap.size 27 #[.slice A xs.length c, .slice A2 ys.length c2] := by rw [hw1]; exact Blk.new _ _ _
 rw [<- hw1]
 clear hw1
 refine (zmz w.heap.size _ _ _ xs ys w1 (b1.cell 0) (b1.cell 1) (H.out.on B1) (H2.out.on B1) (by omega)).mono ?_
 rw [<- HZ.out]
 rintro e w3 ⟨A3, c3, av3, rfl, hr3, hb3⟩
 have B3 := zf B1 hb3
 have R3 := Lib.hid hr3.facts
 clear b1 hr3
 go_wp2_with (fail)
 refine (zly _ zs w3 R3.out HZB.out.1 HZB.out.2).mono ?_
 rintro e w4 ⟨A4, c4, rfl, hr4, hb4⟩
 have B4 := zf B3 hb4
 have R4 := Lib.hid hr4
 clear hr4
 go_wp2_with (fail)
 refine (zjw _ (zG zs) w4 R4.out HL.out.1 HL.out.2).mono ?_
 rintro e w5 ⟨A5, c5, rfl, ho5, hb5⟩
 have HO := Lib.hid (And.intro ho5 (zf B4 hb5))
 have s4 := B4.size
 clear ho5
 go_wp2_with (fail)
 go_ret
 exact ⟨A5, c5, rfl, HO.out.1.mono s4 (Nat.le_refl _), HO.out.2⟩
open Go.RowKit
theorem znH (xs : List Int) : zar xs xs = 0 := by
 induction xs with
 | nil => simp [zar]
 | cons x xs ih => simp [zar, ih]
theorem zi1 (f : zd) : zk f f = 0 := by simp [zk, znH]
set_option maxHeartbeats 1000000 in
theorem zd3 (v v2 : Value) (fs : List zd) (w : World) (h : zu w w.heap.size v fs) (h2 : zu w w.heap.size v2 fs) (hn : fs.length <= 1048576) (ht : tot fs <= 1048576) :
 Calls Tryz.prog 8 #[v, v2] w fun e w' => e = .returned (.bool true) /\ Below w.heap.size w w' := by
 have H := Lib.hid h
 have H2 := Lib.hid h2
 obtain ⟨A, c, rfl, hc, _⟩ := h
 obtain ⟨A2, c2, rfl, hc2, _⟩ := h2
 have hnn : ((fs.length : Int) != (fs.length : Int)) = false := by simp
 go_enter Tryz.func8, Tryz.ntmps8
 go_wp2_with (fail)
 go_loopw [5, 13] (fun _ i wr => ∃ k : Nat, k <= fs.length /\ i = .int .i64 k /\ Below w.heap.size w wr) (fun _ i _ => fs.length - (intOf i).toNat)
 case atStart => exact ⟨0, Nat.zero_le _, rfl, Below.refl _ _⟩
 case round =>
  obtain ⟨k, hk, rfl, hbe⟩ := hrel
  by_cases hlt : k < fs.length
  ·obtain ⟨b, o, A3, c3, rfl, hbB, k1, k2, k3⟩ := (H.out.on hbe).get hlt
   have K3 := Lib.hid (show zU wr wr.heap.size (.agg #[.int .i64 fs[k].1, .slice A3 fs[k].2.length c3]) fs[k] from ⟨_, rfl, k3⟩)
   obtain ⟨b', o', A4, c4, rfl, hbB', m1, m2, m3⟩ := (H2.out.on hbe).get hlt
   have K4 := Lib.hid (show zU wr wr.heap.size (.agg #[.int .i64 fs[k].1, .slice A4 fs[k].2.length c4]) fs[k] from ⟨_, rfl, m3⟩)
   have hln := zaz fs k hlt
   have L1 := zx k1
   have L2 := zx k2
   have M1 := zx m1
   have M2 := zx m2
   have CO := Lib.hid (fun x : zbG wr => (zcK _ _ fs[k] fs[k] x.val (K3.out.on x.2) (K4.out.on x.2) (by omega) (by omega)).mono fun e w' (hh : e = .returned (.int .i64 (zk fs[k] fs[k])) /\ Below x.val.heap.size x.val w') => (⟨by rw [hh.1, zi1], hh.2⟩ : e = .returned (.int .i64 0) /\ Below x.val.heap.size x.val w'))
   clear k1 k2 k3 m1 m2 m3
   go_wp2_with (fail)
   refine zD (by kernel_rfl) (by kernel_rfl) ?_
   repeat (go_big_quiet_step ((go_at_call 32; exact zaq (CO.out _))))
   refine wpQuiet_nil ?_
   rintro _ ⟨xq, rfl⟩
   go_wp2_with (fail)
   go_roundw
   case rel => exact ⟨k + 1, by omega, by go_num, zf hbe xq.2⟩
   case measure => simp [intOf]; omega
  ·have hkn : k = fs.length := by omega
   have hdk : decide ((k : Int) < (fs.length : Int)) = false := by simp; omega
   go_wp2_with (fail)
   go_ret
   exact ⟨rfl, hbe⟩
open Go.ChangeShapes Go.WideShapes Go.ChangeAt Go.RowKit Go.Joins Go.Deep
theorem Tryz.cells5 : Tryz.prog.cellsOf 5 = 1 := by kernel_rfl
def zm0 (W : World) (v : Value) (bs : List Nat) : Prop := zbN W W.heap.size v bs /\ bs.length <= maxLen /\ ∀ b ∈ bs, b < 256
theorem zi9 {n : Int} (h : (Lit.int .u8 n).wf = true) : 0 <= n /\ n < 256 := by
 simp only [Lit.wf, Bool.and_eq_true, decide_eq_true_eq] at h
 have h1 : IntKind.u8.min = 0 := by decide
 have h2 : IntKind.u8.max = 255 := by decide
 omega
theorem zki {H : Type} {enc : TypeId × Value -> H} {W : World} {v : Value} {d : DataW H} {p : List MemPlace} {b0 : Nat} (hv : Value.okWide Tryz.prog W .any b0 22 v) (h : DataW.Trod enc Tryz.prog W 0 (fun _ => true) true 22 v d p) :
 ∃ bs, zm0 W v bs := by
 obtain ⟨a, len, cap, rfl⟩ := okWide_slice Tryz.underlying22 hv
 obtain ⟨fuel, hf⟩ := h
 have hf : DataW.trod enc Tryz.prog W 0 (fun _ => true) true fuel 22 [.slice a len cap] = some (d, p) := by simpa [Value.cells] using hf
 rcases open_ints Tryz.underlying22 Tryz.underlying5 Tryz.cells5 hf with ⟨hcs, _⟩ | ⟨a, len, cap, zs, hcs, _, hl, hm, hz, _, hcell, hwz⟩
 ·simp at hcs
  obtain ⟨rfl, rfl, rfl⟩ := hcs
  exact ⟨[], ⟨none, 0, rfl, by simp, fun h => absurd h (by simp)⟩, by simp, by simp⟩
 ·simp at hcs
  obtain ⟨rfl, rfl, rfl⟩ := hcs
  simp at hz
  refine ⟨(zs.take len).map Int.toNat, ⟨some a, cap, ?_, by simp; omega, fun hn => ?_⟩, by simp; omega, ?_⟩
  ·congr 1
   simp
   omega
  ·have hlen : (zs.take len).length = len := by simp; omega
   simp only [List.length_map, hlen] at hn
   obtain ⟨b, o, rfl, hc⟩ := ints_at hcell (by omega)
   refine ⟨b, o, rfl, World.block_lt_of_cell? _ _ (hc 0 (by omega)), fun k hk => ?_⟩
   simp only [List.length_map, hlen] at hk
   have hw := zi9 (hwz zs[k] (List.getElem_mem (by omega)))
   rw [hc k (by omega)]
   simp [show k < zs.length by omega]
   omega
  ·intro b hb
   rw [List.mem_map] at hb
   obtain ⟨z, hz1, rfl⟩ := hb
   have := zi9 (hwz z (List.mem_of_mem_take hz1))
   omega
open Go.RowKit
theorem zfo {w : World} {lo hi c : Nat} {A : Option Addr} {FF : List (List zd)} (h : zcf w lo hi (.slice A FF.length c) FF) {k : Nat} (hk : k < FF.length) :
 ∃ g A2 c2, A = some ⟨g, 0, none⟩ /\ g < w.heap.size /\ w.cell? ⟨g, k, none⟩ = some (.slice A2 FF[k].length c2) /\ zu w w.heap.size (.slice A2 FF[k].length c2) FF[k] := by
 obtain ⟨hv, P, Q, h⟩ := h
 obtain ⟨g, A2, c2, e, h1, _, h3, h4, _⟩ := h.get hk
 exact ⟨g, A2, c2, e, h1, h3, h4.rdS⟩
theorem zl1 {p : zal} {fs : List zd} (h : zcb p fs = true) {i : Nat} (hi : i < (zF p fs).length) : ((zF p fs)[i]).length <= 1536 /\ tot ((zF p fs)[i]) <= 3072 := by
 rw [zc2 h hi]
 obtain ⟨h1, h2, h3, _⟩ := zbh h
 exact zgG h1 h2 (zaI.set h3) i
theorem zm4 {F : List zd} (h : szF F <= 1048576) : F.length <= 1048576 /\ tot F <= 1048576 := by
 unfold szF at h
 omega
set_option maxHeartbeats 8000000 in
theorem zf6 (v : Value) (code : List Nat) (w : World) (hr : zbN w w.heap.size v code) (_ : code.length <= maxLen) (hby : ∀ b ∈ code, b < 256) (hT : Tab w) :
 Calls Tryz.prog 4 #[v] w fun e w' => e = .returned (.bool true) /\ Below w.heap.size w w' := by
 have HV := Lib.hid hr
 have HT := Lib.hid hT
 obtain ⟨Av, cv, rfl, hcv, _⟩ := hr
 clear hT
 go_enter Tryz.func4, Tryz.ntmps4
 by_cases hbig : 1048576 < code.length
 ·have hd : decide ((1048576 : Int) < code.length) = true := by simp; omega
  go_wp2_with (fail)
  go_ret
  exact ⟨rfl, Below.refl _ _⟩
 have hd : decide ((1048576 : Int) < code.length) = false := by simp; omega
 have hbn : code.length <= 1073741824 := by omega
 go_upto_region 4 with (go_at_call 19; refine (zid _ code w HV.out hby hbn).mono ?_
                        rintro e w1 ⟨u, p, Af, cf, fs, A9, c9, f, rfl, hdp, rf, rx, hfl, ⟨hf1, hf2⟩, B1⟩
                        obtain ⟨A, A2, c, c2, rfl, ra, rr⟩ := hdp.rd
                        have hsz := hdp.sz
                        clear hdp)
 have HSZ := Lib.hid (show szP p <= 1048576 by omega)
 obtain ⟨w2, hw2⟩ : ∃ w2, w2 = (w1.alloc (Obj.cells #[Value.slice A p.1.length c, Value.slice A2 p.2.length c2] 26)).alloc (Obj.cells #[Value.int .i64 f.1, Value.slice A9 f.2.length c9] 39) := ⟨_, rfl⟩
 have b2 : Below w1.heap.size w1 w2 := by rw [hw2]; exact za0 _ _ _
 have BX : Blk w2 w1.heap.size 26 #[.slice A p.1.length c, .slice A2 p.2.length c2] := by rw [hw2]; exact (Blk.new _ _ _).alloc _
 have BF : Blk w2 (w1.heap.size + 1) 39 #[.int .i64 f.1, .slice A9 f.2.length c9] := by rw [hw2]; simpa using Blk.new (w1.alloc (Obj.cells #[Value.slice A p.1.length c, Value.slice A2 p.2.length c2] 26)) 39 #[.int .i64 f.1, .slice A9 f.2.length c9]
 rw [<- hw2]
 clear hw2
 obtain ⟨D, hD⟩ : ∃ D, D = w1.heap.size := ⟨_, rfl⟩
 rw [<- hD] at BX BF ⊢
 clear hD
 have B2 := Lib.hid (zf B1 b2)
 have HPR := Lib.hid (show ∀ W, Below w2.heap.size w2 W -> zb7 W W.heap.size (.agg #[.slice A p.1.length c, .slice A2 p.2.length c2]) p from fun W hW => ⟨_, _, rfl, (ra.on b2).on hW, (rr.on b2).on hW⟩)
 have HAR := Lib.hid (show ∀ W, Below w2.heap.size w2 W -> zv W W.heap.size (.slice A p.1.length c) p.1 from fun W hW => (ra.on b2).on hW)
 have HBX := Lib.hid (show ∀ W, Below w2.heap.size w2 W -> W.cell? ⟨D, 0, none⟩ = some (.slice A p.1.length c) /\ W.cell? ⟨D, 1, none⟩ = some (.slice A2 p.2.length c2) from fun W hW => ⟨(BX.below hW BX.lt).cell 0, (BX.below hW BX.lt).cell 1⟩)
 have HTT := Lib.hid (show ∀ W, Below w2.heap.size w2 W -> Tab W from fun W hW => HT.out.below (zf B2.out hW))
 obtain ⟨x0, x1⟩ := HBX.out _ (Below.refl _ _)
 have hDl := BX.lt
 have hpn : p.1.length <= 100 := by unfold szP at hsz; omega
 have hpr : p.2.length <= 100 := by unfold szP at hsz; omega
 have hDl2 := BF.lt
 have HFX := Lib.hid (show ∀ W, Below w2.heap.size w2 W -> W.cell? ⟨D + 1, 0, none⟩ = some (.int .i64 f.1) /\ W.cell? ⟨D + 1, 1, none⟩ = some (.slice A9 f.2.length c9) from fun W hW => ⟨(BF.below hW BF.lt).cell 0, (BF.below hW BF.lt).cell 1⟩)
 have HFS := Lib.hid (show ∀ W, Below w2.heap.size w2 W -> zu W W.heap.size (.slice Af fs.length cf) fs from fun W hW => (rf.on b2).on hW)
 have HFF := Lib.hid (show ∀ W, Below w2.heap.size w2 W -> zU W W.heap.size (.agg #[.int .i64 f.1, .slice A9 f.2.length c9]) f from fun W hW => ⟨_, rfl, (rx.on b2).on hW⟩)
 obtain ⟨f0, f1⟩ := HFX.out _ (Below.refl _ _)
 obtain ⟨FF, hFF⟩ : ∃ FF, FF = zF p fs := ⟨_, rfl⟩
 have HFE := Lib.hid hFF
 have HSF := Lib.hid (show FF.length <= 1073741824 /\ ∀ F ∈ FF, F.length <= 1048576 /\ tot F <= 1048576 by
  rw [hFF]
  have h := zhH p fs
  exact ⟨by have := h.1; unfold zpd at this; omega, fun F hF => zm4 (h.2 F hF)⟩)
 have hFl := HSF.out.1
 obtain ⟨N, hN⟩ : ∃ N, N = zbv p fs f := ⟨_, rfl⟩
 have HNE := Lib.hid hN
 have CI := Lib.hid (ziP _ (.slice Af fs.length cf) p fs w2 (HPR.out _ (Below.refl _ _)) (HFS.out _ (Below.refl _ _)) HSZ.out (by omega) (by omega) (HTT.out _ (Below.refl _ _)))
 have CS := Lib.hid (fun W (hW : Below w2.heap.size w2 W) => zfi _ (.slice Af fs.length cf) p fs W (HPR.out _ hW) (HFS.out _ hW) HSZ.out (by omega) (by omega))
 have CN := Lib.hid (fun W (hW : Below w2.heap.size w2 W) => zic (.agg #[.slice A p.1.length c, .slice A2 p.2.length c2]) (.slice Af fs.length cf) (.agg #[.int .i64 f.1, .slice A9 f.2.length c9]) p fs f W (HPR.out _ hW) (HFS.out _ hW) (HFF.out _ hW) HSZ.out (by omega) (by omega) (by omega))
 have CM := Lib.hid (fun W (hW : Below w2.heap.size w2 W) => zh5 (.agg #[.slice A p.1.length c, .slice A2 p.2.length c2]) (.slice Af fs.length cf) (.agg #[.int .i64 f.1, .slice A9 f.2.length c9]) p fs f W (HPR.out _ hW) (HFS.out _ hW) (HFF.out _ hW) HSZ.out (by omega) (by omega) (by omega))
 rw [<- hFF] at CI CS
 rw [<- hN] at CN CM
 have hneq : (N != N) = false := by simp
 have hleq : ((FF.length : Int) != (FF.length : Int)) = false := by simp
 clear hFF hN BX BF b2 B1 ra rr rf rx hsz
 go_upto_region 9 with (first
  | (go_at_call 20; refine CI.out.mono ?_
     rintro e w3 ⟨A3, c3, rfl, o3, b3⟩
     have B3 := Lib.hid b3
     have HO3 := Lib.hid o3
     obtain ⟨x30, x31⟩ := HBX.out _ b3
     obtain ⟨f30, f31⟩ := HFX.out _ b3
     clear o3 b3)
  | (go_at_call 21; refine (CS.out _ B3.out).mono ?_
     rintro e w4 ⟨A4, c4, rfl, o4, b4⟩
     have B4 := Lib.hid (zf B3.out b4)
     have BE4 := Lib.hid b4
     have HO4 := Lib.hid o4
     obtain ⟨x40, x41⟩ := HBX.out _ B4.out
     obtain ⟨f40, f41⟩ := HFX.out _ B4.out
     clear o4 b4)
  | (go_at_call 22; refine (CN.out _ B4.out).mono ?_
     rintro e w5 ⟨rfl, b5⟩
     have B5 := Lib.hid (zf B4.out b5)
     have BE5 := Lib.hid b5
     obtain ⟨x50, x51⟩ := HBX.out _ B5.out
     obtain ⟨f50, f51⟩ := HFX.out _ B5.out
     clear b5)
  | (go_at_call 23; refine (CM.out _ B5.out).mono ?_
     rintro e w6 ⟨rfl, b6⟩
     have B6 := Lib.hid (zf B5.out b6)
     have BE6 := Lib.hid (zf BE5.out b6)
     clear b6))
 clear x0 x1 f0 f1 x30 x31 f30 f31 x40 x41 f40 f41 x50 x51 f50 f51
 have HA6 := Lib.hid (show ∀ W, Below w6.heap.size w6 W -> zcf W w2.heap.size w3.heap.size (.slice A3 FF.length c3) FF from fun W hW => HO3.out.below (zf (zf BE4.out BE6.out) hW) (Nat.le_refl _))
 have HW6 := Lib.hid (show ∀ W, Below w6.heap.size w6 W -> zcf W w3.heap.size w4.heap.size (.slice A4 FF.length c4) FF from fun W hW => HO4.out.below (zf BE6.out hW) (Nat.le_refl _))
 go_wp2_with (fail)
 go_loopw [45] (fun i wr => ∃ k : Nat, k <= FF.length /\ i = .int .i64 k /\ Below w6.heap.size w6 wr) (fun i _ => FF.length - (intOf i).toNat)
 case atStart => exact ⟨0, Nat.zero_le _, rfl, Below.refl _ _⟩
 case round =>
  obtain ⟨k, hk, rfl, hbe⟩ := hrel
  have BE := Lib.hid hbe
  have BW := Lib.hid (zf B6.out hbe)
  clear hbe
  by_cases hlt : k < FF.length
  ·have hlok : zcb p fs = true := by
    rcases hb : zcb p fs with _ | _
    ·rw [HFE.out, zhe hb] at hlt
     exact absurd hlt (Nat.not_lt_zero _)
    ·rfl
   have HLOK := Lib.hid hlok
   obtain ⟨ga, A7, c7, hA3, hga, ka, ra⟩ := zfo (HA6.out _ BE.out) hlt
   subst hA3
   obtain ⟨gw, A8, c8, hA4, hgw, kw, rw8⟩ := zfo (HW6.out _ BE.out) hlt
   subst hA4
   obtain ⟨F, hF⟩ : ∃ F, F = FF[k]'hlt := ⟨_, rfl⟩
   rw [<- hF] at ka ra kw rw8
   have hFS := HSF.out.2 F (by rw [hF]; exact List.getElem_mem hlt)
   have HRA := Lib.hid ra
   have HRW := Lib.hid rw8
   have HFK := Lib.hid hF
   clear hlok ra rw8 hF
   go_upto_region 12 with fail
   by_cases hk0 : k = 0
   ·subst hk0
    have M0 := zx kw
    have D1 := Lib.hid (fun x : zbG wr => zaq (zd3 (.slice A7 F.length c7) (.slice A8 F.length c8) F x.val (HRA.out.on x.2) (HRW.out.on x.2) hFS.1 hFS.2))
    clear ka kw
    go_cut [78] (fun s wx => s = .bool false /\ Below wr.heap.size wr wx)
    case first =>
     refine zD (by kernel_rfl) (by kernel_rfl) ?_
     repeat (go_big_quiet_step ((go_at_call 8; exact D1.out _)))
     refine wpQuiet_nil ?_
     rintro _ ⟨xq, rfl⟩
     go_wp2_with (fail)
     go_meet
     exact ⟨rfl, xq.2⟩
    case rest =>
    obtain ⟨rfl, b8⟩ := hcut
    have B8 := Lib.hid (zf BE.out b8)
    clear b8 M0
    go_wp2_with fail
    go_roundw
    case rel => exact ⟨1, by omega, by go_num, B8.out⟩
    case measure => simp [intOf]; omega
   ·obtain ⟨j, hj⟩ : ∃ j : Nat, k = j + 1 := ⟨k - 1, by omega⟩
    have hjl : j < FF.length := by omega
    obtain ⟨ga2, A10, c10, hA10, _, kj, rj⟩ := zfo (HA6.out _ BE.out) hjl
    obtain rfl : ga2 = ga := by injection hA10 with e; injection e with e1 _ _; exact e1.symm
    clear hA10
    obtain ⟨G, hG⟩ : ∃ G, G = FF[j]'hjl := ⟨_, rfl⟩
    rw [<- hG] at kj rj
    have hGS := HSF.out.2 G (by rw [hG]; exact List.getElem_mem hjl)
    have HRJ := Lib.hid rj
    have HST := Lib.hid (show zG (G ++ zfC p G) = F from by
     have h2 : j + 1 < (zF p fs).length := by rw [<- HFE.out, <- hj]; exact hlt
     have h := zkZ HLOK.out h2
     have e1 : (zF p fs)[j + 1] = F := by
      rw [HFK.out]
      simp only [hj, HFE.out]
     have e2 : (zF p fs)[j]'(by omega) = G := by
      rw [hG]
      simp only [HFE.out]
     rw [e1, e2] at h
     exact h.symm)
    have hCS := znF p G
    have HGS := Lib.hid (show G.length <= 1536 /\ tot G <= 3072 from by
     rw [hG]
     simp only [HFE.out]
     exact zl1 HLOK.out (by rw [<- HFE.out]; exact hjl))
    have HJW := Lib.hid (show IntKind.i64.wrap ((k : Int) - 1) = (j : Int) by
     rw [hj]
     unfold IntKind.wrap
     simp [IntKind.bits, IntKind.signed]
     omega)
    have hkpos : decide ((0 : Int) < (k : Int)) = true := by rw [decide_eq_true_eq]; omega
    obtain ⟨SS, hSS⟩ : ∃ SS : World -> Prop, SS = (fun W => W.cell? ⟨D, 0, none⟩ = some (.slice A p.1.length c) /\ W.cell? ⟨D, 1, none⟩ = some (.slice A2 p.2.length c2) /\ W.cell? ⟨gw, k, none⟩ = some (.slice A8 F.length c8) /\ W.cell? ⟨ga2, j, none⟩ = some (.slice A10 G.length c10)) := ⟨_, rfl⟩
    have HB := Lib.hid (show ∀ W, SS W -> W.cell? ⟨D, 0, none⟩ = some (.slice A p.1.length c) /\ W.cell? ⟨D, 1, none⟩ = some (.slice A2 p.2.length c2) /\ W.cell? ⟨gw, k, none⟩ = some (.slice A8 F.length c8) /\ W.cell? ⟨ga2, j, none⟩ = some (.slice A10 G.length c10) from by rw [hSS]; exact fun W hW => hW)
    have HC := Lib.hid (show ∀ W, Below wr.heap.size wr W -> SS W from by
     rw [hSS]
     exact fun W hW => ⟨(HBX.out W (zf BW.out hW)).1, (HBX.out W (zf BW.out hW)).2, (World.cell?_of_block (hW.block gw hgw)).trans kw, (World.cell?_of_block (hW.block ga2 hga)).trans kj⟩)
    obtain ⟨C, hC⟩ : ∃ C, C = zfC p G := ⟨_, rfl⟩
    have CC := Lib.hid (fun W (hW : Below wr.heap.size wr W) => zfv (.agg #[.slice A p.1.length c, .slice A2 p.2.length c2]) (.slice A10 G.length c10) p G W (HPR.out _ (zf BW.out hW)) (HRJ.out.on hW) HSZ.out hGS.1 hGS.2 (HTT.out _ (zf BW.out hW)))
    rw [<- hC] at CC HST hCS
    have CE := Lib.hid (fun W (u : Value) (hW : Below wr.heap.size wr W) (hu : zu W W.heap.size u C) => zfR (.slice A10 G.length c10) u G C W (HRJ.out.on hW) hu (by have := HGS.out; omega) (by have := HGS.out; omega))
    rw [HST.out] at CE
    clear hSS hC hj kj ka kw rj hG
    refine zB SS 28 29 (by kernel_rfl) rfl ?_
    have Bd := Lib.hid (show Below wr.heap.size wr wr.drew from (Below.refl _ wr).drew)
    obtain ⟨wy, hwy⟩ : ∃ wy, wy = wr.drew := ⟨_, rfl⟩
    rw [<- hwy] at Bd ⊢
    clear hwy
    have S0 := HC.out _ Bd.out
    refine za (i := 0) (oi := _) ?va0 rfl rfl (by kernel_rfl) (by decide) (fun _ _ _ h => h) rfl ?hya0 (fun _ => S0) ?resta0
    case hya0 => (intro W; go_simp; (try with_reducible rfl))
    try simp only [zs.a, zs.b, zs.c]
    refine za (i := 1) (oi := _) ?va1 rfl rfl (by kernel_rfl) (by decide) (fun _ _ _ h => h) rfl ?hya1 (fun _ => S0) ?resta1
    case hya1 => (intro W; go_simp; (try with_reducible rfl))
    try simp only [zs.a, zs.b, zs.c]
    refine za (i := 2) (oi := _) ?va2 rfl rfl (by kernel_rfl) (by decide) (fun _ _ _ h => h) rfl ?hya2 (fun _ => S0) ?resta2
    case hya2 => (intro W; go_simp; (try with_reducible rfl))
    try simp only [zs.a, zs.b, zs.c]
    refine za (i := 3) (oi := _) (.pointer (some ⟨gw, k, none⟩)) rfl rfl (by kernel_rfl) (by decide) (fun _ _ _ h => h) rfl ?hya3 (fun _ => S0) ?resta3
    case hya3 => (intro W; go_simp; (try simp))
    try simp only [zs.a, zs.b, zs.c]
    refine zm (i := 4) (oi := _) ?va4 rfl rfl (by kernel_rfl) (fun _ _ _ h => h) rfl ?hya4 S0 ?resta4
    case hya4 => (intro W hW; obtain ⟨d0, d1, d2, d3⟩ := HB.out W hW; go_simp; (try with_reducible rfl))
    try simp only [zs.a, zs.b, zs.c]
    refine zh (i := 5) (by kernel_rfl) rfl (fun K hK => ?_)
    try rw [if_pos (show Region.wanted _ _ = true from rfl)]
    go_simp
    refine (zd3 (.slice A7 F.length c7) (.slice A8 F.length c8) F wy (HRA.out.on Bd.out) (HRW.out.on Bd.out) hFS.1 hFS.2).mono ?_
    rintro e w7 ⟨rfl, b7⟩
    have B7 := Lib.hid (zf Bd.out b7)
    have S1 := HC.out _ B7.out
    clear b7
    refine hK.out _ _ (fun _ => S1) ?_
    clear hK K
    try simp only [zs.a, zs.b, zs.c, Act.put]
    refine za (i := 6) (oi := _) (.bool false) rfl rfl (by kernel_rfl) (by decide) (fun _ _ _ h => h) rfl ?hyb6 (fun _ => S1) ?restb6
    case hyb6 => (intro W; go_simp; (try simp))
    try simp only [zs.a, zs.b, zs.c]
    refine za (i := 7) (oi := _) (.bool false) rfl rfl (by kernel_rfl) (by decide) (fun _ _ _ h => h) rfl ?hyb7 (fun _ => S1) ?restb7
    case hyb7 => (intro W; go_simp; (try simp))
    try simp only [zs.a, zs.b, zs.c]
    refine za (i := 8) (oi := _) ?vb8 rfl rfl (by kernel_rfl) (by decide) (fun _ _ _ h => h) rfl ?hyb8 (fun _ => S1) ?restb8
    case hyb8 => (intro W; go_simp; (try with_reducible rfl))
    try simp only [zs.a, zs.b, zs.c]
    refine za (i := 9) (oi := _) (.bool true) rfl rfl (by kernel_rfl) (by decide) (fun _ _ _ h => h) rfl ?hyb9 (fun _ => S1) ?restb9
    case hyb9 => (intro W; go_simp; (try simp); (try omega))
    try simp only [zs.a, zs.b, zs.c]
    refine za (i := 10) (oi := _) (.bool true) rfl rfl (by kernel_rfl) (by decide) (fun _ _ _ h => h) rfl ?hyb10 (fun _ => S1) ?restb10
    case hyb10 => (intro W; go_simp; (try simp))
    try simp only [zs.a, zs.b, zs.c]
    refine za (i := 11) (oi := _) ?vb11 rfl rfl (by kernel_rfl) (by decide) (fun _ _ _ h => h) rfl ?hyb11 (fun _ => S1) ?restb11
    case hyb11 => (intro W; go_simp; (try with_reducible rfl))
    try simp only [zs.a, zs.b, zs.c]
    refine za (i := 12) (oi := _) ?vb12 rfl rfl (by kernel_rfl) (by decide) (fun _ _ _ h => h) rfl ?hyb12 (fun _ => S1) ?restb12
    case hyb12 => (intro W; go_simp; (try with_reducible rfl))
    try simp only [zs.a, zs.b, zs.c]
    refine za (i := 13) (oi := _) ?vb13 rfl rfl (by kernel_rfl) (by decide) (fun _ _ _ h => h) rfl ?hyb13 (fun _ => S1) ?restb13
    case hyb13 => (intro W; go_simp; (try with_reducible rfl))
    try simp only [zs.a, zs.b, zs.c]
    refine za (i := 14) (oi := _) (.int .i64 (j : Int)) rfl rfl (by kernel_rfl) (by decide) (fun _ _ _ h => h) rfl ?hyb14 (fun _ => S1) ?restb14
    case hyb14 => (intro W; go_simp; (try simp [HJW.out]))
    try simp only [zs.a, zs.b, zs.c]
    refine za (i := 15) (oi := _) (.pointer (some ⟨ga2, j, none⟩)) rfl rfl (by kernel_rfl) (by decide) (fun _ _ _ h => h) rfl ?hyb15 (fun _ => S1) ?restb15
    case hyb15 => (intro W; go_simp; (try simp))
    try simp only [zs.a, zs.b, zs.c]
    refine zm (i := 16) (oi := _) ?vb16 rfl rfl (by kernel_rfl) (fun _ _ _ h => h) rfl ?hyb16 S1 ?restb16
    case hyb16 => (intro W hW; obtain ⟨d0, d1, d2, d3⟩ := HB.out W hW; go_simp; (try with_reducible rfl))
    try simp only [zs.a, zs.b, zs.c]
    refine zm (i := 17) (oi := _) ?vb17 rfl rfl (by kernel_rfl) (fun _ _ _ h => h) rfl ?hyb17 S1 ?restb17
    case hyb17 => (intro W hW; obtain ⟨d0, d1, d2, d3⟩ := HB.out W hW; go_simp; (try with_reducible rfl))
    try simp only [zs.a, zs.b, zs.c]
    refine za (i := 18) (oi := _) ?vb18 rfl rfl (by kernel_rfl) (by decide) (fun _ _ _ h => h) rfl ?hyb18 (fun _ => S1) ?restb18
    case hyb18 => (intro W; go_simp; (try with_reducible rfl))
    try simp only [zs.a, zs.b, zs.c]
    refine za (i := 19) (oi := _) ?vb19 rfl rfl (by kernel_rfl) (by decide) (fun _ _ _ h => h) rfl ?hyb19 (fun _ => S1) ?restb19
    case hyb19 => (intro W; go_simp; (try with_reducible rfl))
    try simp only [zs.a, zs.b, zs.c]
    refine za (i := 20) (oi := _) (.int .i64 (j : Int)) rfl rfl (by kernel_rfl) (by decide) (fun _ _ _ h => h) rfl ?hyb20 (fun _ => S1) ?restb20
    case hyb20 => (intro W; go_simp; (try simp [HJW.out]))
    try simp only [zs.a, zs.b, zs.c]
    refine za (i := 21) (oi := _) (.pointer (some ⟨ga2, j, none⟩)) rfl rfl (by kernel_rfl) (by decide) (fun _ _ _ h => h) rfl ?hyb21 (fun _ => S1) ?restb21
    case hyb21 => (intro W; go_simp; (try simp))
    try simp only [zs.a, zs.b, zs.c]
    refine zm (i := 22) (oi := _) ?vb22 rfl rfl (by kernel_rfl) (fun _ _ _ h => h) rfl ?hyb22 S1 ?restb22
    case hyb22 => (intro W hW; obtain ⟨d0, d1, d2, d3⟩ := HB.out W hW; go_simp; (try with_reducible rfl))
    try simp only [zs.a, zs.b, zs.c]
    refine zh (i := 23) (by kernel_rfl) rfl (fun K hK => ?_)
    try rw [if_pos (show Region.wanted _ _ = true from rfl)]
    go_simp
    refine (CC.out _ B7.out).mono ?_
    rintro e w8 ⟨A11, c11, rfl, o8, b8⟩
    have B8 := Lib.hid (zf B7.out b8)
    have HC8 := Lib.hid o8.rd
    have S2 := HC.out _ B8.out
    clear o8 b8
    refine hK.out _ _ (fun _ => S2) ?_
    clear hK K
    try simp only [zs.a, zs.b, zs.c, Act.put]
    refine zh (i := 24) (by kernel_rfl) rfl (fun K hK => ?_)
    try rw [if_pos (show Region.wanted _ _ = true from rfl)]
    go_simp
    refine (CE.out _ _ B8.out HC8.out).mono ?_
    rintro e w9 ⟨A12, c12, rfl, o9, b9⟩
    have B9 := Lib.hid (zf B8.out b9)
    have HE9 := Lib.hid o9.rd
    have S3 := HC.out _ B9.out
    clear o9 b9
    refine hK.out _ _ (fun _ => S3) ?_
    clear hK K
    try simp only [zs.a, zs.b, zs.c, Act.put]
    refine zh (i := 25) (by kernel_rfl) rfl (fun K hK => ?_)
    try rw [if_pos (show Region.wanted _ _ = true from rfl)]
    go_simp
    refine (zd3 (.slice A7 F.length c7) (.slice A12 F.length c12) F w9 (HRA.out.on B9.out) HE9.out hFS.1 hFS.2).mono ?_
    rintro e w10 ⟨rfl, b10⟩
    have B10 := Lib.hid (zf B9.out b10)
    have S4 := HC.out _ B10.out
    clear b10
    refine hK.out _ _ (fun _ => S4) ?_
    clear hK K
    try simp only [zs.a, zs.b, zs.c, Act.put]
    refine za (i := 26) (oi := _) (.bool false) rfl rfl (by kernel_rfl) (by decide) (fun _ _ _ h => h) rfl ?hyc26 (fun _ => S4) ?restc26
    case hyc26 => (intro W; go_simp; (try simp))
    try simp only [zs.a, zs.b, zs.c]
    refine za (i := 27) (oi := _) (.bool false) rfl rfl (by kernel_rfl) (by decide) (fun _ _ _ h => h) rfl ?hyc27 (fun _ => S4) ?restc27
    case hyc27 => (intro W; go_simp; (try simp))
    try simp only [zs.a, zs.b, zs.c]
    refine zh (i := 28) (by kernel_rfl) rfl (fun K hK => ?_)
    go_simp
    refine hK.out _ _ (fun hf => absurd hf (by decide)) ?_
    clear hK K
    refine zL (by kernel_rfl) ?_
    have BN := Lib.hid (zf BE.out B10.out)
    go_wp2_with fail
    go_roundw
    case rel => exact ⟨k + 1, by omega, by go_num, BN.out⟩
    case measure => simp [intOf]; omega
  ·obtain ⟨lo, hlo⟩ : ∃ lo, lo = zcb p fs := ⟨_, rfl⟩
   have HLO := Lib.hid hlo
   clear hlo
   go_upto_region 15 with fail
   cases lo
   ·have h1 : ((FF.length : Int) == 0) = true := by rw [HFE.out, zhe HLO.out.symm]; rfl
    have h2 : (N == -1) = true := by rw [HNE.out, zl2 f HLO.out.symm]; rfl
    refine zD (by kernel_rfl) (by kernel_rfl) ?_
    repeat (go_big_quiet_step ((fail)))
    refine wpQuiet_nil ?_
    rintro _ ⟨xq, rfl⟩
    go_wp2_with (fail)
    go_ret
    exact ⟨rfl, zf B2.out (zf BW.out xq.2)⟩
   ·have hpos : 0 < FF.length := by rw [HFE.out, zl0 HLO.out.symm]; omega
    have h1 : ((FF.length : Int) == 0) = false := by rw [beq_eq_false_iff_ne]; omega
    have h2 : decide ((0 : Int) < (FF.length : Int)) = true := by rw [decide_eq_true_eq]; omega
    obtain ⟨m, hm⟩ : ∃ m : Nat, FF.length = m + 1 := ⟨FF.length - 1, by omega⟩
    have hml : m < FF.length := by omega
    have hwm : IntKind.i64.wrap ((FF.length : Int) - 1) = (m : Int) := by
     rw [hm]
     unfold IntKind.wrap
     simp [IntKind.bits, IntKind.signed]
     omega
    obtain ⟨ga, A7, c7, hA3, hga, k0, r0⟩ := zfo (HA6.out _ BE.out) hpos
    subst hA3
    obtain ⟨ga2, A8, c8, hA8, _, km, rm⟩ := zfo (HA6.out _ BE.out) hml
    obtain rfl : ga2 = ga := by injection hA8 with e; injection e with e1 _ _; exact e1.symm
    have e0 : FF[0]'hpos = fs := by
     have := zkd HLO.out.symm (by rw [<- HFE.out]; exact hpos)
     rw [<- this]
     simp only [HFE.out]
    rw [e0] at k0 r0
    obtain ⟨F, hF⟩ : ∃ F, F = FF[m]'hml := ⟨_, rfl⟩
    rw [<- hF] at km rm
    have hFS := HSF.out.2 F (by rw [hF]; exact List.getElem_mem hml)
    have hhas : zaQ F f = decide (0 <= N) := by
     have h := zk0 f HLO.out.symm (show (zF p fs).length - 1 < (zF p fs).length by rw [<- HFE.out]; omega)
     have e1 : (zF p fs)[(zF p fs).length - 1]'(by rw [<- HFE.out]; omega) = F := by
      rw [hF]
      have e2 : (zF p fs).length - 1 = m := by rw [<- HFE.out]; omega
      simp only [e2, HFE.out]
     rw [e1, <- HNE.out] at h
     exact h
    obtain ⟨f0, f1⟩ := HFX.out _ BW.out
    have M0 := zx k0
    have M1 := zx km
    have M2 := zx f0
    have M3 := zx f1
    have HR0 := Lib.hid r0
    have HRM := Lib.hid rm
    have D1 := Lib.hid (fun x : zbG wr => zaq (zd3 (.slice A7 fs.length c7) (.slice Af fs.length cf) fs x.val (HR0.out.on x.2) (HFS.out _ (zf BW.out x.2)) (by omega) (by omega)))
    have D2 := Lib.hid (fun x : zbG wr => zaq (show Calls Tryz.prog 25 #[.slice A8 F.length c8, .agg #[.int .i64 f.1, .slice A9 f.2.length c9]] x.val fun e w' => e = .returned (.bool (decide (0 <= N))) /\ Below x.val.heap.size x.val w' from by
     have := zhl (.slice A8 F.length c8) (.agg #[.int .i64 f.1, .slice A9 f.2.length c9]) F f x.val (HRM.out.on x.2) (HFF.out _ (zf BW.out x.2)) hFS.1 hFS.2 (by omega)
     rw [hhas] at this
     exact this))
    clear hm hhas hF e0 k0 km r0 rm f0 f1 hA8
    refine zD (by kernel_rfl) (by kernel_rfl) ?_
    repeat (go_big_quiet_step ((first | (go_at_call 8; exact D1.out _) | (go_at_call 25; exact D2.out _))))
    refine wpQuiet_nil ?_
    rintro _ ⟨xq, rfl⟩
    go_wp2_with (fail)
    go_ret
    exact ⟨rfl, zf B2.out (zf BW.out xq.2)⟩
theorem zgC (v : Value) (bs : List Nat) (w : World) (h : zm0 w v bs) (hT : Tab w) : Calls Tryz.prog 4 #[v] w fun e w' => e = .returned (.bool true) /\ Below w.heap.size w w' :=
 zf6 v bs w h.1 h.2.1 h.2.2 hT
open Go.ChangeShapes Go.WideShapes Go.ChangeAt Go.RowKit
theorem fnRounds_lifted (os : Os) (started : os.Started) (H : Type) (enc : TypeId × Value -> H) :
 ReturnsInHanded {} Tryz.checked os 4 .any (fun w args => (Rows.fnRoundsSpec.pre enc Tryz.prog Tryz.f4 [] false w args /\ laidMetH Tryz.prog zdG w) /\ sizedMet enc Tryz.prog Tryz.f4 (OpenSpec.ofChange Rows.fnRoundsSpec) false w args) (Rows.fnRoundsSpec.post enc Tryz.prog Tryz.f4 false true false false) := by
 refine returnsInHanded_of_change_and (C := Tryz.checked) (X := fun w _ => laidMetH Tryz.prog zdG w) (fun _ _ _ hh h => h.of_heap hh) Tryz.own started (by kernel_rfl) Tryz.func4
  (ChangeSpec.witness_shaped (enc := enc) (C := Tryz.checked) (os := os) (X := fun w _ => laidMetH Tryz.prog zdG w) false (World.laidAll Tryz.prog os zdG) #[.slice none 0 0] 8 (World.laidAll_os _ _ _)
    (World.shaped_of_ZipB (by kernel_rfl) (by kernel_rfl)) (by kernel_rfl) (by kernel_rfl) (by kernel_rfl)
    (by rw [MakeChecks.laidMetH_plain _ _ _ (by kernel_rfl)]; exact laidMet_laidAll _ (by kernel_rfl) (by kernel_rfl))) ?_
 intro W base args ds gs before hval0 hW _ _ hL _
 have hval : ∀ (j : Nat) t v, Tryz.f4.params[j]? = some t -> args[j]? = some v -> Value.okWide Tryz.prog W .any base t v := hval0
 have hW' := hW
 obtain ⟨p, q, hA0, hV, rfl, hfz, hnd⟩ := hW
 have hA : DataW.TrodAll enc Tryz.prog W 0 (fun _ => true) true Tryz.f4.params.toList args.toList ds p := hA0
 rw [Tryz.params4] at hA hval
 obtain ⟨v0, vs0, d0, ds0, p0, q0, hargs, rfl, rfl, h0, r0⟩ := trodAll_cons hA
 obtain ⟨rfl, rfl, rfl⟩ := trodAll_nil r0
 obtain rfl : args = #[v0] := by cases args; simp_all
 obtain ⟨rfl, rfl⟩ := trodVars_none hV
 have lt0 : ∀ x ∈ p0, x.block < W.heap.size := by obtain ⟨m, hm⟩ := h0; exact DataW.trod_lt m _ _ _ hm
 obtain ⟨x0, w0⟩ := zki (hval 0 22 v0 rfl rfl) h0
 clear hA0 hval0
 refine (zgC v0 x0 W w0 (zj4 hL)).mono fun e W' ⟨he, bel⟩ => ?_
 subst he
 exact ⟨_, rfl, _, _, _, [], _, [], hW', trodAll_mk1 (shut_bool Tryz.underlying4 _), (trodAll_cons_mk (Below.trod Tryz.laidOut (by kernel_rfl) (of_decide_eq_true (by kernel_rfl)) h0 bel lt0) trodAll_mk0), rfl, bel.frame _, fun h => by cases h⟩
open Go.ChangeShapes Go.WideShapes Go.ChangeAt Go.RowKit
theorem fnRounds_holds : Rows.FnRoundsSaid :=
 OpenClaim.holds_of_wide 4 Tryz.f4 rfl rfl rfl rfl rfl rfl rfl ⟨rfl, rfl, rfl, rfl, rfl⟩ rfl rfl rfl rfl rfl (by kernel_rfl) Tryz.func4 fnRounds_joined
  (of_decide_eq_true (by kernel_rfl)) (by unfold Func.isWrapper; rw [if_neg (of_decide_eq_false (by kernel_rfl))]; exact ⟨rfl, rfl⟩)
  (fun os started H enc _ => fnRounds_lifted os started H enc)
open Go.ChangeShapes Go.WideShapes Go.ChangeAt Go.RowKit
theorem fnRoundsCard_holds : Rows.FnRoundsCardSaid :=
 Claim7.holds_tied_plain_at .later [] [.data] true (true, "a898150b3e57ef69710a9ceff96c21c6d3d59c749694ace518ff4bc4186d9c87") false fnRounds_holds (fun _ h => by cases h) (by kernel_rfl) (fun _ h => by cases h) fnRounds_row_tie rfl ⟨rfl, rfl⟩ jf_main rfl
  (fun f fn hf hfn => by
    obtain rfl : f = 4 := Option.some.inj ((show Tryz.prog.funcNamed "loop.example/wholerules/laws.FnRounds" = some 4 by kernel_rfl).symm.trans hf) |>.symm
    obtain rfl : fn = Tryz.f4 := (Option.some.inj (Tryz.func4.symm.trans hfn)).symm
    exact ⟨jf_looks, fun j t ht => by
     rw [Tryz.params4] at ht
     have hm : t ∈ [22] := by simpa using Array.mem_of_getElem? ht
     have hall : ([22].all fun u => !Tryz.prog.wantsStandIn u) = true := by kernel_rfl
     exact (show Tryz.prog.wantsStandIn t = false by simpa using List.all_eq_true.1 hall t hm)⟩)
  fnRounds_goes
end Go.Proofs.YtofkcmihcgmmpaaGreatDoor
