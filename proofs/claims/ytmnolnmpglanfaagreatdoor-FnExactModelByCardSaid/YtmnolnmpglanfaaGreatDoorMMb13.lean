/-
  Texts that the claim's last one imports, laid together: part 13 of 15. No condition of its own.
-/
import Derived.Test.YtmnolnmpglanfaaGreatDoorMMb2
import Derived.Test.YtmnolnmpglanfaaGreatDoorMMb5
import Derived.Test.YtmnolnmpglanfaaGreatDoorMMb7
import Derived.Test.YtmnolnmpglanfaaGreatDoorMMb9
import Derived.Test.YtmnolnmpglanfaaGreatDoorMMb12
namespace Go.Proofs.YtmnolnmpglanfaaGreatDoor
open Go.RowKit
theorem cntX_le (X : List FV) (n p : Nat) : cntX X n p <= (ofX X p).length := by
 unfold cntX
 rw [ofX_len]
 exact ofP_take_le _ _ _
theorem cntX_mono (X : List FV) {a b : Nat} (h : a <= b) (p : Nat) : cntX X a p <= cntX X b p := by
 unfold cntX
 rw [take_mid h, ofP_append, List.length_append]
 omega
theorem ofX_take (X : List FV) (n p : Nat) : (factsX (ofX X p)).take (cntX X n p) = ofP ((factsX X).take n) p := by
 rw [ofX_facts]
 exact (ofP_take _ _ _).symm
theorem GrAt.ages {w : World} {g o e p c : Nat} {X : List FV} {E : List Nat} {R : Nat -> Value} {A : Option Addr} (h : GrAt w g X E o e R) (hp : p < 24) (hv : R (2 + p) = .slice A (ofX X p).length c) :
 RdFacts w w.heap.size (.slice A (cntX X e p) c) (ageOf (factsX X) o e p).1 /\ RdFacts w w.heap.size (.slice A (cntX X o p) c) (ageOf (factsX X) o e p).2.1 /\
 RdFacts w w.heap.size (.slice (if c = cntX X o p then A else A.map (·.add (cntX X o p * 2))) (cntX X e p - cntX X o p) (c - cntX X o p)) (ageOf (factsX X) o e p).2.2 := by
 have hr := h.raw.pred p hp
 have ha := h.raw.argsP p hp
 have hc : (ofX X p).length <= c := by
  rcases hr.2 with ⟨e1, e0⟩ | ⟨b', cap, cur, e1, _, _, h2, _⟩
  ·rw [hv] at e1; injection e1 with _ e2 e3; omega
  ·rw [hv] at e1; injection e1 with _ e2 e3; omega
 have he := cntX_le X e p
 have ho := cntX_le X o p
 have hoe := cntX_mono X h.oe p
 refine ⟨?_, ?_, ?_⟩
 ·have h1 := rdX hr ha he hv (c' := c) (by omega)
  rw [ofX_take] at h1
  exact h1
 ·have h1 := rdX hr ha ho hv (c' := c) (by omega)
  rw [ofX_take] at h1
  exact h1
 ·rw [hv] at hr
  have h1 := rdX_mid hr ha hoe he
  rw [ofX_take] at h1
  exact h1
set_option maxHeartbeats 4000000 in
set_option maxRecDepth 100000 in
theorem byAge_any (g : Nat) (X : List FV) (E : List Nat) (o e : Nat) (R : Nat -> Value) (v2 : Value) (ls : List LLit) (w : World) (h : GrAt w g X E o e R) (h2 : RdLits w w.heap.size v2 ls) (hp : ∀ l ∈ ls, 0 <= l.2.1 /\ l.2.1 < 24) (hn : ls.length <= 1048576) (hX : X.length <= 1048576) :
 Calls Tryz.prog 250 #[.pointer (some ⟨g, 0, none⟩), v2] w fun e' w' =>
  ∃ g2 us, e' = .returned (.slice (some ⟨g2, 0, none⟩) ls.length ls.length) /\ w.heap.size <= g2 /\ AtA w' g2 ls.length us /\ RdAges w' w.heap.size us (agesOf (factsX X) o e ls) /\ Below w.heap.size w w' := by
 obtain ⟨i0, hi0, hz0, hz1, hz2⟩ := info_parts Tryz.infoAges
 have hmk := fun W => run_make_rowN (P := Tryz.prog) 278 301 i0 (.agg #[.slice none 0 0, .slice none 0 0, .slice none 0 0]) Tryz.underlying278 hi0 hz0 .i64 .i64 ls.length ls.length (Nat.le_refl _) (by rw [hz2]; omega) (by omega) W
 rw [hz1] at hmk
 simp only [Value.cells] at hmk
 have HG := Lib.hid h
 have H2 := Lib.hid h2
 have HP := Lib.hid hp
 have hgl := h.lt
 obtain ⟨A2, c2, rfl, hc2, _⟩ := h2
 obtain ⟨cs, hcs⟩ : ∃ cs, cs = madeCells #[Value.slice none 0 0, Value.slice none 0 0, Value.slice none 0 0] (ls.length * 3) := ⟨_, rfl⟩
 have HM := Lib.hid (AtA.made w cs ls.length (by rw [hcs]; simp [madeCells]) (by unfold maxLen; omega))
 rw [<- hcs] at hmk
 clear hcs h hp
 go_enter Tryz.func250, Tryz.ntmps250
 go_wp2_with fail
 obtain ⟨w1, hw1⟩ : ∃ w1, w1 = w.alloc (Obj.cells cs 301) := ⟨_, rfl⟩
 have B1 : Below w.heap.size w w1 := by rw [hw1]; exact below1 _ _
 rw [<- hw1] at HM ⊢
 have HB1 := Lib.hid B1
 have hs1 : w.heap.size < w1.heap.size := by rw [hw1]; simp
 obtain ⟨ga, hga⟩ : ∃ ga, ga = w.heap.size := ⟨_, rfl⟩
 rw [<- hga] at HM
 have HGA := Lib.hid hga
 rw [show (w.heap.size : Nat) = ga from hga.symm]
 clear hw1 hmk B1 hga
 go_loopw [14] (fun i wr => ∃ (k : Nat) (us : List AV), k <= ls.length /\ i = .int .i64 k /\ us.length = k /\ AtA wr ga ls.length us /\ RdAges wr w.heap.size us (agesOf (factsX X) o e (ls.take k)) /\ Only ga (ga + 1) w1 wr) (fun i _ => ls.length - (intOf i).toNat)
 case atStart => exact ⟨0, [], Nat.zero_le _, rfl, rfl, HM.out, ⟨by simp [agesOf], fun k h1 => absurd h1 (by simp)⟩, Only.refl _ _ _⟩
 case round =>
  obtain ⟨k, us, hk, rfl, hul, hat, hrd, hon⟩ := hrel
  by_cases hlt : k < ls.length
  ·have hbe : Below w.heap.size w wr := Only.then_ HB1.out hon (by have := HGA.out; omega)
   obtain ⟨b, o3, u0, u1, u2, rfl, hbB, k0, k1, k2, rfl, rfl, p3⟩ := (H2.out.below hbe (Nat.le_refl _)).get hlt
   obtain ⟨A4, c4, rfl, hc4, _⟩ := p3
   have hsz := hon.size
   obtain ⟨l, hle⟩ : ∃ l, l = ls[k] := ⟨_, rfl⟩
   have hpl : 0 <= l.2.1 /\ l.2.1 < 24 := by rw [hle]; exact HP.out _ (List.getElem_mem hlt)
   obtain ⟨p, hpe⟩ : ∃ p : Nat, l.2.1 = (p : Int) := ⟨l.2.1.toNat, by omega⟩
   have hp24 : p < 24 := by omega
   have hpi : (p : Int) < 24 := by omega
   rw [<- hle] at k0 k1 k2
   rw [hpe] at k1
   have HTK := Lib.hid (show ageOf (factsX X) o e p = ageOf (factsX X) o e l.2.1 /\ ls.take (k + 1) = ls.take k ++ [l] by rw [hpe, hle]; exact ⟨rfl, take_snoc ls k hlt⟩)
   clear hle hpe hpl
   go_upto_region 5 with fail
   obtain ⟨w2, hw2⟩ : ∃ w2, w2 = wr.alloc (Obj.cells #[Value.int IntKind.i64 l.1, Value.int IntKind.i64 (p : Int), Value.slice A4 l.2.2.length c4] 191) := ⟨_, rfl⟩
   have b2 : Below wr.heap.size wr w2 := by rw [hw2]; exact below1 _ _
   have y2 : Blk w2 wr.heap.size 191 #[.int .i64 l.1, .int .i64 (p : Int), .slice A4 l.2.2.length c4] := by rw [hw2]; exact Blk.new _ _ _
   rw [<- hw2]
   clear hw2 k0 k1 k2
   have q1 : w2.cell? ⟨wr.heap.size, 1, none⟩ = some (.int .i64 (p : Int)) := y2.cell 1
   have d1 : w2.drew.cell? ⟨wr.heap.size, 1, none⟩ = some (.int .i64 (p : Int)) := y2.cell 1
   have HW2 := Lib.hid (show Below w.heap.size w w2 from bthen hbe b2)
   have HA2 := Lib.hid (show AtA w2 ga ls.length us from hat.below b2 hat.lt)
   have HO2 := Lib.hid (show Only ga (ga + 1) w1 w2 from hon.trans (Only.of_below b2))
   have HRD := Lib.hid (show RdAges w2 w.heap.size us (agesOf (factsX X) o e (ls.take k)) from hrd.below b2 (by have := hbe.size; omega))
   have hgs : ga < w2.heap.size := HA2.out.lt
   clear hat hrd hon hbe b2 y2
   go_big_region
   go_upto_region 6 with fail
   obtain ⟨A3, c3, hv3⟩ := (HG.out.raw.formP hp24)
   obtain ⟨ce, hce⟩ : ∃ ce, ce = cntX X e p := ⟨_, rfl⟩
   obtain ⟨co, hco⟩ : ∃ co, co = cntX X o p := ⟨_, rfl⟩
   have HV := Lib.hid hv3
   have HCN := Lib.hid (And.intro hce hco)
   refine wp_region_rel (fun W => W.cell? ⟨g, 26 + p * 3, none⟩ = some (.slice A3 (ofX X p).length c3) /\ W.cell? ⟨g, 26 + p * 3 + 1, none⟩ = some (.int .i64 (co : Int)) /\ W.cell? ⟨g, 26 + p * 3 + 2, none⟩ = some (.int .i64 (ce : Int))) 35 36 (by kernel_rfl) rfl ?_
   obtain ⟨wz, hwz⟩ : ∃ wz, wz = w2.drew.drew := ⟨_, rfl⟩
   have HWZ := Lib.hid (show Below w2.heap.size w2 wz by rw [hwz]; exact (Below.refl _ _).drew.drew)
   rw [<- hwz]
   clear hwz
   obtain ⟨SS, hSS⟩ : ∃ SS : World -> Prop, SS = (fun W => W.cell? ⟨g, 26 + p * 3, none⟩ = some (.slice A3 (ofX X p).length c3) /\ W.cell? ⟨g, 26 + p * 3 + 1, none⟩ = some (.int .i64 (co : Int)) /\ W.cell? ⟨g, 26 + p * 3 + 2, none⟩ = some (.int .i64 (ce : Int))) := ⟨_, rfl⟩
   rw [<- hSS]
   have HB := Lib.hid (show ∀ W, SS W -> (W.cell? ⟨g, 26 + p * 3, none⟩ = some (.slice A3 (ofX X p).length c3) /\ W.cell? ⟨g, 26 + p * 3 + 1, none⟩ = some (.int .i64 (co : Int)) /\ W.cell? ⟨g, 26 + p * 3 + 2, none⟩ = some (.int .i64 (ce : Int))) from by rw [hSS]; exact fun W hW => hW)
   have HGZ := Lib.hid (show GrAt wz g X E o e R from HG.out.on (bthen HW2.out HWZ.out))
   have SB : SS wz := by
    rw [hSS, <- hv3, hce, hco]
    exact ⟨HGZ.out.raw.cellPred hp24, HGZ.out.raw.cellOld hp24, HGZ.out.raw.cellLat hp24⟩
   have AGE := Lib.hid (HG.out.ages hp24 hv3)
   rw [<- hce, <- hco] at AGE
   have hlim : (co : Int) <= (ce : Int) /\ (ce : Int) <= (c3 : Int) := by
    have h1 := cntX_mono X HG.out.oe p
    have h2 := cntX_le X e p
    have h3 : (ofX X p).length <= c3 := by
     rcases (HG.out.raw.pred p hp24).2 with ⟨e1, e0⟩ | ⟨b', cap, cur, e1, _, _, h2, _⟩
     ·rw [hv3] at e1; injection e1 with _ e2 e3; omega
     ·rw [hv3] at e1; injection e1 with _ e2 e3; omega
    omega
   obtain ⟨hl1, hl2⟩ := hlim
   have hl3 : (co : Int) <= (c3 : Int) := by omega
   clear hSS hv3 hce hco
   refine wpAnyR_pure (i := 0) (oi := _) ?vb0 rfl rfl (by kernel_rfl) (by decide) (fun _ _ _ h => h) rfl ?hyb0 (fun _ => SB) ?restb0
   case hyb0 => (intro W; go_simp; (try with_reducible rfl))
   try simp only [List.setIfInBounds_toArray, List.set_cons_zero, List.set_cons_succ]
   refine wpAnyR_pure (i := 1) (oi := _) ?vb1 rfl rfl (by kernel_rfl) (by decide) (fun _ _ _ h => h) rfl ?hyb1 (fun _ => SB) ?restb1
   case hyb1 => (intro W; go_simp; (try with_reducible rfl))
   try simp only [List.setIfInBounds_toArray, List.set_cons_zero, List.set_cons_succ]
   refine wpAnyR_pure (i := 2) (oi := _) ?vb2 rfl rfl (by kernel_rfl) (by decide) (fun _ _ _ h => h) rfl ?hyb2 (fun _ => SB) ?restb2
   case hyb2 => (intro W; go_simp; (try with_reducible rfl))
   try simp only [List.setIfInBounds_toArray, List.set_cons_zero, List.set_cons_succ]
   refine wpAnyR_pure (i := 3) (oi := _) ?vb3 rfl rfl (by kernel_rfl) (by decide) (fun _ _ _ h => h) rfl ?hyb3 (fun _ => SB) ?restb3
   case hyb3 => (intro W; go_simp; (try with_reducible rfl))
   try simp only [List.setIfInBounds_toArray, List.set_cons_zero, List.set_cons_succ]
   refine wpAnyR_pure (i := 4) (oi := _) ?vb4 rfl rfl (by kernel_rfl) (by decide) (fun _ _ _ h => h) rfl ?hyb4 (fun _ => SB) ?restb4
   case hyb4 => (intro W; go_simp; (try with_reducible rfl))
   try simp only [List.setIfInBounds_toArray, List.set_cons_zero, List.set_cons_succ]
   refine wpAnyR_take (i := 5) (oi := _) ?vb5 rfl rfl (by kernel_rfl) (fun _ _ _ h => h) rfl ?hyb5 SB ?restb5
   case hyb5 => (intro W hW; obtain ⟨E0, E1, E2⟩ := HB.out W hW; go_simp; (try with_reducible rfl))
   try simp only [List.setIfInBounds_toArray, List.set_cons_zero, List.set_cons_succ]
   refine wpAnyR_pure (i := 6) (oi := _) ?vb6 rfl rfl (by kernel_rfl) (by decide) (fun _ _ _ h => h) rfl ?hyb6 (fun _ => SB) ?restb6
   case hyb6 => (intro W; go_simp; (try with_reducible rfl))
   try simp only [List.setIfInBounds_toArray, List.set_cons_zero, List.set_cons_succ]
   refine wpAnyR_pure (i := 7) (oi := _) ?vb7 rfl rfl (by kernel_rfl) (by decide) (fun _ _ _ h => h) rfl ?hyb7 (fun _ => SB) ?restb7
   case hyb7 => (intro W; go_simp; (try with_reducible rfl))
   try simp only [List.setIfInBounds_toArray, List.set_cons_zero, List.set_cons_succ]
   refine wpAnyR_pure (i := 8) (oi := _) ?vb8 rfl rfl (by kernel_rfl) (by decide) (fun _ _ _ h => h) rfl ?hyb8 (fun _ => SB) ?restb8
   case hyb8 => (intro W; go_simp; (try with_reducible rfl))
   try simp only [List.setIfInBounds_toArray, List.set_cons_zero, List.set_cons_succ]
   refine wpAnyR_take (i := 9) (oi := _) ?vb9 rfl rfl (by kernel_rfl) (fun _ _ _ h => h) rfl ?hyb9 SB ?restb9
   case hyb9 => (intro W hW; obtain ⟨E0, E1, E2⟩ := HB.out W hW; go_simp; (try with_reducible rfl))
   try simp only [List.setIfInBounds_toArray, List.set_cons_zero, List.set_cons_succ]
   refine wpAnyR_pure (i := 10) (oi := _) ?vb10 rfl rfl (by kernel_rfl) (by decide) (fun _ _ _ h => h) rfl ?hyb10 (fun _ => SB) ?restb10
   case hyb10 => (intro W; go_simp; (try with_reducible rfl))
   try simp only [List.setIfInBounds_toArray, List.set_cons_zero, List.set_cons_succ]
   refine wpAnyR_pure (i := 11) (oi := _) ?vb11 rfl rfl (by kernel_rfl) (by decide) (fun _ _ _ h => h) rfl ?hyb11 (fun _ => SB) ?restb11
   case hyb11 => (intro W; go_simp; (try with_reducible rfl))
   try simp only [List.setIfInBounds_toArray, List.set_cons_zero, List.set_cons_succ]
   refine wpAnyR_pure (i := 12) (oi := _) ?vb12 rfl rfl (by kernel_rfl) (by decide) (fun _ _ _ h => h) rfl ?hyb12 (fun _ => SB) ?restb12
   case hyb12 => (intro W; go_simp; (try with_reducible rfl))
   try simp only [List.setIfInBounds_toArray, List.set_cons_zero, List.set_cons_succ]
   refine wpAnyR_pure (i := 13) (oi := _) ?vb13 rfl rfl (by kernel_rfl) (by decide) (fun _ _ _ h => h) rfl ?hyb13 (fun _ => SB) ?restb13
   case hyb13 => (intro W; go_simp; (try with_reducible rfl))
   try simp only [List.setIfInBounds_toArray, List.set_cons_zero, List.set_cons_succ]
   refine wpAnyR_take (i := 14) (oi := _) ?vb14 rfl rfl (by kernel_rfl) (fun _ _ _ h => h) rfl ?hyb14 SB ?restb14
   case hyb14 => (intro W hW; obtain ⟨E0, E1, E2⟩ := HB.out W hW; go_simp; (try with_reducible rfl))
   try simp only [List.setIfInBounds_toArray, List.set_cons_zero, List.set_cons_succ]
   refine wpAnyR_pure (i := 15) (oi := _) ?vb15 rfl rfl (by kernel_rfl) (by decide) (fun _ _ _ h => h) rfl ?hyb15 (fun _ => SB) ?restb15
   case hyb15 => (intro W; go_simp; (try with_reducible rfl))
   try simp only [List.setIfInBounds_toArray, List.set_cons_zero, List.set_cons_succ]
   refine wpAnyR_pure (i := 16) (oi := _) ?vb16 rfl rfl (by kernel_rfl) (by decide) (fun _ _ _ h => h) rfl ?hyb16 (fun _ => SB) ?restb16
   case hyb16 => (intro W; go_simp; (try with_reducible rfl))
   try simp only [List.setIfInBounds_toArray, List.set_cons_zero, List.set_cons_succ]
   refine wpAnyR_pure (i := 17) (oi := _) ?vb17 rfl rfl (by kernel_rfl) (by decide) (fun _ _ _ h => h) rfl ?hyb17 (fun _ => SB) ?restb17
   case hyb17 => (intro W; go_simp; (try with_reducible rfl))
   try simp only [List.setIfInBounds_toArray, List.set_cons_zero, List.set_cons_succ]
   refine wpAnyR_take (i := 18) (oi := _) ?vb18 rfl rfl (by kernel_rfl) (fun _ _ _ h => h) rfl ?hyb18 SB ?restb18
   case hyb18 => (intro W hW; obtain ⟨E0, E1, E2⟩ := HB.out W hW; go_simp; (try with_reducible rfl))
   try simp only [List.setIfInBounds_toArray, List.set_cons_zero, List.set_cons_succ]
   refine wpAnyR_pure (i := 19) (oi := _) ?vb19 rfl rfl (by kernel_rfl) (by decide) (fun _ _ _ h => h) rfl ?hyb19 (fun _ => SB) ?restb19
   case hyb19 => (intro W; go_simp; (try with_reducible rfl))
   try simp only [List.setIfInBounds_toArray, List.set_cons_zero, List.set_cons_succ]
   refine wpAnyR_pure (i := 20) (oi := _) ?vb20 rfl rfl (by kernel_rfl) (by decide) (fun _ _ _ h => h) rfl ?hyb20 (fun _ => SB) ?restb20
   case hyb20 => (intro W; go_simp; (try with_reducible rfl))
   try simp only [List.setIfInBounds_toArray, List.set_cons_zero, List.set_cons_succ]
   refine wpAnyR_pure (i := 21) (oi := _) ?vb21 rfl rfl (by kernel_rfl) (by decide) (fun _ _ _ h => h) rfl ?hyb21 (fun _ => SB) ?restb21
   case hyb21 => (intro W; go_simp; (try with_reducible rfl))
   try simp only [List.setIfInBounds_toArray, List.set_cons_zero, List.set_cons_succ]
   refine wpAnyR_pure (i := 22) (oi := _) ?vb22 rfl rfl (by kernel_rfl) (by decide) (fun _ _ _ h => h) rfl ?hyb22 (fun _ => SB) ?restb22
   case hyb22 => (intro W; go_simp; (try with_reducible rfl))
   try simp only [List.setIfInBounds_toArray, List.set_cons_zero, List.set_cons_succ]
   refine wpAnyR_take (i := 23) (oi := _) ?vb23 rfl rfl (by kernel_rfl) (fun _ _ _ h => h) rfl ?hyb23 SB ?restb23
   case hyb23 => (intro W hW; obtain ⟨E0, E1, E2⟩ := HB.out W hW; go_simp; (try with_reducible rfl))
   try simp only [List.setIfInBounds_toArray, List.set_cons_zero, List.set_cons_succ]
   refine wpAnyR_pure (i := 24) (oi := _) ?vb24 rfl rfl (by kernel_rfl) (by decide) (fun _ _ _ h => h) rfl ?hyb24 (fun _ => SB) ?restb24
   case hyb24 => (intro W; go_simp; (try with_reducible rfl))
   try simp only [List.setIfInBounds_toArray, List.set_cons_zero, List.set_cons_succ]
   refine wpAnyR_pure (i := 25) (oi := _) ?vb25 rfl rfl (by kernel_rfl) (by decide) (fun _ _ _ h => h) rfl ?hyb25 (fun _ => SB) ?restb25
   case hyb25 => (intro W; go_simp; (try with_reducible rfl))
   try simp only [List.setIfInBounds_toArray, List.set_cons_zero, List.set_cons_succ]
   refine wpAnyR_pure (i := 26) (oi := _) ?vb26 rfl rfl (by kernel_rfl) (by decide) (fun _ _ _ h => h) rfl ?hyb26 (fun _ => SB) ?restb26
   case hyb26 => (intro W; go_simp; (try with_reducible rfl))
   try simp only [List.setIfInBounds_toArray, List.set_cons_zero, List.set_cons_succ]
   refine wpAnyR_take (i := 27) (oi := _) ?vb27 rfl rfl (by kernel_rfl) (fun _ _ _ h => h) rfl ?hyb27 SB ?restb27
   case hyb27 => (intro W hW; obtain ⟨E0, E1, E2⟩ := HB.out W hW; go_simp; (try with_reducible rfl))
   try simp only [List.setIfInBounds_toArray, List.set_cons_zero, List.set_cons_succ]
   refine wpAnyR_pure (i := 28) (oi := _) ?vb28 rfl rfl (by kernel_rfl) (by decide) (fun _ _ _ h => h) rfl ?hyb28 (fun _ => SB) ?restb28
   case hyb28 => (intro W; go_simp; (try with_reducible rfl))
   try simp only [List.setIfInBounds_toArray, List.set_cons_zero, List.set_cons_succ]
   refine wpAnyR_pure (i := 29) (oi := _) ?vb29 rfl rfl (by kernel_rfl) (by decide) (fun _ _ _ h => h) rfl ?hyb29 (fun _ => SB) ?restb29
   case hyb29 => (intro W; go_simp; (try with_reducible rfl))
   try simp only [List.setIfInBounds_toArray, List.set_cons_zero, List.set_cons_succ]
   refine wpAnyR_pure (i := 30) (oi := _) ?vb30 rfl rfl (by kernel_rfl) (by decide) (fun _ _ _ h => h) rfl ?hyb30 (fun _ => SB) ?restb30
   case hyb30 => (intro W; go_simp; (try with_reducible rfl))
   try simp only [List.setIfInBounds_toArray, List.set_cons_zero, List.set_cons_succ]
   refine wpAnyR_take (i := 31) (oi := _) ?vb31 rfl rfl (by kernel_rfl) (fun _ _ _ h => h) rfl ?hyb31 SB ?restb31
   case hyb31 => (intro W hW; obtain ⟨E0, E1, E2⟩ := HB.out W hW; go_simp; (try with_reducible rfl))
   try simp only [List.setIfInBounds_toArray, List.set_cons_zero, List.set_cons_succ]
   refine wpAnyR_pure (i := 32) (oi := _) ?vb32 rfl rfl (by kernel_rfl) (by decide) (fun _ _ _ h => h) rfl ?hyb32 (fun _ => SB) ?restb32
   case hyb32 => (intro W; go_simp; (try with_reducible rfl))
   try simp only [List.setIfInBounds_toArray, List.set_cons_zero, List.set_cons_succ]
   refine wpAnyR_pure (i := 33) (oi := _) ?vb33 rfl rfl (by kernel_rfl) (by decide) (fun _ _ _ h => h) rfl ?hyb33 (fun _ => SB) ?restb33
   case hyb33 => (intro W; go_simp; (try with_reducible rfl))
   try simp only [List.setIfInBounds_toArray, List.set_cons_zero, List.set_cons_succ]
   have HAZ := HA2.out.below HWZ.out hgs
   obtain ⟨x0, r0⟩ := HAZ.free (j := k * 3) (by omega)
   obtain ⟨x1, r1⟩ := HAZ.free (j := k * 3 + 1) (by omega)
   obtain ⟨x2, r2⟩ := HAZ.free (j := k * 3 + 2) (by omega)
   have f0 := HAZ.frozen (k * 3)
   have f1 := HAZ.frozen (k * 3 + 1)
   have f2 := HAZ.frozen (k * 3 + 2)
   have hp3 := HAZ.push (by omega) (.slice A3 ce c3, .slice A3 co c3, .slice (if c3 = co then A3 else A3.map (·.add (co * 2))) (ce - co) (c3 - co))
   rw [hul] at hp3
   have HP3 := Lib.hid hp3
   have HWB := Lib.hid (show Below w.heap.size w wz from bthen HW2.out HWZ.out)
   have HRZ := Lib.hid (show RdAges wz w.heap.size us (agesOf (factsX X) o e (ls.take k)) from HRD.out.below HWZ.out (by have := HW2.out.size; omega))
   clear HAZ hp3
   refine wpAnyR_pure (i := 34) (oi := _) ?vb34 rfl rfl (by kernel_rfl) (by decide) (fun _ _ _ h => h) rfl ?hyb34 (fun _ => SB) ?restb34
   case hyb34 => (intro W; go_simp; (try with_reducible rfl))
   try simp only [List.setIfInBounds_toArray, List.set_cons_zero, List.set_cons_succ]
   refine wpAnyR_one (i := 35) (by kernel_rfl) rfl (fun K hK => ?_)
   go_simp
   refine hK.out _ _ (fun hf => absurd hf (by decide)) ?_
   clear hK K
   refine wpAnyR_done (by kernel_rfl) ?_
   have HN := Lib.hid (show ∀ W, W = wz.setCells ga (k * 3) [.slice A3 ce c3, .slice A3 co c3, .slice (if c3 = co then A3 else A3.map (·.add (co * 2))) (ce - co) (c3 - co)] -> AtA W ga ls.length (us ++ [(.slice A3 ce c3, .slice A3 co c3, .slice (if c3 = co then A3 else A3.map (·.add (co * 2))) (ce - co) (c3 - co))]) /\ RdAges W w.heap.size (us ++ [(.slice A3 ce c3, .slice A3 co c3, .slice (if c3 = co then A3 else A3.map (·.add (co * 2))) (ce - co) (c3 - co))]) (agesOf (factsX X) o e (ls.take (k + 1))) /\ Only ga (ga + 1) w1 W from fun W hW => by
    subst hW
    have hbz : Below w.heap.size wz (wz.setCells ga (k * 3) [.slice A3 ce c3, .slice A3 co c3, .slice (if c3 = co then A3 else A3.map (·.add (co * 2))) (ce - co) (c3 - co)]) := HP3.out.2.below (by have := HGA.out; omega) HWB.out.size
    refine ⟨HP3.out.1, ?_, (HO2.out.trans (Only.of_below HWZ.out)).trans HP3.out.2⟩
    have he : agesOf (factsX X) o e (ls.take (k + 1)) = agesOf (factsX X) o e (ls.take k) ++ [ageOf (factsX X) o e p] := by
     rw [HTK.out.1, HTK.out.2]
     simp [agesOf]
    rw [he]
    have hbw := HWB.out.trans hbz
    exact (HRZ.out.below hbz (Nat.le_refl _)).snoc (AGE.out.1.below hbw (Nat.le_refl _)) (AGE.out.2.1.below hbw (Nat.le_refl _)) (AGE.out.2.2.below hbw (Nat.le_refl _)))
   have HN2 := Lib.hid (HN.out _ rfl)
   clear r0 r1 r2 f0 f1 f2 SB
   go_wp2_with fail
   go_roundw
   case rel => exact ⟨k + 1, _, by omega, by go_num, by simp [hul], HN2.out.1, HN2.out.2.1, HN2.out.2.2⟩
   case measure => simp [intOf]; omega
  ·have hkn : k = ls.length := by omega
   have HF := Lib.hid (show AtA wr ga ls.length us /\ RdAges wr w.heap.size us (agesOf (factsX X) o e ls) /\ Below w.heap.size w wr from ⟨hat, by rw [hkn, List.take_length] at hrd; exact hrd, Only.then_ HB1.out hon (by have := HGA.out; omega)⟩)
   clear hkn hat hrd hon hul
   go_wp2_with fail
   go_ret
   exact ⟨_, us, rfl, by have := HGA.out; omega, HF.out.1, HF.out.2.1, HF.out.2.2⟩
open Go.RowKit
theorem RdQs.snoc {w : World} {B : Nat} {us : List QV} {qs : List LQ} {u : QV} {q : LQ} (h : RdQs w B us qs) (h1 : RdQC w B u.1 u.2.1 u.2.2.1 u.2.2.2 q) : RdQs w B (us ++ [u]) (qs ++ [q]) := by
 refine ⟨by simp [h.1], fun k k1 k2 => ?_⟩
 by_cases e : k < us.length
 ·have e' : k < qs.length := by rw [<- h.1]; exact e
  rw [List.getElem_append_left e, List.getElem_append_left e']
  exact h.2 k e e'
 ·have e2 : k = us.length := by simp at k1; omega
  subst e2
  have l1 := h.1
  have x1 : (us ++ [u])[us.length]'k1 = u := by simp
  have x2 : (qs ++ [q])[us.length]'k2 = q := by simp [l1]
  rw [x1, x2]
  exact h1
set_option maxHeartbeats 4000000 in
set_option maxRecDepth 100000 in
theorem allQuestions_any (g : Nat) (X : List FV) (E : List Nat) (o e : Nat) (R : Nat -> Value) (v2 : Value) (ls : List LLit) (w : World) (h : GrAt w g X E o e R) (h2 : RdLits w w.heap.size v2 ls) (hp : ∀ l ∈ ls, 0 <= l.2.1 /\ l.2.1 < 24) (hn : ls.length <= 1048576) (hX : X.length <= 1048576) :
 Calls Tryz.prog 203 #[.pointer (some ⟨g, 0, none⟩), v2] w fun e' w' =>
  ∃ g2 us, e' = .returned (.slice (some ⟨g2, 0, none⟩) ls.length ls.length) /\ w.heap.size <= g2 /\ AtQ w' g2 ls.length us /\ RdQs w' w.heap.size us (allQ (factsX X) e ls) /\ Below w.heap.size w w' := by
 obtain ⟨i0, hi0, hz0, hz1, hz2⟩ := info_parts Tryz.infoQuestion
 have hmk := fun W => run_make_rowN (P := Tryz.prog) 250 276 i0 (.agg #[.int .i64 0, .int .i64 0, .slice none 0 0, .slice none 0 0]) Tryz.underlying250 hi0 hz0 .i64 .i64 ls.length ls.length (Nat.le_refl _) (by rw [hz2]; omega) (by omega) W
 rw [hz1] at hmk
 simp only [Value.cells] at hmk
 have HG := Lib.hid h
 have H2 := Lib.hid h2
 have HP := Lib.hid hp
 have hgl := h.lt
 obtain ⟨A2, c2, rfl, hc2, _⟩ := h2
 obtain ⟨cs, hcs⟩ : ∃ cs, cs = madeCells #[Value.int IntKind.i64 0, Value.int IntKind.i64 0, Value.slice none 0 0, Value.slice none 0 0] (ls.length * 4) := ⟨_, rfl⟩
 have HM := Lib.hid (AtQ.made w cs ls.length (by rw [hcs]; simp [madeCells]) (by unfold maxLen; omega))
 rw [<- hcs] at hmk
 clear hcs h hp
 go_enter Tryz.func203, Tryz.ntmps203
 go_wp2_with fail
 obtain ⟨w1, hw1⟩ : ∃ w1, w1 = w.alloc (Obj.cells cs 276) := ⟨_, rfl⟩
 have B1 : Below w.heap.size w w1 := by rw [hw1]; exact below1 _ _
 rw [<- hw1] at HM ⊢
 have HB1 := Lib.hid B1
 have hs1 : w.heap.size < w1.heap.size := by rw [hw1]; simp
 obtain ⟨ga, hga⟩ : ∃ ga, ga = w.heap.size := ⟨_, rfl⟩
 rw [<- hga] at HM
 have HGA := Lib.hid hga
 rw [show (w.heap.size : Nat) = ga from hga.symm]
 clear hw1 hmk B1 hga
 go_loopw [14] (fun i wr => ∃ (k : Nat) (us : List QV), k <= ls.length /\ i = .int .i64 k /\ us.length = k /\ AtQ wr ga ls.length us /\ RdQs wr w.heap.size us (allQ (factsX X) e (ls.take k)) /\ Only ga (ga + 1) w1 wr) (fun i _ => ls.length - (intOf i).toNat)
 case atStart => exact ⟨0, [], Nat.zero_le _, rfl, rfl, HM.out, ⟨by simp [allQ], fun k h1 => absurd h1 (by simp)⟩, Only.refl _ _ _⟩
 case round =>
  obtain ⟨k, us, hk, rfl, hul, hat, hrd, hon⟩ := hrel
  by_cases hlt : k < ls.length
  ·have hbe : Below w.heap.size w wr := Only.then_ HB1.out hon (by have := HGA.out; omega)
   obtain ⟨b, o3, u0, u1, u2, rfl, hbB, k0, k1, k2, rfl, rfl, p3⟩ := (H2.out.below hbe (Nat.le_refl _)).get hlt
   have HP3A := Lib.hid p3
   obtain ⟨A4, c4, rfl, hc4, _⟩ := p3
   have hsz := hon.size
   obtain ⟨l, hle⟩ : ∃ l, l = ls[k] := ⟨_, rfl⟩
   have hpl : 0 <= l.2.1 /\ l.2.1 < 24 := by rw [hle]; exact HP.out _ (List.getElem_mem hlt)
   obtain ⟨p, hpe⟩ : ∃ p : Nat, l.2.1 = (p : Int) := ⟨l.2.1.toNat, by omega⟩
   have hp24 : p < 24 := by omega
   have hpi : (p : Int) < 24 := by omega
   rw [<- hle] at k0 k1 k2
   rw [hpe] at k1
   have HTK := Lib.hid (show ageOf (factsX X) o e p = ageOf (factsX X) o e l.2.1 /\ ls.take (k + 1) = ls.take k ++ [l] by rw [hpe, hle]; exact ⟨rfl, take_snoc ls k hlt⟩)
   rw [<- hle] at HP3A hc4
   have HL2 := Lib.hid hpe
   clear hle hpe hpl
   go_upto_region 5 with fail
   obtain ⟨w2, hw2⟩ : ∃ w2, w2 = wr.alloc (Obj.cells #[Value.int IntKind.i64 l.1, Value.int IntKind.i64 (p : Int), Value.slice A4 l.2.2.length c4] 191) := ⟨_, rfl⟩
   have b2 : Below wr.heap.size wr w2 := by rw [hw2]; exact below1 _ _
   have y2 : Blk w2 wr.heap.size 191 #[.int .i64 l.1, .int .i64 (p : Int), .slice A4 l.2.2.length c4] := by rw [hw2]; exact Blk.new _ _ _
   rw [<- hw2]
   clear hw2 k0 k1 k2
   have q1 : w2.cell? ⟨wr.heap.size, 1, none⟩ = some (.int .i64 (p : Int)) := y2.cell 1
   have d1 : w2.drew.cell? ⟨wr.heap.size, 1, none⟩ = some (.int .i64 (p : Int)) := y2.cell 1
   have HY2 := Lib.hid (And.intro y2 y2.lt)
   have HW2 := Lib.hid (show Below w.heap.size w w2 from bthen hbe b2)
   have HWR := Lib.hid (show w.heap.size <= wr.heap.size /\ Below wr.heap.size wr w2 from ⟨hbe.size, b2⟩)
   have HA2 := Lib.hid (show AtQ w2 ga ls.length us from hat.below b2 hat.lt)
   have HO2 := Lib.hid (show Only ga (ga + 1) w1 w2 from hon.trans (Only.of_below b2))
   have HRD := Lib.hid (show RdQs w2 w.heap.size us (allQ (factsX X) e (ls.take k)) from hrd.below b2 (by have := hbe.size; omega))
   have hgs : ga < w2.heap.size := HA2.out.lt
   clear hat hrd hon hbe b2 y2
   go_big_region
   go_upto_region 6 with fail
   obtain ⟨A3, c3, hv3⟩ := (HG.out.raw.formP hp24)
   obtain ⟨bx, hbx⟩ : ∃ bx, bx = wr.heap.size := ⟨_, rfl⟩
   rw [<- hbx]
   have HBX := Lib.hid hbx
   clear hbx
   obtain ⟨ce, hce⟩ : ∃ ce, ce = cntX X e p := ⟨_, rfl⟩
   obtain ⟨co, hco⟩ : ∃ co, co = cntX X o p := ⟨_, rfl⟩
   have HV := Lib.hid hv3
   have HCN := Lib.hid (And.intro hce hco)
   refine wp_region_rel (fun W => W.cell? ⟨g, 26 + p * 3, none⟩ = some (.slice A3 (ofX X p).length c3) /\ W.cell? ⟨g, 26 + p * 3 + 2, none⟩ = some (.int .i64 (ce : Int)) /\ W.cell? ⟨bx, 0, none⟩ = some (.int .i64 l.1) /\ W.cell? ⟨bx, 1, none⟩ = some (.int .i64 (p : Int)) /\ W.cell? ⟨bx, 2, none⟩ = some (.slice A4 l.2.2.length c4)) 14 15 (by kernel_rfl) rfl ?_
   obtain ⟨wz, hwz⟩ : ∃ wz, wz = w2.drew.drew := ⟨_, rfl⟩
   have HWZ := Lib.hid (show Below w2.heap.size w2 wz by rw [hwz]; exact (Below.refl _ _).drew.drew)
   rw [<- hwz]
   clear hwz
   obtain ⟨SS, hSS⟩ : ∃ SS : World -> Prop, SS = (fun W => W.cell? ⟨g, 26 + p * 3, none⟩ = some (.slice A3 (ofX X p).length c3) /\ W.cell? ⟨g, 26 + p * 3 + 2, none⟩ = some (.int .i64 (ce : Int)) /\ W.cell? ⟨bx, 0, none⟩ = some (.int .i64 l.1) /\ W.cell? ⟨bx, 1, none⟩ = some (.int .i64 (p : Int)) /\ W.cell? ⟨bx, 2, none⟩ = some (.slice A4 l.2.2.length c4)) := ⟨_, rfl⟩
   rw [<- hSS]
   have HB := Lib.hid (show ∀ W, SS W -> (W.cell? ⟨g, 26 + p * 3, none⟩ = some (.slice A3 (ofX X p).length c3) /\ W.cell? ⟨g, 26 + p * 3 + 2, none⟩ = some (.int .i64 (ce : Int)) /\ W.cell? ⟨bx, 0, none⟩ = some (.int .i64 l.1) /\ W.cell? ⟨bx, 1, none⟩ = some (.int .i64 (p : Int)) /\ W.cell? ⟨bx, 2, none⟩ = some (.slice A4 l.2.2.length c4)) from by rw [hSS]; exact fun W hW => hW)
   have HGZ := Lib.hid (show GrAt wz g X E o e R from HG.out.on (bthen HW2.out HWZ.out))
   have SB : SS wz := by
    rw [hSS, <- hv3, hce]
    have hy := HY2.out.1.below HWZ.out HY2.out.2
    rw [<- HBX.out] at hy
    exact ⟨HGZ.out.raw.cellPred hp24, HGZ.out.raw.cellLat hp24, hy.cell 0, hy.cell 1, hy.cell 2⟩
   have AGE := Lib.hid (HG.out.ages hp24 hv3)
   rw [<- hce, <- hco] at AGE
   have hlim : (co : Int) <= (ce : Int) /\ (ce : Int) <= (c3 : Int) := by
    have h1 := cntX_mono X HG.out.oe p
    have h2 := cntX_le X e p
    have h3 : (ofX X p).length <= c3 := by
     rcases (HG.out.raw.pred p hp24).2 with ⟨e1, e0⟩ | ⟨b', cap, cur, e1, _, _, h2, _⟩
     ·rw [hv3] at e1; injection e1 with _ e2 e3; omega
     ·rw [hv3] at e1; injection e1 with _ e2 e3; omega
    omega
   obtain ⟨hl1, hl2⟩ := hlim
   have hl3 : (co : Int) <= (c3 : Int) := by omega
   clear hSS hv3 hce hco
   refine wpAnyR_pure (i := 0) (oi := _) ?vb0 rfl rfl (by kernel_rfl) (by decide) (fun _ _ _ h => h) rfl ?hyb0 (fun _ => SB) ?restb0
   case hyb0 => (intro W; go_simp; (try with_reducible rfl))
   try simp only [List.setIfInBounds_toArray, List.set_cons_zero, List.set_cons_succ]
   refine wpAnyR_pure (i := 1) (oi := _) ?vb1 rfl rfl (by kernel_rfl) (by decide) (fun _ _ _ h => h) rfl ?hyb1 (fun _ => SB) ?restb1
   case hyb1 => (intro W; go_simp; (try with_reducible rfl))
   try simp only [List.setIfInBounds_toArray, List.set_cons_zero, List.set_cons_succ]
   refine wpAnyR_take (i := 2) (oi := _) ?vb2 rfl rfl (by kernel_rfl) (fun _ _ _ h => h) rfl ?hyb2 SB ?restb2
   case hyb2 => (intro W hW; obtain ⟨E0, E1, E2, E3, E4⟩ := HB.out W hW; go_simp; (try with_reducible rfl))
   try simp only [List.setIfInBounds_toArray, List.set_cons_zero, List.set_cons_succ]
   refine wpAnyR_pure (i := 3) (oi := _) ?vb3 rfl rfl (by kernel_rfl) (by decide) (fun _ _ _ h => h) rfl ?hyb3 (fun _ => SB) ?restb3
   case hyb3 => (intro W; go_simp; (try with_reducible rfl))
   try simp only [List.setIfInBounds_toArray, List.set_cons_zero, List.set_cons_succ]
   refine wpAnyR_pure (i := 4) (oi := _) ?vb4 rfl rfl (by kernel_rfl) (by decide) (fun _ _ _ h => h) rfl ?hyb4 (fun _ => SB) ?restb4
   case hyb4 => (intro W; go_simp; (try with_reducible rfl))
   try simp only [List.setIfInBounds_toArray, List.set_cons_zero, List.set_cons_succ]
   refine wpAnyR_pure (i := 5) (oi := _) ?vb5 rfl rfl (by kernel_rfl) (by decide) (fun _ _ _ h => h) rfl ?hyb5 (fun _ => SB) ?restb5
   case hyb5 => (intro W; go_simp; (try with_reducible rfl))
   try simp only [List.setIfInBounds_toArray, List.set_cons_zero, List.set_cons_succ]
   refine wpAnyR_take (i := 6) (oi := _) ?vb6 rfl rfl (by kernel_rfl) (fun _ _ _ h => h) rfl ?hyb6 SB ?restb6
   case hyb6 => (intro W hW; obtain ⟨E0, E1, E2, E3, E4⟩ := HB.out W hW; go_simp; (try with_reducible rfl))
   try simp only [List.setIfInBounds_toArray, List.set_cons_zero, List.set_cons_succ]
   refine wpAnyR_pure (i := 7) (oi := _) ?vb7 rfl rfl (by kernel_rfl) (by decide) (fun _ _ _ h => h) rfl ?hyb7 (fun _ => SB) ?restb7
   case hyb7 => (intro W; go_simp; (try with_reducible rfl))
   try simp only [List.setIfInBounds_toArray, List.set_cons_zero, List.set_cons_succ]
   refine wpAnyR_pure (i := 8) (oi := _) ?vb8 rfl rfl (by kernel_rfl) (by decide) (fun _ _ _ h => h) rfl ?hyb8 (fun _ => SB) ?restb8
   case hyb8 => (intro W; go_simp; (try with_reducible rfl))
   try simp only [List.setIfInBounds_toArray, List.set_cons_zero, List.set_cons_succ]
   refine wpAnyR_pure (i := 9) (oi := _) ?vb9 rfl rfl (by kernel_rfl) (by decide) (fun _ _ _ h => h) rfl ?hyb9 (fun _ => SB) ?restb9
   case hyb9 => (intro W; go_simp; (try with_reducible rfl))
   try simp only [List.setIfInBounds_toArray, List.set_cons_zero, List.set_cons_succ]
   refine wpAnyR_take (i := 10) (oi := _) ?vb10 rfl rfl (by kernel_rfl) (fun _ _ _ h => h) rfl ?hyb10 SB ?restb10
   case hyb10 => (intro W hW; obtain ⟨E0, E1, E2, E3, E4⟩ := HB.out W hW; go_simp; (try with_reducible rfl))
   try simp only [List.setIfInBounds_toArray, List.set_cons_zero, List.set_cons_succ]
   refine wpAnyR_pure (i := 11) (oi := _) ?vb11 rfl rfl (by kernel_rfl) (by decide) (fun _ _ _ h => h) rfl ?hyb11 (fun _ => SB) ?restb11
   case hyb11 => (intro W; go_simp; (try with_reducible rfl))
   try simp only [List.setIfInBounds_toArray, List.set_cons_zero, List.set_cons_succ]
   refine wpAnyR_pure (i := 12) (oi := _) ?vb12 rfl rfl (by kernel_rfl) (by decide) (fun _ _ _ h => h) rfl ?hyb12 (fun _ => SB) ?restb12
   case hyb12 => (intro W; go_simp; (try with_reducible rfl))
   try simp only [List.setIfInBounds_toArray, List.set_cons_zero, List.set_cons_succ]
   have HAZ := HA2.out.below HWZ.out hgs
   obtain ⟨x0, r0⟩ := HAZ.free (j := k * 4) (by omega)
   obtain ⟨x1, r1⟩ := HAZ.free (j := k * 4 + 1) (by omega)
   obtain ⟨x2, r2⟩ := HAZ.free (j := k * 4 + 2) (by omega)
   obtain ⟨x3, r3⟩ := HAZ.free (j := k * 4 + 3) (by omega)
   have f0 := HAZ.frozen (k * 4)
   have f3 := HAZ.frozen (k * 4 + 3)
   have f1 := HAZ.frozen (k * 4 + 1)
   have f2 := HAZ.frozen (k * 4 + 2)
   have hp3 := HAZ.push (by omega) (.int .i64 l.1, .int .i64 (p : Int), .slice A4 l.2.2.length c4, .slice A3 ce c3)
   rw [hul] at hp3
   have HP3 := Lib.hid hp3
   have HWB := Lib.hid (show Below w.heap.size w wz from bthen HW2.out HWZ.out)
   have HRZ := Lib.hid (show RdQs wz w.heap.size us (allQ (factsX X) e (ls.take k)) from HRD.out.below HWZ.out (by have := HW2.out.size; omega))
   clear HAZ hp3
   refine wpAnyR_pure (i := 13) (oi := _) ?vb13 rfl rfl (by kernel_rfl) (by decide) (fun _ _ _ h => h) rfl ?hyb13 (fun _ => SB) ?restb13
   case hyb13 => (intro W; go_simp; (try with_reducible rfl))
   try simp only [List.setIfInBounds_toArray, List.set_cons_zero, List.set_cons_succ]
   refine wpAnyR_one (i := 14) (by kernel_rfl) rfl (fun K hK => ?_)
   go_simp
   refine hK.out _ _ (fun hf => absurd hf (by decide)) ?_
   clear hK K
   refine wpAnyR_done (by kernel_rfl) ?_
   have HN := Lib.hid (show ∀ W, W = wz.setCells ga (k * 4) [.int .i64 l.1, .int .i64 (p : Int), .slice A4 l.2.2.length c4, .slice A3 ce c3] -> AtQ W ga ls.length (us ++ [(.int .i64 l.1, .int .i64 (p : Int), .slice A4 l.2.2.length c4, .slice A3 ce c3)]) /\ RdQs W w.heap.size (us ++ [(.int .i64 l.1, .int .i64 (p : Int), .slice A4 l.2.2.length c4, .slice A3 ce c3)]) (allQ (factsX X) e (ls.take (k + 1))) /\ Only ga (ga + 1) w1 W from fun W hW => by
    subst hW
    have hbz : Below w.heap.size wz (wz.setCells ga (k * 4) [.int .i64 l.1, .int .i64 (p : Int), .slice A4 l.2.2.length c4, .slice A3 ce c3]) := HP3.out.2.below (by have := HGA.out; omega) HWB.out.size
    refine ⟨HP3.out.1, ?_, (HO2.out.trans (Only.of_below HWZ.out)).trans HP3.out.2⟩
    have he : allQ (factsX X) e (ls.take (k + 1)) = allQ (factsX X) e (ls.take k) ++ [(l, (ageOf (factsX X) o e p).1)] := by
     rw [HTK.out.1, HTK.out.2]
     simp [allQ, ageOf]
    rw [he]
    have hbw := HWB.out.trans hbz
    refine (HRZ.out.below hbz (Nat.le_refl _)).snoc ⟨rfl, by rw [HL2.out], ?_, AGE.out.1.below hbw (Nat.le_refl _)⟩
    exact HP3A.out.below ((HWR.out.2.mono HWR.out.1).trans (HWZ.out.mono (by have := HW2.out.size; omega)) |>.trans hbz) (Nat.le_refl _))
   have HN2 := Lib.hid (HN.out _ rfl)
   clear r0 r1 r2 r3 f0 f1 f2 f3 SB
   go_wp2_with fail
   go_roundw
   case rel => exact ⟨k + 1, _, by omega, by go_num, by simp [hul], HN2.out.1, HN2.out.2.1, HN2.out.2.2⟩
   case measure => simp [intOf]; omega
  ·have hkn : k = ls.length := by omega
   have HF := Lib.hid (show AtQ wr ga ls.length us /\ RdQs wr w.heap.size us (allQ (factsX X) e ls) /\ Below w.heap.size w wr from ⟨hat, by rw [hkn, List.take_length] at hrd; exact hrd, Only.then_ HB1.out hon (by have := HGA.out; omega)⟩)
   clear hkn hat hrd hon hul
   go_wp2_with fail
   go_ret
   exact ⟨_, us, rfl, by have := HGA.out; omega, HF.out.1, HF.out.2.1, HF.out.2.2⟩
open Go.RowKit
theorem ownQ_at {w : World} {lo g c : Nat} {us : List QV} (h : w.ownsRow lo 276 4 (.slice (some ⟨g, 0, none⟩) us.length c) us.length (flatQ us)) : AtQ w g c us /\ lo <= g := by
 rcases h.2 with ⟨e, _⟩ | ⟨g', cap, cur, e, hb, hg, h1, h2, h3, h4⟩
 ·cases e
 ·injection e with e1 e2 e3
  injection e1 with e1
  injection e1 with e1
  subst e1 e3
  exact ⟨⟨cur, hg, h1, h2, h3, h4⟩, hb⟩
structure QRel (w wr : World) (us : List QV) (qs : List LQ) (g c : Nat) : Prop where
 below : Below w.heap.size w wr
 row : wr.ownsRow w.heap.size 276 4 (.slice (some ⟨g, 0, none⟩) us.length c) us.length (flatQ us)
 rd : RdQs wr w.heap.size us qs
theorem QRel.on {w wr w2 : World} {us : List QV} {qs : List LQ} {g c : Nat} (h : QRel w wr us qs g c) (hb : Below wr.heap.size wr w2) : QRel w w2 us qs g c :=
 ⟨bthen h.below hb, ownsRow_only h.row fun b hb' => hb.block b (h.row.lt b hb').2, h.rd.below (hb.mono h.below.size) (Nat.le_refl _)⟩
theorem QRel.push {w wr w5 : World} {us : List QV} {qs : List LQ} {g c g2 cap : Nat} {u : QV} {q : LQ} {o : Obj} (h : QRel w wr us qs g c) (hg : (wr.alloc o).grownBy w5 (some g)) (hown : w5.ownsRow w.heap.size 276 4 (.slice (some ⟨g2, 0, none⟩) (us.length + 1) cap) (us.length + 1) (flatQ us ++ [u.1, u.2.1, u.2.2.1, u.2.2.2]))
 (hq : RdQC wr w.heap.size u.1 u.2.1 u.2.2.1 u.2.2.2 q) : QRel w w5 (us ++ [u]) (qs ++ [q]) g2 cap := by
 have hg' := grown_from_alloc hg
 have hs := h.below.size
 have hb : Below w.heap.size wr w5 := ⟨hg'.os, hg'.tape, hg'.output, hg'.size, fun k hk => hg'.block k (by omega) fun e => by
  have := (h.row.lt k (by simpa [Value.ownBlock] using e.symm)).1
  omega⟩
 refine ⟨h.below.trans hb, by rw [List.length_append, flatQ_append]; exact hown, (h.rd.below hb (Nat.le_refl _)).snoc ?_⟩
 obtain ⟨a, b, d, e⟩ := hq
 exact ⟨a, b, d.below hb (Nat.le_refl _), e.below hb (Nat.le_refl _)⟩
set_option maxHeartbeats 4000000 in
set_option maxRecDepth 100000 in
theorem freshQuestions_any (ga ca i : Nat) (ls : List LLit) (ag : List LAge) (us : List AV) (v : Value) (w : World) (h : RdLits w w.heap.size v ls) (h2 : AtA w ga ca us) (h3 : RdAges w w.heap.size us ag) (hal : ag.length = ls.length) (hi : i < ls.length) (hn : ls.length <= 4) :
 Calls Tryz.prog 272 #[v, .slice (some ⟨ga, 0, none⟩) ls.length ca, .int .i64 i] w fun e' w' =>
  ∃ g2 c2 us2, e' = .returned (.slice (some ⟨g2, 0, none⟩) ls.length c2) /\ w.heap.size <= g2 /\ AtQ w' g2 c2 us2 /\ RdQs w' w.heap.size us2 (freshTo ls ag i ls.length) /\ Below w.heap.size w w' := by
 obtain ⟨i0, hi0, hz0, hz1, hz2⟩ := info_parts Tryz.infoQuestion
 have hmk := fun W => run_make_rowN (P := Tryz.prog) 250 276 i0 (.agg #[.int .i64 0, .int .i64 0, .slice none 0 0, .slice none 0 0]) Tryz.underlying250 hi0 hz0 .i64 .i64 0 ls.length (by omega) (by rw [hz2]; omega) (by omega) W
 rw [hz1] at hmk
 simp only [Value.cells, show ((0 : Nat) : Int) = 0 from rfl] at hmk
 have HL := Lib.hid h
 have HA := Lib.hid h2
 have HR := Lib.hid h3
 have HAL := Lib.hid (And.intro hal h3.1)
 obtain ⟨A, c, rfl, hc, _⟩ := h
 obtain ⟨cs, hcs⟩ : ∃ cs, cs = madeCells #[Value.int IntKind.i64 0, Value.int IntKind.i64 0, Value.slice none 0 0, Value.slice none 0 0] (ls.length * 4) := ⟨_, rfl⟩
 have HM := Lib.hid (show QRel w (w.alloc (.cells cs 276)) [] [] w.heap.size ls.length from
  ⟨below1 _ _, World.ownsRow_made w cs ls.length (Nat.le_refl _) (by unfold maxLen; omega) (by rw [hcs]; simp [madeCells]), ⟨rfl, fun k h1 => absurd h1 (by simp)⟩⟩)
 rw [<- hcs] at hmk
 clear hcs h2 h3 hal
 go_enter Tryz.func272, Tryz.ntmps272
 go_upto_region 2 with fail
 obtain ⟨w1, hw1⟩ : ∃ w1, w1 = w.alloc (Obj.cells cs 276) := ⟨_, rfl⟩
 obtain ⟨gq, hgq⟩ : ∃ gq, gq = w.heap.size := ⟨_, rfl⟩
 rw [<- hw1] at HM ⊢
 rw [show (w.heap.size : Nat) = gq from hgq.symm]
 have HGQ := Lib.hid hgq
 have HM1 := Lib.hid (show QRel w w1 [] [] gq ls.length by rw [hgq]; exact HM.out)
 have hs1 : w.heap.size < w1.heap.size := by rw [hw1]; simp
 clear hw1 hgq hmk HM
 obtain ⟨l, hle⟩ : ∃ l, l = litD ls i := ⟨_, rfl⟩
 have hli : l = ls[i] := by rw [hle, litD_lt hi]
 obtain ⟨b, o3, u0, u1, u2, rfl, hbB, k0, k1, k2, rfl, rfl, p3⟩ := HL.out.get hi
 obtain ⟨A4, c4, rfl, hc4, _⟩ := id p3
 rw [<- hli] at k0 k1 k2 hc4 p3
 have HLE := Lib.hid hle
 have HP3 := Lib.hid p3
 have hui : i < us.length := by rw [HAL.out.2, HAL.out.1]; exact hi
 have hai : i < ag.length := by rw [HAL.out.1]; exact hi
 have k3 := (HA.out.cells hui).2.2
 have hf3 := (HR.out.2 i hui hai).2.2
 rw [<- ageD_lt hai] at hf3
 obtain ⟨A5, c5, e5, _, _⟩ := id hf3
 rw [e5] at k3 hf3
 have HF3 := Lib.hid hf3
 have hga : ga < w.heap.size := HA.out.lt
 clear hle hli p3 hf3 e5
 refine wp_region_rel (fun W => Below w.heap.size w W) 13 14 (by kernel_rfl) rfl ?_
 obtain ⟨wy, hwy⟩ : ∃ wy, wy = w1.drew := ⟨_, rfl⟩
 have HQ := Lib.hid (show QRel w wy [] [] gq ls.length by rw [hwy]; exact HM1.out.on (Below.refl _ _).drew)
 rw [<- hwy]
 clear hwy
 obtain ⟨SS, hSS⟩ : ∃ SS : World -> Prop, SS = (fun W => Below w.heap.size w W) := ⟨_, rfl⟩
 rw [<- hSS]
 have HB := Lib.hid (show ∀ W, SS W -> (W.cell? ⟨b, o3 + i * 3, none⟩ = some (.int .i64 l.1) /\ W.cell? ⟨b, o3 + i * 3 + 1, none⟩ = some (.int .i64 l.2.1) /\ W.cell? ⟨b, o3 + i * 3 + 2, none⟩ = some (.slice A4 l.2.2.length c4) /\ W.cell? ⟨ga, i * 3 + 2, none⟩ = some (.slice A5 (ageD ag i).2.2.length c5)) from by
  rw [hSS]
  intro W hW
  exact ⟨(hW.cell (p := ⟨b, o3 + i * 3, none⟩) hbB).trans k0, (hW.cell (p := ⟨b, o3 + i * 3 + 1, none⟩) hbB).trans k1, (hW.cell (p := ⟨b, o3 + i * 3 + 2, none⟩) hbB).trans k2, (hW.cell (p := ⟨ga, i * 3 + 2, none⟩) hga).trans k3⟩)
 have HS := Lib.hid (show ∀ W, Below w.heap.size w W -> SS W from by rw [hSS]; exact fun W hW => hW)
 have SB : SS wy := HS.out wy HQ.out.below
 clear hSS k0 k1 k2 k3
 refine wpAnyR_pure (i := 0) (oi := _) ?va0 rfl rfl (by kernel_rfl) (by decide) (fun _ _ _ h => h) rfl ?hya0 (fun _ => SB) ?resta0
 case hya0 => (intro W; go_simp; (try with_reducible rfl))
 try simp only [List.setIfInBounds_toArray, List.set_cons_zero, List.set_cons_succ]
 refine wpAnyR_pure (i := 1) (oi := _) ?va1 rfl rfl (by kernel_rfl) (by decide) (fun _ _ _ h => h) rfl ?hya1 (fun _ => SB) ?resta1
 case hya1 => (intro W; go_simp; (try with_reducible rfl))
 try simp only [List.setIfInBounds_toArray, List.set_cons_zero, List.set_cons_succ]
 refine wpAnyR_pure (i := 2) (oi := _) ?va2 rfl rfl (by kernel_rfl) (by decide) (fun _ _ _ h => h) rfl ?hya2 (fun _ => SB) ?resta2
 case hya2 => (intro W; go_simp; (try with_reducible rfl))
 try simp only [List.setIfInBounds_toArray, List.set_cons_zero, List.set_cons_succ]
 refine wpAnyR_pure (i := 3) (oi := _) ?va3 rfl rfl (by kernel_rfl) (by decide) (fun _ _ _ h => h) rfl ?hya3 (fun _ => SB) ?resta3
 case hya3 => (intro W; go_simp; (try with_reducible rfl))
 try simp only [List.setIfInBounds_toArray, List.set_cons_zero, List.set_cons_succ]
 refine wpAnyR_take (i := 4) (oi := _) ?va4 rfl rfl (by kernel_rfl) (fun _ _ _ h => h) rfl ?hya4 SB ?resta4
 case hya4 => (intro W hW; obtain ⟨E0, E1, E2, E3⟩ := HB.out W hW; go_simp; (try with_reducible rfl))
 try simp only [List.setIfInBounds_toArray, List.set_cons_zero, List.set_cons_succ]
 refine wpAnyR_pure (i := 5) (oi := _) ?va5 rfl rfl (by kernel_rfl) (by decide) (fun _ _ _ h => h) rfl ?hya5 (fun _ => SB) ?resta5
 case hya5 => (intro W; go_simp; (try with_reducible rfl))
 try simp only [List.setIfInBounds_toArray, List.set_cons_zero, List.set_cons_succ]
 refine wpAnyR_pure (i := 6) (oi := _) ?va6 rfl rfl (by kernel_rfl) (by decide) (fun _ _ _ h => h) rfl ?hya6 (fun _ => SB) ?resta6
 case hya6 => (intro W; go_simp; (try with_reducible rfl))
 try simp only [List.setIfInBounds_toArray, List.set_cons_zero, List.set_cons_succ]
 refine wpAnyR_pure (i := 7) (oi := _) ?va7 rfl rfl (by kernel_rfl) (by decide) (fun _ _ _ h => h) rfl ?hya7 (fun _ => SB) ?resta7
 case hya7 => (intro W; go_simp; (try with_reducible rfl))
 try simp only [List.setIfInBounds_toArray, List.set_cons_zero, List.set_cons_succ]
 refine wpAnyR_pure (i := 8) (oi := _) ?va8 rfl rfl (by kernel_rfl) (by decide) (fun _ _ _ h => h) rfl ?hya8 (fun _ => SB) ?resta8
 case hya8 => (intro W; go_simp; (try with_reducible rfl))
 try simp only [List.setIfInBounds_toArray, List.set_cons_zero, List.set_cons_succ]
 refine wpAnyR_take (i := 9) (oi := _) ?va9 rfl rfl (by kernel_rfl) (fun _ _ _ h => h) rfl ?hya9 SB ?resta9
 case hya9 => (intro W hW; obtain ⟨E0, E1, E2, E3⟩ := HB.out W hW; go_simp; (try with_reducible rfl))
 try simp only [List.setIfInBounds_toArray, List.set_cons_zero, List.set_cons_succ]
 refine wpAnyR_pure (i := 10) (oi := _) ?va10 rfl rfl (by kernel_rfl) (by decide) (fun _ _ _ h => h) rfl ?hya10 (fun _ => SB) ?resta10
 case hya10 => (intro W; go_simp; (try with_reducible rfl))
 try simp only [List.setIfInBounds_toArray, List.set_cons_zero, List.set_cons_succ]
 refine wpAnyR_one (i := 11) (by kernel_rfl) rfl (fun K hK => ?_)
 try rw [if_pos (show Region.wanted _ _ = true from rfl)]
 go_simp
 have S6 : SS _ := HS.out (wy.alloc (Obj.cells #[Value.int IntKind.i64 l.1, Value.int IntKind.i64 l.2.1, Value.slice A4 l.2.2.length c4, Value.slice A5 (ageD ag i).2.2.length c5] 276)) (HQ.out.below.trans ((below1 wy _).mono HQ.out.below.size))
 refine hK.out _ _ (fun _ => S6) ?_
 clear hK K
 try simp only [List.setIfInBounds_toArray, List.set_cons_zero, List.set_cons_succ, Act.put]
 refine wpAnyR_one (i := 12) (by kernel_rfl) rfl (fun K hK => ?_)
 refine step_append_lies _ rfl (.tmp 13) (.tmp 24) 250 rfl w.heap.size 276 i0 (.agg #[.int .i64 0, .int .i64 0, .slice none 0 0, .slice none 0 0]) 4 64 Tryz.underlying250 hi0 hz0 hz1 hz2 rfl (by decide) (.slice (some ⟨gq, 0, none⟩) 0 ls.length) 0 [] rfl ?c1 ⟨wy.heap.size, 0, none⟩ 1 1 [.int .i64 l.1, .int .i64 l.2.1, .slice A4 l.2.2.length c4, .slice A5 (ageD ag i).2.2.length c5] rfl rfl ?c4 ?c2 (by omega) (by unfold maxLen; omega) (by omega) ?c3 _ rfl ?c5
 case c1 => exact HQ.out.row.alloc _
 case c4 => exact World.news_of_block (cs := #[.int .i64 l.1, .int .i64 l.2.1, .slice A4 l.2.2.length c4, .slice A5 (ageD ag i).2.2.length c5]) (heap_alloc_new wy _)
 case c2 => intro u hu; simp at hu; rcases hu with rfl | rfl | rfl | rfl <;> rfl
 case c3 => have := HQ.out.below.size; simp; omega
 case c5 =>
 intro g2 cap w5 hown hgr hat _
 have HQ5 := Lib.hid (show QRel w w5 [(.int .i64 l.1, .int .i64 l.2.1, .slice A4 l.2.2.length c4, .slice A5 (ageD ag i).2.2.length c5)] (freshTo ls ag i 0) g2 cap from by
  rw [freshTo_zero, <- HLE.out]
  exact HQ.out.push (u := (.int .i64 l.1, .int .i64 l.2.1, .slice A4 l.2.2.length c4, .slice A5 (ageD ag i).2.2.length c5)) hgr hown ⟨rfl, rfl, HP3.out.below HQ.out.below (Nat.le_refl _), HF3.out.below HQ.out.below (Nat.le_refl _)⟩)
 have S5 : SS w5 := HS.out w5 HQ5.out.below
 clear hown hgr hat
 refine hK.out _ _ (fun _ => S5) ?_
 clear hK K
 try simp only [List.setIfInBounds_toArray, List.set_cons_zero, List.set_cons_succ, Act.put]
 refine wpAnyR_one (i := 13) (by kernel_rfl) rfl (fun K hK => ?_)
 go_simp
 refine hK.out _ _ (fun hf => absurd hf (by decide)) ?_
 clear hK K
 refine wpAnyR_done (by kernel_rfl) ?_
 clear S5 S6 SB HB HS
 go_wp2_with fail
 go_loopw [7, 28] (fun q x wr => ∃ (k : Nat) (us2 : List QV) (g2 c2 : Nat), k <= ls.length /\ x = .int .i64 k /\ q = .slice (some ⟨g2, 0, none⟩) us2.length c2 /\ us2.length <= 5 /\ QRel w wr us2 (freshTo ls ag i k) g2 c2) (fun _ x _ => ls.length - (intOf x).toNat)
 case atStart => exact ⟨0, _, g2, cap, Nat.zero_le _, rfl, rfl, by simp, HQ5.out⟩
 case round =>
  obtain ⟨k, us2, g3, c3, hk, rfl, rfl, hu5, hq⟩ := hrel
  have HQR := Lib.hid hq
  by_cases hlt : k < ls.length
  ·obtain ⟨l, hle⟩ : ∃ l, l = litD ls k := ⟨_, rfl⟩
   have hli : l = ls[k] := by rw [hle, litD_lt hlt]
   obtain ⟨b', o', u0, u1, u2, e1, hbB', k0', k1', k2', rfl, rfl, p3⟩ := HL.out.get hlt
   injection e1 with e1
   injection e1 with e1 e2 _
   subst e1 e2
   obtain ⟨A4, c4, rfl, hc4, _⟩ := id p3
   rw [<- hli] at k0' k1' k2' hc4 p3
   have k0 := (hq.below.cell (p := ⟨b, o3 + k * 3, none⟩) hbB).trans k0'
   have k1 := (hq.below.cell (p := ⟨b, o3 + k * 3 + 1, none⟩) hbB).trans k1'
   have k2 := (hq.below.cell (p := ⟨b, o3 + k * 3 + 2, none⟩) hbB).trans k2'
   have HLE := Lib.hid hle
   have HP3 := Lib.hid p3
   obtain ⟨bx, hbx⟩ : ∃ bx, bx = wr.heap.size := ⟨_, rfl⟩
   have HBX := Lib.hid hbx
   clear hle hli p3 hq k0' k1' k2' hbx
   by_cases hki : k = i
   ·have hbt : ((k : Int) == (i : Int)) = true := by simp [hki]
    have HFT := Lib.hid (show freshTo ls ag i (k + 1) = freshTo ls ag i k by rw [hki]; exact freshTo_same ls ag i)
    clear hki
    go_wp2_with fail
    go_roundw
    case rel => exact ⟨k + 1, us2, g3, c3, by omega, by go_num, rfl, hu5, by rw [HFT.out]; exact HQR.out.on (below1 _ _)⟩
    case measure => simp [intOf]; omega
   have hbf : ((k : Int) == (i : Int)) = false := by simp; omega
   by_cases hcond : k < i /\ l.1 = 0
   ·obtain ⟨hc1, hc2⟩ := hcond
    have hd1 : decide (k < i) = true := decide_eq_true hc1
    have hd2 : decide ((k : Int) < (i : Int)) = true := by simpa using hc1
    have hk0 : (l.1 == 0) = true := by simpa using hc2
    have HC2 := Lib.hid hc2
    clear hc2
    have huk : k < us.length := by rw [HAL.out.2, HAL.out.1]; exact hlt
    have hak : k < ag.length := by rw [HAL.out.1]; exact hlt
    have k3 := (HA.out.cells huk).2.1
    have hf3 := (HR.out.2 k huk hak).2.1
    rw [<- ageD_lt hak] at hf3
    obtain ⟨A5, c5, e5, _, _⟩ := id hf3
    rw [e5] at k3 hf3
    have HF3 := Lib.hid hf3
    have HK3 := Lib.hid k3
    have HFT := Lib.hid (show freshTo ls ag i (k + 1) = freshTo ls ag i k ++ [(l, (ageD ag k).2.1)] by
     rw [freshTo_snoc ls ag hki]
     unfold qAt
     rw [<- HLE.out, if_pos (show k < i /\ l.1 = 0 from ⟨hc1, HC2.out⟩)])
    clear hf3 e5 k3
    go_upto_region 9 with fail
    obtain ⟨w2, hw2⟩ : ∃ w2, w2 = wr.alloc (Obj.cells #[Value.int IntKind.i64 l.1, Value.int IntKind.i64 l.2.1, Value.slice A4 l.2.2.length c4] 191) := ⟨_, rfl⟩
    have b2 : Below wr.heap.size wr w2 := by rw [hw2]; exact below1 _ _
    have y2 : Blk w2 bx 191 #[.int .i64 l.1, .int .i64 l.2.1, .slice A4 l.2.2.length c4] := by rw [hw2, HBX.out]; exact Blk.new _ _ _
    rw [<- hw2]
    rw [show (wr.heap.size : Nat) = bx from HBX.out.symm]
    clear hw2 k0 k1 k2
    refine wp_region_rel (fun W => Below w.heap.size w W /\ W.cell? ⟨bx, 0, none⟩ = some (.int .i64 l.1) /\ W.cell? ⟨bx, 1, none⟩ = some (.int .i64 l.2.1) /\ W.cell? ⟨bx, 2, none⟩ = some (.slice A4 l.2.2.length c4)) 10 11 (by kernel_rfl) rfl ?_
    obtain ⟨wy, hwy⟩ : ∃ wy, wy = w2.drew := ⟨_, rfl⟩
    have HQ := Lib.hid (show QRel w wy us2 (freshTo ls ag i k) g3 c3 by rw [hwy]; exact HQR.out.on b2.drew)
    have HY := Lib.hid (show Blk wy bx 191 #[.int .i64 l.1, .int .i64 l.2.1, .slice A4 l.2.2.length c4] by rw [hwy]; exact y2)
    have HRB := Lib.hid (show g3 < bx /\ bx < wy.heap.size from ⟨by rw [HBX.out]; exact (HQR.out.row.lt g3 rfl).2, HY.out.lt⟩)
    rw [<- hwy]
    clear hwy b2 y2
    obtain ⟨SS, hSS⟩ : ∃ SS : World -> Prop, SS = (fun W => Below w.heap.size w W /\ W.cell? ⟨bx, 0, none⟩ = some (.int .i64 l.1) /\ W.cell? ⟨bx, 1, none⟩ = some (.int .i64 l.2.1) /\ W.cell? ⟨bx, 2, none⟩ = some (.slice A4 l.2.2.length c4)) := ⟨_, rfl⟩
    rw [<- hSS]
    have HB := Lib.hid (show ∀ W, SS W -> (W.cell? ⟨bx, 0, none⟩ = some (.int .i64 l.1) /\ W.cell? ⟨bx, 1, none⟩ = some (.int .i64 l.2.1) /\ W.cell? ⟨bx, 2, none⟩ = some (.slice A4 l.2.2.length c4) /\ W.cell? ⟨ga, k * 3 + 1, none⟩ = some (.slice A5 (ageD ag k).2.1.length c5)) from by
     rw [hSS]
     intro W hW
     exact ⟨hW.2.1, hW.2.2.1, hW.2.2.2, (hW.1.cell (p := ⟨ga, k * 3 + 1, none⟩) hga).trans HK3.out⟩)
    have HS := Lib.hid (show ∀ W : World, Below w.heap.size w W -> W.heap[bx]? = wy.heap[bx]? -> SS W from by
     rw [hSS]
     intro W hW hx
     have hy : Blk W bx 191 #[.int .i64 l.1, .int .i64 l.2.1, .slice A4 l.2.2.length c4] := hx.trans HY.out
     exact ⟨hW, hy.cell 0, hy.cell 1, hy.cell 2⟩)
    have SB : SS wy := HS.out wy HQ.out.below rfl
    clear hSS
    refine wpAnyR_pure (i := 0) (oi := _) ?vb0 rfl rfl (by kernel_rfl) (by decide) (fun _ _ _ h => h) rfl ?hyb0 (fun _ => SB) ?restb0
    case hyb0 => (intro W; go_simp; (try with_reducible rfl))
    try simp only [List.setIfInBounds_toArray, List.set_cons_zero, List.set_cons_succ]
    refine wpAnyR_take (i := 1) (oi := _) ?vb1 rfl rfl (by kernel_rfl) (fun _ _ _ h => h) rfl ?hyb1 SB ?restb1
    case hyb1 => (intro W hW; obtain ⟨E0, E1, E2, E3⟩ := HB.out W hW; go_simp; (try with_reducible rfl))
    try simp only [List.setIfInBounds_toArray, List.set_cons_zero, List.set_cons_succ]
    refine wpAnyR_pure (i := 2) (oi := _) ?vb2 rfl rfl (by kernel_rfl) (by decide) (fun _ _ _ h => h) rfl ?hyb2 (fun _ => SB) ?restb2
    case hyb2 => (intro W; go_simp; (try with_reducible rfl))
    try simp only [List.setIfInBounds_toArray, List.set_cons_zero, List.set_cons_succ]
    refine wpAnyR_pure (i := 3) (oi := _) ?vb3 rfl rfl (by kernel_rfl) (by decide) (fun _ _ _ h => h) rfl ?hyb3 (fun _ => SB) ?restb3
    case hyb3 => (intro W; go_simp; (try with_reducible rfl))
    try simp only [List.setIfInBounds_toArray, List.set_cons_zero, List.set_cons_succ]
    refine wpAnyR_pure (i := 4) (oi := _) ?vb4 rfl rfl (by kernel_rfl) (by decide) (fun _ _ _ h => h) rfl ?hyb4 (fun _ => SB) ?restb4
    case hyb4 => (intro W; go_simp; (try with_reducible rfl))
    try simp only [List.setIfInBounds_toArray, List.set_cons_zero, List.set_cons_succ]
    refine wpAnyR_pure (i := 5) (oi := _) ?vb5 rfl rfl (by kernel_rfl) (by decide) (fun _ _ _ h => h) rfl ?hyb5 (fun _ => SB) ?restb5
    case hyb5 => (intro W; go_simp; (try with_reducible rfl))
    try simp only [List.setIfInBounds_toArray, List.set_cons_zero, List.set_cons_succ]
    refine wpAnyR_take (i := 6) (oi := _) ?vb6 rfl rfl (by kernel_rfl) (fun _ _ _ h => h) rfl ?hyb6 SB ?restb6
    case hyb6 => (intro W hW; obtain ⟨E0, E1, E2, E3⟩ := HB.out W hW; go_simp; (try with_reducible rfl))
    try simp only [List.setIfInBounds_toArray, List.set_cons_zero, List.set_cons_succ]
    refine wpAnyR_pure (i := 7) (oi := _) ?vb7 rfl rfl (by kernel_rfl) (by decide) (fun _ _ _ h => h) rfl ?hyb7 (fun _ => SB) ?restb7
    case hyb7 => (intro W; go_simp; (try with_reducible rfl))
    try simp only [List.setIfInBounds_toArray, List.set_cons_zero, List.set_cons_succ]
    refine wpAnyR_one (i := 8) (by kernel_rfl) rfl (fun K hK => ?_)
    try rw [if_pos (show Region.wanted _ _ = true from rfl)]
    go_simp
    have S6 : SS _ := HS.out (wy.alloc (Obj.cells #[Value.int IntKind.i64 l.1, Value.int IntKind.i64 l.2.1, Value.slice A4 l.2.2.length c4, Value.slice A5 (ageD ag k).2.1.length c5] 276)) (HQ.out.below.trans ((below1 wy _).mono HQ.out.below.size)) (Below.heap_alloc _ _ _ HRB.out.2)
    refine hK.out _ _ (fun _ => S6) ?_
    clear hK K
    try simp only [List.setIfInBounds_toArray, List.set_cons_zero, List.set_cons_succ, Act.put]
    refine wpAnyR_one (i := 9) (by kernel_rfl) rfl (fun K hK => ?_)
    refine step_append_lies _ rfl (.tmp 56) (.tmp 64) 250 rfl w.heap.size 276 i0 (.agg #[.int .i64 0, .int .i64 0, .slice none 0 0, .slice none 0 0]) 4 64 Tryz.underlying250 hi0 hz0 hz1 hz2 rfl (by decide) (.slice (some ⟨g3, 0, none⟩) us2.length c3) us2.length (flatQ us2) rfl ?bc1 ⟨wy.heap.size, 0, none⟩ 1 1 [.int .i64 l.1, .int .i64 l.2.1, .slice A4 l.2.2.length c4, .slice A5 (ageD ag k).2.1.length c5] rfl rfl ?bc4 ?bc2 (by omega) (by unfold maxLen; omega) (by omega) ?bc3 _ rfl ?bc5
    case bc1 => exact HQ.out.row.alloc _
    case bc4 => exact World.news_of_block (cs := #[.int .i64 l.1, .int .i64 l.2.1, .slice A4 l.2.2.length c4, .slice A5 (ageD ag k).2.1.length c5]) (heap_alloc_new wy _)
    case bc2 => intro u hu; simp at hu; rcases hu with rfl | rfl | rfl | rfl <;> rfl
    case bc3 => have := HQ.out.below.size; simp; omega
    case bc5 =>
    intro g2 cap w5 hown hgr hat _
    have HQ5 := Lib.hid (show QRel w w5 (us2 ++ [(.int .i64 l.1, .int .i64 l.2.1, .slice A4 l.2.2.length c4, .slice A5 (ageD ag k).2.1.length c5)]) (freshTo ls ag i (k + 1)) g2 cap from by
     rw [HFT.out]
     exact HQ.out.push (u := (.int .i64 l.1, .int .i64 l.2.1, .slice A4 l.2.2.length c4, .slice A5 (ageD ag k).2.1.length c5)) hgr hown ⟨rfl, rfl, HP3.out.below (HQ.out.below) (Nat.le_refl _), HF3.out.below HQ.out.below (Nat.le_refl _)⟩)
    have S5 : SS w5 := HS.out w5 HQ5.out.below ((grown_from_alloc hgr).block bx HRB.out.2 fun e => by have := HRB.out.1; simp [Value.ownBlock] at e; omega)
    clear hown hgr hat
    refine hK.out _ _ (fun _ => S5) ?_
    clear hK K
    try simp only [List.setIfInBounds_toArray, List.set_cons_zero, List.set_cons_succ, Act.put]
    refine wpAnyR_one (i := 10) (by kernel_rfl) rfl (fun K hK => ?_)
    go_simp
    refine hK.out _ _ (fun hf => absurd hf (by decide)) ?_
    clear hK K
    refine wpAnyR_done (by kernel_rfl) ?_
    clear S5 S6 SB HB HS
    go_wp2_with fail
    go_roundw
    case rel => exact ⟨k + 1, us2 ++ [(.int .i64 l.1, .int .i64 l.2.1, .slice A4 l.2.2.length c4, .slice A5 (ageD ag k).2.1.length c5)], g2, cap, by omega, by go_num, by simp, by have := (freshTo_len ls ag i k).1; have := HQR.out.rd.1; simp; omega, HQ5.out⟩
    case measure => simp [intOf]; omega
   ·have HNC := Lib.hid hcond
    have hd : (k < i /\ decide (k < i) = true /\ decide ((k : Int) < (i : Int)) = true /\ (l.1 == 0) = false) \/ (¬ k < i /\ decide (k < i) = false /\ decide ((k : Int) < (i : Int)) = false) := by
     by_cases e : k < i
     ·exact .inl ⟨e, decide_eq_true e, by simpa using e, by simpa using fun e2 => hcond ⟨e, e2⟩⟩
     ·exact .inr ⟨e, decide_eq_false e, by simpa using e⟩
    clear hcond
    rcases hd with ⟨hx1, hx2, hx3, hx4⟩ | ⟨hx1, hx2, hx3⟩
    ·have huk : k < us.length := by rw [HAL.out.2, HAL.out.1]; exact hlt
     have hak : k < ag.length := by rw [HAL.out.1]; exact hlt
     have k3 := (HA.out.cells huk).1
     have hf3 := (HR.out.2 k huk hak).1
     rw [<- ageD_lt hak] at hf3
     obtain ⟨A5, c5, e5, _, _⟩ := id hf3
     rw [e5] at k3 hf3
     have HF3 := Lib.hid hf3
     have HK3 := Lib.hid k3
     have HFT := Lib.hid (show freshTo ls ag i (k + 1) = freshTo ls ag i k ++ [(l, (ageD ag k).1)] by
      rw [freshTo_snoc ls ag hki]
      unfold qAt
      rw [<- HLE.out, if_neg (show ¬ (k < i /\ l.1 = 0) from HNC.out)])
     clear hf3 e5 k3
     go_upto_region 6 with fail
     obtain ⟨w2, hw2⟩ : ∃ w2, w2 = wr.alloc (Obj.cells #[Value.int IntKind.i64 l.1, Value.int IntKind.i64 l.2.1, Value.slice A4 l.2.2.length c4] 191) := ⟨_, rfl⟩
     have b2 : Below wr.heap.size wr w2 := by rw [hw2]; exact below1 _ _
     have y2 : Blk w2 bx 191 #[.int .i64 l.1, .int .i64 l.2.1, .slice A4 l.2.2.length c4] := by rw [hw2, HBX.out]; exact Blk.new _ _ _
     rw [<- hw2]
     rw [show (wr.heap.size : Nat) = bx from HBX.out.symm]
     clear hw2 k0 k1 k2
     refine wp_region_rel (fun W => Below w.heap.size w W /\ W.cell? ⟨bx, 0, none⟩ = some (.int .i64 l.1) /\ W.cell? ⟨bx, 1, none⟩ = some (.int .i64 l.2.1) /\ W.cell? ⟨bx, 2, none⟩ = some (.slice A4 l.2.2.length c4)) 10 11 (by kernel_rfl) rfl ?_
     obtain ⟨wy, hwy⟩ : ∃ wy, wy = w2.drew := ⟨_, rfl⟩
     have HQ := Lib.hid (show QRel w wy us2 (freshTo ls ag i k) g3 c3 by rw [hwy]; exact HQR.out.on b2.drew)
     have HY := Lib.hid (show Blk wy bx 191 #[.int .i64 l.1, .int .i64 l.2.1, .slice A4 l.2.2.length c4] by rw [hwy]; exact y2)
     have HRB := Lib.hid (show g3 < bx /\ bx < wy.heap.size from ⟨by rw [HBX.out]; exact (HQR.out.row.lt g3 rfl).2, HY.out.lt⟩)
     rw [<- hwy]
     clear hwy b2 y2
     obtain ⟨SS, hSS⟩ : ∃ SS : World -> Prop, SS = (fun W => Below w.heap.size w W /\ W.cell? ⟨bx, 0, none⟩ = some (.int .i64 l.1) /\ W.cell? ⟨bx, 1, none⟩ = some (.int .i64 l.2.1) /\ W.cell? ⟨bx, 2, none⟩ = some (.slice A4 l.2.2.length c4)) := ⟨_, rfl⟩
     rw [<- hSS]
     have HB := Lib.hid (show ∀ W, SS W -> (W.cell? ⟨bx, 0, none⟩ = some (.int .i64 l.1) /\ W.cell? ⟨bx, 1, none⟩ = some (.int .i64 l.2.1) /\ W.cell? ⟨bx, 2, none⟩ = some (.slice A4 l.2.2.length c4) /\ W.cell? ⟨ga, k * 3, none⟩ = some (.slice A5 (ageD ag k).1.length c5)) from by
      rw [hSS]
      intro W hW
      exact ⟨hW.2.1, hW.2.2.1, hW.2.2.2, (hW.1.cell (p := ⟨ga, k * 3, none⟩) hga).trans HK3.out⟩)
     have HS := Lib.hid (show ∀ W : World, Below w.heap.size w W -> W.heap[bx]? = wy.heap[bx]? -> SS W from by
      rw [hSS]
      intro W hW hx
      have hy : Blk W bx 191 #[.int .i64 l.1, .int .i64 l.2.1, .slice A4 l.2.2.length c4] := hx.trans HY.out
      exact ⟨hW, hy.cell 0, hy.cell 1, hy.cell 2⟩)
     have SB : SS wy := HS.out wy HQ.out.below rfl
     clear hSS
     refine wpAnyR_pure (i := 0) (oi := _) ?vd0 rfl rfl (by kernel_rfl) (by decide) (fun _ _ _ h => h) rfl ?hyd0 (fun _ => SB) ?restd0
     case hyd0 => (intro W; go_simp; (try with_reducible rfl))
     try simp only [List.setIfInBounds_toArray, List.set_cons_zero, List.set_cons_succ]
     refine wpAnyR_take (i := 1) (oi := _) ?vd1 rfl rfl (by kernel_rfl) (fun _ _ _ h => h) rfl ?hyd1 SB ?restd1
     case hyd1 => (intro W hW; obtain ⟨E0, E1, E2, E3⟩ := HB.out W hW; go_simp; (try with_reducible rfl))
     try simp only [List.setIfInBounds_toArray, List.set_cons_zero, List.set_cons_succ]
     refine wpAnyR_pure (i := 2) (oi := _) ?vd2 rfl rfl (by kernel_rfl) (by decide) (fun _ _ _ h => h) rfl ?hyd2 (fun _ => SB) ?restd2
     case hyd2 => (intro W; go_simp; (try with_reducible rfl))
     try simp only [List.setIfInBounds_toArray, List.set_cons_zero, List.set_cons_succ]
     refine wpAnyR_pure (i := 3) (oi := _) ?vd3 rfl rfl (by kernel_rfl) (by decide) (fun _ _ _ h => h) rfl ?hyd3 (fun _ => SB) ?restd3
     case hyd3 => (intro W; go_simp; (try with_reducible rfl))
     try simp only [List.setIfInBounds_toArray, List.set_cons_zero, List.set_cons_succ]
     refine wpAnyR_pure (i := 4) (oi := _) ?vd4 rfl rfl (by kernel_rfl) (by decide) (fun _ _ _ h => h) rfl ?hyd4 (fun _ => SB) ?restd4
     case hyd4 => (intro W; go_simp; (try with_reducible rfl))
     try simp only [List.setIfInBounds_toArray, List.set_cons_zero, List.set_cons_succ]
     refine wpAnyR_pure (i := 5) (oi := _) ?vd5 rfl rfl (by kernel_rfl) (by decide) (fun _ _ _ h => h) rfl ?hyd5 (fun _ => SB) ?restd5
     case hyd5 => (intro W; go_simp; (try with_reducible rfl))
     try simp only [List.setIfInBounds_toArray, List.set_cons_zero, List.set_cons_succ]
     refine wpAnyR_take (i := 6) (oi := _) ?vd6 rfl rfl (by kernel_rfl) (fun _ _ _ h => h) rfl ?hyd6 SB ?restd6
     case hyd6 => (intro W hW; obtain ⟨E0, E1, E2, E3⟩ := HB.out W hW; go_simp; (try with_reducible rfl))
     try simp only [List.setIfInBounds_toArray, List.set_cons_zero, List.set_cons_succ]
     refine wpAnyR_pure (i := 7) (oi := _) ?vd7 rfl rfl (by kernel_rfl) (by decide) (fun _ _ _ h => h) rfl ?hyd7 (fun _ => SB) ?restd7
     case hyd7 => (intro W; go_simp; (try with_reducible rfl))
     try simp only [List.setIfInBounds_toArray, List.set_cons_zero, List.set_cons_succ]
     refine wpAnyR_one (i := 8) (by kernel_rfl) rfl (fun K hK => ?_)
     try rw [if_pos (show Region.wanted _ _ = true from rfl)]
     go_simp
     have S6 : SS _ := HS.out (wy.alloc (Obj.cells #[Value.int IntKind.i64 l.1, Value.int IntKind.i64 l.2.1, Value.slice A4 l.2.2.length c4, Value.slice A5 (ageD ag k).1.length c5] 276)) (HQ.out.below.trans ((below1 wy _).mono HQ.out.below.size)) (Below.heap_alloc _ _ _ HRB.out.2)
     refine hK.out _ _ (fun _ => S6) ?_
     clear hK K
     try simp only [List.setIfInBounds_toArray, List.set_cons_zero, List.set_cons_succ, Act.put]
     refine wpAnyR_one (i := 9) (by kernel_rfl) rfl (fun K hK => ?_)
     refine step_append_lies _ rfl (.tmp 33) (.tmp 41) 250 rfl w.heap.size 276 i0 (.agg #[.int .i64 0, .int .i64 0, .slice none 0 0, .slice none 0 0]) 4 64 Tryz.underlying250 hi0 hz0 hz1 hz2 rfl (by decide) (.slice (some ⟨g3, 0, none⟩) us2.length c3) us2.length (flatQ us2) rfl ?dc1 ⟨wy.heap.size, 0, none⟩ 1 1 [.int .i64 l.1, .int .i64 l.2.1, .slice A4 l.2.2.length c4, .slice A5 (ageD ag k).1.length c5] rfl rfl ?dc4 ?dc2 (by omega) (by unfold maxLen; omega) (by omega) ?dc3 _ rfl ?dc5
     case dc1 => exact HQ.out.row.alloc _
     case dc4 => exact World.news_of_block (cs := #[.int .i64 l.1, .int .i64 l.2.1, .slice A4 l.2.2.length c4, .slice A5 (ageD ag k).1.length c5]) (heap_alloc_new wy _)
     case dc2 => intro u hu; simp at hu; rcases hu with rfl | rfl | rfl | rfl <;> rfl
     case dc3 => have := HQ.out.below.size; simp; omega
     case dc5 =>
     intro g2 cap w5 hown hgr hat _
     have HQ5 := Lib.hid (show QRel w w5 (us2 ++ [(.int .i64 l.1, .int .i64 l.2.1, .slice A4 l.2.2.length c4, .slice A5 (ageD ag k).1.length c5)]) (freshTo ls ag i (k + 1)) g2 cap from by
      rw [HFT.out]
      exact HQ.out.push (u := (.int .i64 l.1, .int .i64 l.2.1, .slice A4 l.2.2.length c4, .slice A5 (ageD ag k).1.length c5)) hgr hown ⟨rfl, rfl, HP3.out.below (HQ.out.below) (Nat.le_refl _), HF3.out.below HQ.out.below (Nat.le_refl _)⟩)
     have S5 : SS w5 := HS.out w5 HQ5.out.below ((grown_from_alloc hgr).block bx HRB.out.2 fun e => by have := HRB.out.1; simp [Value.ownBlock] at e; omega)
     clear hown hgr hat
     refine hK.out _ _ (fun _ => S5) ?_
     clear hK K
     try simp only [List.setIfInBounds_toArray, List.set_cons_zero, List.set_cons_succ, Act.put]
     refine wpAnyR_one (i := 10) (by kernel_rfl) rfl (fun K hK => ?_)
     go_simp
     refine hK.out _ _ (fun hf => absurd hf (by decide)) ?_
     clear hK K
     refine wpAnyR_done (by kernel_rfl) ?_
     clear S5 S6 SB HB HS
     go_wp2_with fail
     go_roundw
     case rel => exact ⟨k + 1, us2 ++ [(.int .i64 l.1, .int .i64 l.2.1, .slice A4 l.2.2.length c4, .slice A5 (ageD ag k).1.length c5)], g2, cap, by omega, by go_num, by simp, by have := (freshTo_len ls ag i k).1; have := HQR.out.rd.1; simp; omega, HQ5.out⟩
     case measure => simp [intOf]; omega
    ·have huk : k < us.length := by rw [HAL.out.2, HAL.out.1]; exact hlt
     have hak : k < ag.length := by rw [HAL.out.1]; exact hlt
     have k3 := (HA.out.cells huk).1
     have hf3 := (HR.out.2 k huk hak).1
     rw [<- ageD_lt hak] at hf3
     obtain ⟨A5, c5, e5, _, _⟩ := id hf3
     rw [e5] at k3 hf3
     have HF3 := Lib.hid hf3
     have HK3 := Lib.hid k3
     have HFT := Lib.hid (show freshTo ls ag i (k + 1) = freshTo ls ag i k ++ [(l, (ageD ag k).1)] by
      rw [freshTo_snoc ls ag hki]
      unfold qAt
      rw [<- HLE.out, if_neg (show ¬ (k < i /\ l.1 = 0) from HNC.out)])
     clear hf3 e5 k3
     go_upto_region 6 with fail
     obtain ⟨w2, hw2⟩ : ∃ w2, w2 = wr.alloc (Obj.cells #[Value.int IntKind.i64 l.1, Value.int IntKind.i64 l.2.1, Value.slice A4 l.2.2.length c4] 191) := ⟨_, rfl⟩
     have b2 : Below wr.heap.size wr w2 := by rw [hw2]; exact below1 _ _
     have y2 : Blk w2 bx 191 #[.int .i64 l.1, .int .i64 l.2.1, .slice A4 l.2.2.length c4] := by rw [hw2, HBX.out]; exact Blk.new _ _ _
     rw [<- hw2]
     rw [show (wr.heap.size : Nat) = bx from HBX.out.symm]
     clear hw2 k0 k1 k2
     refine wp_region_rel (fun W => Below w.heap.size w W /\ W.cell? ⟨bx, 0, none⟩ = some (.int .i64 l.1) /\ W.cell? ⟨bx, 1, none⟩ = some (.int .i64 l.2.1) /\ W.cell? ⟨bx, 2, none⟩ = some (.slice A4 l.2.2.length c4)) 10 11 (by kernel_rfl) rfl ?_
     obtain ⟨wy, hwy⟩ : ∃ wy, wy = w2.drew := ⟨_, rfl⟩
     have HQ := Lib.hid (show QRel w wy us2 (freshTo ls ag i k) g3 c3 by rw [hwy]; exact HQR.out.on b2.drew)
     have HY := Lib.hid (show Blk wy bx 191 #[.int .i64 l.1, .int .i64 l.2.1, .slice A4 l.2.2.length c4] by rw [hwy]; exact y2)
     have HRB := Lib.hid (show g3 < bx /\ bx < wy.heap.size from ⟨by rw [HBX.out]; exact (HQR.out.row.lt g3 rfl).2, HY.out.lt⟩)
     rw [<- hwy]
     clear hwy b2 y2
     obtain ⟨SS, hSS⟩ : ∃ SS : World -> Prop, SS = (fun W => Below w.heap.size w W /\ W.cell? ⟨bx, 0, none⟩ = some (.int .i64 l.1) /\ W.cell? ⟨bx, 1, none⟩ = some (.int .i64 l.2.1) /\ W.cell? ⟨bx, 2, none⟩ = some (.slice A4 l.2.2.length c4)) := ⟨_, rfl⟩
     rw [<- hSS]
     have HB := Lib.hid (show ∀ W, SS W -> (W.cell? ⟨bx, 0, none⟩ = some (.int .i64 l.1) /\ W.cell? ⟨bx, 1, none⟩ = some (.int .i64 l.2.1) /\ W.cell? ⟨bx, 2, none⟩ = some (.slice A4 l.2.2.length c4) /\ W.cell? ⟨ga, k * 3, none⟩ = some (.slice A5 (ageD ag k).1.length c5)) from by
      rw [hSS]
      intro W hW
      exact ⟨hW.2.1, hW.2.2.1, hW.2.2.2, (hW.1.cell (p := ⟨ga, k * 3, none⟩) hga).trans HK3.out⟩)
     have HS := Lib.hid (show ∀ W : World, Below w.heap.size w W -> W.heap[bx]? = wy.heap[bx]? -> SS W from by
      rw [hSS]
      intro W hW hx
      have hy : Blk W bx 191 #[.int .i64 l.1, .int .i64 l.2.1, .slice A4 l.2.2.length c4] := hx.trans HY.out
      exact ⟨hW, hy.cell 0, hy.cell 1, hy.cell 2⟩)
     have SB : SS wy := HS.out wy HQ.out.below rfl
     clear hSS
     refine wpAnyR_pure (i := 0) (oi := _) ?vf0 rfl rfl (by kernel_rfl) (by decide) (fun _ _ _ h => h) rfl ?hyf0 (fun _ => SB) ?restf0
     case hyf0 => (intro W; go_simp; (try with_reducible rfl))
     try simp only [List.setIfInBounds_toArray, List.set_cons_zero, List.set_cons_succ]
     refine wpAnyR_take (i := 1) (oi := _) ?vf1 rfl rfl (by kernel_rfl) (fun _ _ _ h => h) rfl ?hyf1 SB ?restf1
     case hyf1 => (intro W hW; obtain ⟨E0, E1, E2, E3⟩ := HB.out W hW; go_simp; (try with_reducible rfl))
     try simp only [List.setIfInBounds_toArray, List.set_cons_zero, List.set_cons_succ]
     refine wpAnyR_pure (i := 2) (oi := _) ?vf2 rfl rfl (by kernel_rfl) (by decide) (fun _ _ _ h => h) rfl ?hyf2 (fun _ => SB) ?restf2
     case hyf2 => (intro W; go_simp; (try with_reducible rfl))
     try simp only [List.setIfInBounds_toArray, List.set_cons_zero, List.set_cons_succ]
     refine wpAnyR_pure (i := 3) (oi := _) ?vf3 rfl rfl (by kernel_rfl) (by decide) (fun _ _ _ h => h) rfl ?hyf3 (fun _ => SB) ?restf3
     case hyf3 => (intro W; go_simp; (try with_reducible rfl))
     try simp only [List.setIfInBounds_toArray, List.set_cons_zero, List.set_cons_succ]
     refine wpAnyR_pure (i := 4) (oi := _) ?vf4 rfl rfl (by kernel_rfl) (by decide) (fun _ _ _ h => h) rfl ?hyf4 (fun _ => SB) ?restf4
     case hyf4 => (intro W; go_simp; (try with_reducible rfl))
     try simp only [List.setIfInBounds_toArray, List.set_cons_zero, List.set_cons_succ]
     refine wpAnyR_pure (i := 5) (oi := _) ?vf5 rfl rfl (by kernel_rfl) (by decide) (fun _ _ _ h => h) rfl ?hyf5 (fun _ => SB) ?restf5
     case hyf5 => (intro W; go_simp; (try with_reducible rfl))
     try simp only [List.setIfInBounds_toArray, List.set_cons_zero, List.set_cons_succ]
     refine wpAnyR_take (i := 6) (oi := _) ?vf6 rfl rfl (by kernel_rfl) (fun _ _ _ h => h) rfl ?hyf6 SB ?restf6
     case hyf6 => (intro W hW; obtain ⟨E0, E1, E2, E3⟩ := HB.out W hW; go_simp; (try with_reducible rfl))
     try simp only [List.setIfInBounds_toArray, List.set_cons_zero, List.set_cons_succ]
     refine wpAnyR_pure (i := 7) (oi := _) ?vf7 rfl rfl (by kernel_rfl) (by decide) (fun _ _ _ h => h) rfl ?hyf7 (fun _ => SB) ?restf7
     case hyf7 => (intro W; go_simp; (try with_reducible rfl))
     try simp only [List.setIfInBounds_toArray, List.set_cons_zero, List.set_cons_succ]
     refine wpAnyR_one (i := 8) (by kernel_rfl) rfl (fun K hK => ?_)
     try rw [if_pos (show Region.wanted _ _ = true from rfl)]
     go_simp
     have S6 : SS _ := HS.out (wy.alloc (Obj.cells #[Value.int IntKind.i64 l.1, Value.int IntKind.i64 l.2.1, Value.slice A4 l.2.2.length c4, Value.slice A5 (ageD ag k).1.length c5] 276)) (HQ.out.below.trans ((below1 wy _).mono HQ.out.below.size)) (Below.heap_alloc _ _ _ HRB.out.2)
     refine hK.out _ _ (fun _ => S6) ?_
     clear hK K
     try simp only [List.setIfInBounds_toArray, List.set_cons_zero, List.set_cons_succ, Act.put]
     refine wpAnyR_one (i := 9) (by kernel_rfl) rfl (fun K hK => ?_)
     refine step_append_lies _ rfl (.tmp 33) (.tmp 41) 250 rfl w.heap.size 276 i0 (.agg #[.int .i64 0, .int .i64 0, .slice none 0 0, .slice none 0 0]) 4 64 Tryz.underlying250 hi0 hz0 hz1 hz2 rfl (by decide) (.slice (some ⟨g3, 0, none⟩) us2.length c3) us2.length (flatQ us2) rfl ?fc1 ⟨wy.heap.size, 0, none⟩ 1 1 [.int .i64 l.1, .int .i64 l.2.1, .slice A4 l.2.2.length c4, .slice A5 (ageD ag k).1.length c5] rfl rfl ?fc4 ?fc2 (by omega) (by unfold maxLen; omega) (by omega) ?fc3 _ rfl ?fc5
     case fc1 => exact HQ.out.row.alloc _
     case fc4 => exact World.news_of_block (cs := #[.int .i64 l.1, .int .i64 l.2.1, .slice A4 l.2.2.length c4, .slice A5 (ageD ag k).1.length c5]) (heap_alloc_new wy _)
     case fc2 => intro u hu; simp at hu; rcases hu with rfl | rfl | rfl | rfl <;> rfl
     case fc3 => have := HQ.out.below.size; simp; omega
     case fc5 =>
     intro g2 cap w5 hown hgr hat _
     have HQ5 := Lib.hid (show QRel w w5 (us2 ++ [(.int .i64 l.1, .int .i64 l.2.1, .slice A4 l.2.2.length c4, .slice A5 (ageD ag k).1.length c5)]) (freshTo ls ag i (k + 1)) g2 cap from by
      rw [HFT.out]
      exact HQ.out.push (u := (.int .i64 l.1, .int .i64 l.2.1, .slice A4 l.2.2.length c4, .slice A5 (ageD ag k).1.length c5)) hgr hown ⟨rfl, rfl, HP3.out.below (HQ.out.below) (Nat.le_refl _), HF3.out.below HQ.out.below (Nat.le_refl _)⟩)
     have S5 : SS w5 := HS.out w5 HQ5.out.below ((grown_from_alloc hgr).block bx HRB.out.2 fun e => by have := HRB.out.1; simp [Value.ownBlock] at e; omega)
     clear hown hgr hat
     refine hK.out _ _ (fun _ => S5) ?_
     clear hK K
     try simp only [List.setIfInBounds_toArray, List.set_cons_zero, List.set_cons_succ, Act.put]
     refine wpAnyR_one (i := 10) (by kernel_rfl) rfl (fun K hK => ?_)
     go_simp
     refine hK.out _ _ (fun hf => absurd hf (by decide)) ?_
     clear hK K
     refine wpAnyR_done (by kernel_rfl) ?_
     clear S5 S6 SB HB HS
     go_wp2_with fail
     go_roundw
     case rel => exact ⟨k + 1, us2 ++ [(.int .i64 l.1, .int .i64 l.2.1, .slice A4 l.2.2.length c4, .slice A5 (ageD ag k).1.length c5)], g2, cap, by omega, by go_num, by simp, by have := (freshTo_len ls ag i k).1; have := HQR.out.rd.1; simp; omega, HQ5.out⟩
     case measure => simp [intOf]; omega
  ·obtain rfl : k = ls.length := by omega
   have hl2 : us2.length = ls.length := by
    rw [hq.rd.1]
    exact (freshTo_len ls ag i ls.length).2.1 hi
   have HQF := Lib.hid (And.intro (ownQ_at hq.row) hq)
   clear hq
   rw [hl2]
   go_wp2_with fail
   go_ret
   exact ⟨g3, c3, us2, rfl, HQF.out.1.2, HQF.out.1.1, HQF.out.2.rd, HQF.out.2.below⟩
open Go.RowKit
theorem run_append_w {P : Program} (w : World) (base : Nat) (t ty e : TypeId) (i : TypeInfo) (z : Value) (bytes : Nat) (ht : P.underlying t = some (.slice e)) (hi : P.info? e = some i) (hz : i.zero = some z)
 (hsize : i.size = 1) (hby : i.bytes = bytes) (hzs : z.cells.size = 1)
 (v : Value) (n : Nat) (xs : List Value) (hown : w.ownsRow base e 1 v n xs) (B : Nat) (x : Value) (ys : List (List Int)) (hr : RdW w B x ys)
 (h63 : n + ys.length <= maxLen) (hbytes : (n + ys.length) * bytes <= 140737488355328) (hbase : base <= w.heap.size) :
 ∃ A' c' w', (Builtin.append_ #[t, t] ty #[v, x]).run P w = .ok (.slice A' (n + ys.length) c') w' /\ w'.ownsRow base e 1 (.slice A' (n + ys.length) c') (n + ys.length) (xs ++ ys.map wd) /\ w.grownBy w' v.ownBlock /\
  ((Value.slice A' (n + ys.length) c').ownBlock = v.ownBlock \/ (Value.slice A' (n + ys.length) c').ownBlock = some w.heap.size) := by
 have hform : ∀ {w' : World} {v' : Value} {m : Nat} {zs : List Value}, w'.ownsRow base e 1 v' m zs -> ∃ A c, v' = .slice A m c := by
  intro w' v' m zs h
  rcases h.2 with ⟨rfl, h0⟩ | ⟨g, cap, _, rfl, _⟩
  ·exact ⟨none, 0, by rw [h0]⟩
  ·exact ⟨_, _, rfl⟩
 obtain ⟨A, c, rfl, hc, hcell⟩ := hr
 rcases A with _ | ad
 ·have h0 : ys.length = 0 := by
   rcases Nat.eq_zero_or_pos ys.length with h0 | h0
   ·exact h0
   ·obtain ⟨b, o, e, _⟩ := hcell h0
    cases e
  have hys : ys = [] := List.eq_nil_of_length_eq_zero h0
  subst hys
  obtain ⟨A', c', hv⟩ := hform hown
  refine ⟨A', c', w, ?_, by simpa [<- hv] using hown, World.grownBy.refl w _, .inl (by rw [hv]; rfl)⟩
  simp only [List.length_nil, Nat.add_zero]
  rw [<- hv]
  exact run_append_nilsrc w base t ty e i 1 ht hi v n xs hown c
 ·have hnews : ∀ j u, (ys.map wd)[j]? = some u -> w.cell? (ad.add j) = some u := by
   intro j u hu
   have hj : j < ys.length := by
    rcases Nat.lt_or_ge j ys.length with h | h
    ·exact h
    ·rw [List.getElem?_eq_none (by simpa using h)] at hu; cases hu
   obtain ⟨b, o, e, _, hx⟩ := hcell (by omega)
   injection e with e
   subst e
   rw [Go.WideShapes.add_plain, hx j hj]
   rw [List.getElem?_map, List.getElem?_eq_getElem hj] at hu
   exact hu
  obtain ⟨v', w', hrun, h2, h3, _, h5⟩ := run_append_own_at (P := P) w base t ty e i z 1 bytes ht hi hz hsize hby hzs (by decide) v n xs hown ad ys.length c (ys.map wd) (by simp) hnews
   (fun u hu => by simp at hu; obtain ⟨q, _, rfl⟩ := hu; rfl) h63 hbytes hbase
  obtain ⟨A', c', hv⟩ := hform h2
  subst hv
  exact ⟨A', c', w', hrun, h2, h3, h5⟩
theorem wpList_append_w {P : Program} {w : World} {ops : Array Oper} {rest : List Oper} {o : Oper} {a : Act} {Q : Exit -> Act -> World -> Prop} (hgd : o.guard = none) (s x : Operand) (t : TypeId)
 (ho : o.op = .call { callee := .builtin .append, args := #[s, x], argTypes := #[t, t] })
 (base : Nat) (e : TypeId) (i : TypeInfo) (z : Value) (bytes : Nat) (ht : P.underlying t = some (.slice e)) (hi : P.info? e = some i) (hz : i.zero = some z)
 (hsize : i.size = 1) (hby : i.bytes = bytes) (hzs : z.cells.size = 1)
 (v : Value) (n : Nat) (xs : List Value) (hs : a.eval s = v) (hown : w.ownsRow base e 1 v n xs) (B : Nat) (xv : Value) (ys : List (List Int)) (hx : a.eval x = xv) (hr : RdW w B xv ys)
 (h63 : n + ys.length <= maxLen) (hbytes : (n + ys.length) * bytes <= 140737488355328) (hbase : base <= w.heap.size)
 (h : ∀ A' c' w', w'.ownsRow base e 1 (.slice A' (n + ys.length) c') (n + ys.length) (xs ++ ys.map wd) -> w.grownBy w' v.ownBlock ->
   ((Value.slice A' (n + ys.length) c').ownBlock = v.ownBlock \/ (Value.slice A' (n + ys.length) c').ownBlock = some w.heap.size) -> wpList P ops Q rest (a.put o.dst (.slice A' (n + ys.length) c')) w') : wpList P ops Q (o :: rest) a w := by
 refine wpList_plain hgd fun _ hK => ?_
 obtain ⟨A', c', w', hrun, h2, h3, h4⟩ := run_append_w (P := P) w base t o.type e i z bytes ht hi hz hsize hby hzs v n xs hown B xv ys hr h63 hbytes hbase
 unfold Oper.wp execOp
 simp only [ho, resolve, invoke, builtin, Sem.run_bind, Sem.run_pure, Result.andThen_ok, List.map_toArray, List.map_cons, List.map_nil, hs, hx, hrun]
 exact hK _ _ (h A' c' w' h2 h3 h4)
open Go.RowKit
theorem freshTo_step {ls : List LLit} {ag : List LAge} {k : Nat} {S S1 : List (List Int)} (h0 : (litD ls k).1 = 0) (h : ∀ b, b ∈ S <-> FreshSolTo ls ag k b) (h1 : ∀ b, b ∈ S1 <-> bindOk b = true /\ DomL ls b /\ FreshAt ls ag k b) (b : List Int) : b ∈ S ++ S1 <-> FreshSolTo ls ag (k + 1) b := by
 rw [List.mem_append, h b, h1 b]
 unfold FreshSolTo
 constructor
 ·rintro (⟨a1, a2, i, hi, a3⟩ | ⟨a1, a2, a3⟩)
  ·exact ⟨a1, a2, i, by omega, a3⟩
  ·exact ⟨a1, a2, k, by omega, h0, a3⟩
 ·rintro ⟨a1, a2, i, hi, a3, a4⟩
  by_cases e : i = k
  ·subst e
   exact .inr ⟨a1, a2, a4⟩
  ·exact .inl ⟨a1, a2, i, by omega, a3, a4⟩
theorem freshTo_skip {ls : List LLit} {ag : List LAge} {k : Nat} (h0 : ¬ ((litD ls k).1 = 0 /\ 0 < (ageD ag k).2.2.length)) (b : List Int) : FreshSolTo ls ag k b <-> FreshSolTo ls ag (k + 1) b := by
 unfold FreshSolTo
 constructor
 ·rintro ⟨a1, a2, i, hi, a3⟩
  exact ⟨a1, a2, i, by omega, a3⟩
 ·rintro ⟨a1, a2, i, hi, a3, a4⟩
  refine ⟨a1, a2, i, ?_, a3, a4⟩
  rcases Nat.lt_or_ge i k with h | h
  ·exact h
  ·obtain rfl : i = k := by omega
   have h5 := ((hold_yes a3).1 a4.1).2
   exact absurd ⟨a3, List.length_pos_of_mem h5⟩ h0
set_option maxHeartbeats 4000000 in
set_option maxRecDepth 100000 in
theorem solveFresh_any (ga ca : Nat) (ls : List LLit) (ag : List LAge) (us : List AV) (v : Value) (w : World) (h : RdLits w w.heap.size v ls) (h2 : AtA w ga ca us) (h3 : RdAges w w.heap.size us ag) (hal : ag.length = ls.length) (hs : SafeB ls) (htl : totL ls <= 1048576) (hok : ∀ a ∈ ag, AgeOk a) :
 Calls Tryz.prog 249 #[v, .slice (some ⟨ga, 0, none⟩) ls.length ca] w fun e' w' =>
  ∃ (A : Option Addr) (c : Nat) (S : List (List Int)), e' = .returned (.slice A S.length c) /\ OwnW w' w.heap.size w'.heap.size (.slice A S.length c) S /\ Below w.heap.size w w' /\ (∀ b, b ∈ S <-> FreshSol ls ag b) /\ S.length <= 262144 /\ ((∀ j f, f ∈ (ageD ag j).2.1 -> f ∉ (ageD ag j).2.2) -> S.Nodup) := by
 obtain ⟨i0, hi0, hz0, hz1, hz2⟩ := info_parts Tryz.infoWord
 have hn := hs.few
 have HL := Lib.hid h
 have HA := Lib.hid h2
 have HR := Lib.hid h3
 have HAL := Lib.hid (And.intro hal h3.1)
 have HS := Lib.hid hs
 have HOK := Lib.hid hok
 obtain ⟨A, c, rfl, hc, _⟩ := h
 clear h2 h3 hal hs hok
 go_enter Tryz.func249, Tryz.ntmps249
 go_wp2_with fail
 go_loopw [5, 10] (fun q x wr => ∃ (k : Nat) (A' : Option Addr) (c' : Nat) (S : List (List Int)), k <= ls.length /\ x = .int .i64 k /\ q = .slice A' S.length c' /\ OwnW wr w.heap.size wr.heap.size (.slice A' S.length c') S /\ Below w.heap.size w wr /\ (∀ b, b ∈ S <-> FreshSolTo ls ag k b) /\ S.length <= k * 65536 /\ ((∀ j f, f ∈ (ageD ag j).2.1 -> f ∉ (ageD ag j).2.2) -> S.Nodup)) (fun _ x _ => ls.length - (intOf x).toNat)
 case atStart => exact ⟨0, none, 0, [], Nat.zero_le _, rfl, rfl, ⟨World.ownsRow_nil _ _ _ _, fun g hg => by cases hg⟩, Below.refl _ _, fun b => by simp [FreshSolTo], by simp, fun _ => List.nodup_nil⟩
 case round =>
  obtain ⟨k, A', c', S, hk, rfl, rfl, how, hbe, hmem, hlen, hnd⟩ := hrel
  have HO := Lib.hid how
  have HBE := Lib.hid hbe
  have HM := Lib.hid hmem
  have HND := Lib.hid hnd
  clear how hmem hnd
  by_cases hlt : k < ls.length
  ·obtain ⟨b, o3, u0, u1, u2, rfl, hbB, k0, k1, k2, rfl, rfl, p3⟩ := (HL.out.below hbe (Nat.le_refl _)).get hlt
   obtain ⟨A4, c4, rfl, hc4, _⟩ := id p3
   obtain ⟨l, hle⟩ : ∃ l, l = litD ls k := ⟨_, rfl⟩
   have hli : l = ls[k] := by rw [hle, litD_lt hlt]
   rw [<- hli] at k0 k1 k2 hc4
   have huk : k < us.length := by rw [HAL.out.2, HAL.out.1]; exact hlt
   have hak : k < ag.length := by rw [HAL.out.1]; exact hlt
   have hga : ga < w.heap.size := HA.out.lt
   have k3 := (hbe.cell (p := ⟨ga, k * 3 + 2, none⟩) hga).trans (HA.out.cells huk).2.2
   have hf3 := (HR.out.2 k huk hak).2.2
   rw [<- ageD_lt hak] at hf3
   obtain ⟨A5, c5, e5, _, _⟩ := hf3
   rw [e5] at k3
   obtain ⟨n5, hn5⟩ : ∃ n5, n5 = (ageD ag k).2.2.length := ⟨_, rfl⟩
   rw [<- hn5] at k3
   have HN5 := Lib.hid hn5
   have HLE := Lib.hid hle
   have k3' := (below1 wr (Obj.cells #[Value.int IntKind.i64 l.1, Value.int IntKind.i64 l.2.1, Value.slice A4 l.2.2.length c4] 191)).cell (p := ⟨ga, k * 3 + 2, none⟩) (by have := hbe.size; show ga < _; omega)
   rw [k3] at k3'
   clear hle hli p3 hbe e5 hn5
   by_cases hcond : l.1 = 0 /\ 0 < n5
   ·obtain ⟨hc1, hc2⟩ := hcond
    have hd1 : (l.1 == 0) = true := by simpa using hc1
    have hd2 : decide (0 < n5) = true := decide_eq_true hc2
    have HC1 := Lib.hid hc1
    clear hc1
    obtain ⟨w2, hw2⟩ : ∃ w2, w2 = wr.alloc (Obj.cells #[Value.int IntKind.i64 l.1, Value.int IntKind.i64 l.2.1, Value.slice A4 l.2.2.length c4] 191) := ⟨_, rfl⟩
    have HB2 := Lib.hid (show Below wr.heap.size wr w2 by rw [hw2]; exact below1 _ _)
    have HW2 := Lib.hid hw2
    clear hw2
    have CF := Lib.hid (freshQuestions_any ga ca k ls ag us (.slice (some ⟨b, o3, none⟩) ls.length c) w2 ((HL.out.on HBE.out).on HB2.out) ((HA.out.below HBE.out hga).below HB2.out (by have := HBE.out.size; omega)) ((HR.out.below HBE.out (Nat.le_refl _)).below HB2.out HBE.out.size |>.more (by have := HBE.out.size; have := HB2.out.size; omega)) HAL.out.1 hlt hn)
    go_upto_region 6 with fail
    rw [<- HW2.out]
    go_wp2_with (first
     | (go_at_call 272; refine CF.out.mono ?_; rintro e3 w3 ⟨g2, c2, us2, rfl, hg2, at3, rd3, b3⟩
        have CS := solve_any g2 c2 w2.heap.size us2 (freshTo ls ag k ls.length) w3 at3 rd3 hg2 (by have := (freshTo_len ls ag k ls.length).1; omega) (freshQ_ok hlt HAL.out.1 HS.out htl HOK.out) (freshQ_safe hlt HS.out)
        rw [(freshTo_len ls ag k ls.length).2.1 hlt] at CS
        have HCS := Lib.hid CS
        have H3 := Lib.hid (And.intro hg2 b3)
        clear CS hg2 at3 rd3 b3)
     | (go_at_call 202; refine HCS.out.mono ?_; rintro e4 w4 ⟨A6, c6, S1, rfl, own4, on4, is4⟩
        have H4 := Lib.hid (And.intro own4 (And.intro on4 is4))
        clear own4 on4 is4
        have hs3 := H3.out.2.size
        have hs2 := HB2.out.size
        have hs4 := H4.out.2.1.size
        have hg2 := H3.out.1
        have hl4 : S1.length <= 65536 := binds_len H4.out.2.2.1 H4.out.2.2.ok
        have hsr := HBE.out.size
        have B4 : Below wr.heap.size wr w4 := (bthen HB2.out H3.out.2).trans (H4.out.2.1.below (by omega) (by omega))
        have HB4 := Lib.hid B4
        clear B4)
     | (at_builtin; refine wpList_append_w rfl (.tmp 27) (.tmp 32) 248 rfl w.heap.size 180 i0 (.int .u32 0) 4 Tryz.underlying248 hi0 hz0 hz1 hz2 rfl (.slice A' S.length c') S.length (S.map wd) rfl (HO.out.below HB4.out (Nat.le_refl _)).1 w4.heap.size (.slice A6 S1.length c6) S1 rfl H4.out.1.rd (by unfold maxLen; omega) (by omega) (by omega) ?_))
    intro A7 c7 w5 hown hgr hat
    obtain ⟨_, hmm⟩ := freshQ_is hlt H4.out.2.2
    have HF := Lib.hid (show OwnW w5 w.heap.size w5.heap.size (.slice A7 (S ++ S1).length c7) (S ++ S1) /\ Below w.heap.size w w5 /\ (∀ b, b ∈ S ++ S1 <-> FreshSolTo ls ag (k + 1) b) /\ (S ++ S1).length <= (k + 1) * 65536 /\ ((∀ j f, f ∈ (ageD ag j).2.1 -> f ∉ (ageD ag j).2.2) -> (S ++ S1).Nodup) from by
     refine ⟨⟨?_, fun g hg => ?_⟩, ?_, freshTo_step (by rw [<- HLE.out]; exact HC1.out) HM.out hmm, by simp; omega, fun hd => ?_⟩
     ·rw [List.length_append, List.map_append]
      exact hown
     ·rw [List.length_append] at hg
      exact (hown.lt g hg).2
     ·refine (HBE.out.trans (HB4.out.mono hsr)).grown hgr (by omega) fun k hk => ?_
      exact ((HO.out.1).lt k hk).1
     ·rw [List.nodup_append]
      refine ⟨HND.out hd, H4.out.2.2.1, fun x hx y hy e => ?_⟩
      subst e
      obtain ⟨_, _, i, hi, h0, hf⟩ := (HM.out x).1 hx
      exact fresh_apart (show i < ls.length by omega) hi h0 (hd i) hf ((hmm x).1 hy).2.2)
    have hlen2 : S.length + S1.length = (S ++ S1).length := by simp
    rw [hlen2]
    have HF2 := Lib.hid (And.intro hlen2 HF.out)
    clear hlen2 hown hgr hat hmm
    go_wp2_with fail
    go_roundw
    case rel => exact ⟨k + 1, A7, c7, S ++ S1, by omega, by go_num, rfl, HF.out.1, HF.out.2.1, HF.out.2.2.1, HF.out.2.2.2.1, HF.out.2.2.2.2⟩
    case measure => simp [intOf]; omega
   ·have HNC := Lib.hid (show ∀ b, FreshSolTo ls ag k b <-> FreshSolTo ls ag (k + 1) b from freshTo_skip (by rw [<- HLE.out, <- HN5.out]; exact hcond))
    have hd : ((l.1 == 0) = true /\ decide (0 < n5) = false) \/ (l.1 == 0) = false := by
     by_cases e : l.1 = 0
     ·exact .inl ⟨by simpa using e, by
       exact decide_eq_false fun h => hcond ⟨e, h⟩⟩
     ·exact .inr (by simpa using e)
    clear hcond
    rcases hd with ⟨hd1, hd2⟩ | hd1
    all_goals
     go_wp2_with fail
     go_roundw
     case rel => exact ⟨k + 1, A', c', S, by omega, by go_num, rfl, (HO.out.below (below1 _ _) (Nat.le_refl _)).mono (Nat.le_refl _) (below1 _ _).size, bthen HBE.out (below1 _ _), fun b => (HM.out b).trans (HNC.out b), Nat.le_trans hlen (Nat.mul_le_mul_right _ (Nat.le_succ k)), HND.out⟩
     case measure => simp [intOf]; omega
  ·obtain rfl : k = ls.length := by omega
   clear hbe
   go_wp2_with fail
   go_ret
   exact ⟨A', c', S, rfl, HO.out, HBE.out, HM.out, by omega, HND.out⟩
open Go.RowKit
theorem updIf (a b : Nat -> Nat) (k : Nat) : updF (fun q => if q < k then a q else b q) k (a k) = fun q => if q < k + 1 then a q else b q := by
 funext q
 by_cases e : q = k
 ·subst e
  rw [updF_same, if_pos (Nat.lt_succ_self _)]
 ·rw [updF_ne _ _ e]
  by_cases h : q < k
  ·rw [if_pos h, if_pos (by omega)]
  ·rw [if_neg h, if_neg (by omega)]
theorem GrRaw.same {w : World} {g : Nat} {XL : List FV} {E : List Nat} {XP : Nat -> List FV} {O La O' La' : Nat -> Nat} {T : List Nat} {R : Nat -> Value} (h : GrRaw w g XL E XP O La T R) (h1 : ∀ p, p < 24 -> O p = O' p) (h2 : ∀ p, p < 24 -> La p = La' p) : GrRaw w g XL E XP O' La' T R := by
 obtain ⟨cs, g1, g2⟩ := h.blk
 exact ⟨⟨cs, g1, g2.size, g2.list, g2.ends, g2.tab, g2.pred, fun p hp => by rw [<- h1 p hp]; exact g2.old p hp, fun p hp => by rw [<- h2 p hp]; exact g2.lat p hp⟩, h.tl, h.tb, h.list, h.ends, h.pred, h.apart, h.argsL, h.argsP⟩
theorem Tryz.infoInt1 : (Tryz.prog.info? 3).map (fun i => (i.zero, i.size, i.bytes)) = some (some (.int .i64 0), 1, 8) := by kernel_rfl
set_option maxHeartbeats 4000000 in
set_option maxRecDepth 100000 in
theorem endRound_any (g : Nat) (X : List FV) (E : List Nat) (o e : Nat) (R : Nat -> Value) (w : World) (h : GrAt w g X E o e R) (hn : X.length <= 1048576) (hE : E.length <= 1048576) :
 Calls Tryz.prog 200 #[.pointer (some ⟨g, 0, none⟩)] w fun e' w' =>
  e' = .returned (.tuple #[]) /\ ∃ R', GrAt w' g X (E ++ [X.length]) e X.length R' /\ KeepR g w R w' R' := by
 obtain ⟨i0, hi0, hz0, hz1, hz2⟩ := info_parts Tryz.infoInt1
 have HAT := Lib.hid h
 have hgl := h.lt
 clear h
 go_enter Tryz.func200, Tryz.ntmps200
 go_upto_region 0 with fail
 refine wp_region_rel (fun W => W.cell? ⟨g, 0, none⟩ = some (R 0) /\ W.cell? ⟨g, 1, none⟩ = some (R 1)) 14 15 (by kernel_rfl) rfl ?_
 obtain ⟨wy, hwy⟩ : ∃ wy, wy = w.drew := ⟨_, rfl⟩
 have HG := Lib.hid (show GrAt wy g X E o e R by rw [hwy]; exact HAT.out.drew)
 have HK := Lib.hid (show KeepR g w R wy R by rw [hwy]; exact (KeepR.refl g w R).drew)
 rw [<- hwy]
 clear hwy
 obtain ⟨A0, c0, hv0⟩ := HG.out.raw.formL
 obtain ⟨A1, c1, hv1⟩ := HG.out.raw.formE
 obtain ⟨SS, hSS⟩ : ∃ SS : World -> Prop, SS = (fun W => W.cell? ⟨g, 0, none⟩ = some (R 0) /\ W.cell? ⟨g, 1, none⟩ = some (R 1)) := ⟨_, rfl⟩
 rw [<- hSS]
 have HB := Lib.hid (show ∀ W, SS W -> (W.cell? ⟨g, 0, none⟩ = some (.slice A0 X.length c0) /\ W.cell? ⟨g, 1, none⟩ = some (.slice A1 E.length c1)) from by rw [hSS, hv0, hv1]; exact fun W hW => hW)
 have HS := Lib.hid (show ∀ W : World, (∀ b, b < wy.heap.size -> (R 1).ownBlock ≠ some b -> W.heap[b]? = wy.heap[b]?) -> SS W from by
  rw [hSS]
  intro W hW
  have hg0 : W.heap[g]? = wy.heap[g]? := hW g HG.out.lt fun e => by have := HG.out.raw.rowLt (show 1 < 26 by omega) e; omega
  exact ⟨(World.cell?_of_block hg0).trans HG.out.raw.cellList, (World.cell?_of_block hg0).trans HG.out.raw.cellEnds⟩)
 have HFR := Lib.hid (show ∀ W : World, (∀ b, b < wy.heap.size -> (R 1).ownBlock ≠ some b -> W.heap[b]? = wy.heap[b]?) -> W.frozen? ⟨g, 1, none⟩ = false from fun W hW => by
  have hg0 : W.heap[g]? = wy.heap[g]? := hW g HG.out.lt fun e => by have := HG.out.raw.rowLt (show 1 < 26 by omega) e; omega
  exact (World.frozen?_of_block hg0).trans (HG.out.raw.free 1))
 have SB : SS wy := HS.out wy fun _ _ _ => rfl
 have HV1 := Lib.hid hv1
 clear hSS hv0 hv1
 refine wpAnyR_pure (i := 0) (oi := _) ?va0 rfl rfl (by kernel_rfl) (by decide) (fun _ _ _ h => h) rfl ?hya0 (fun _ => SB) ?resta0
 case hya0 => (intro W; go_simp; (try with_reducible rfl))
 try simp only [List.setIfInBounds_toArray, List.set_cons_zero, List.set_cons_succ]
 refine wpAnyR_pure (i := 1) (oi := _) ?va1 rfl rfl (by kernel_rfl) (by decide) (fun _ _ _ h => h) rfl ?hya1 (fun _ => SB) ?resta1
 case hya1 => (intro W; go_simp; (try with_reducible rfl))
 try simp only [List.setIfInBounds_toArray, List.set_cons_zero, List.set_cons_succ]
 refine wpAnyR_pure (i := 2) (oi := _) ?va2 rfl rfl (by kernel_rfl) (by decide) (fun _ _ _ h => h) rfl ?hya2 (fun _ => SB) ?resta2
 case hya2 => (intro W; go_simp; (try with_reducible rfl))
 try simp only [List.setIfInBounds_toArray, List.set_cons_zero, List.set_cons_succ]
 refine wpAnyR_pure (i := 3) (oi := _) ?va3 rfl rfl (by kernel_rfl) (by decide) (fun _ _ _ h => h) rfl ?hya3 (fun _ => SB) ?resta3
 case hya3 => (intro W; go_simp; (try with_reducible rfl))
 try simp only [List.setIfInBounds_toArray, List.set_cons_zero, List.set_cons_succ]
 refine wpAnyR_take (i := 4) (oi := _) ?va4 rfl rfl (by kernel_rfl) (fun _ _ _ h => h) rfl ?hya4 SB ?resta4
 case hya4 => (intro W hW; obtain ⟨E0, E1⟩ := HB.out W hW; go_simp; (try with_reducible rfl))
 try simp only [List.setIfInBounds_toArray, List.set_cons_zero, List.set_cons_succ]
 refine wpAnyR_pure (i := 5) (oi := _) ?va5 rfl rfl (by kernel_rfl) (by decide) (fun _ _ _ h => h) rfl ?hya5 (fun _ => SB) ?resta5
 case hya5 => (intro W; go_simp; (try with_reducible rfl))
 try simp only [List.setIfInBounds_toArray, List.set_cons_zero, List.set_cons_succ]
 refine wpAnyR_pure (i := 6) (oi := _) ?va6 rfl rfl (by kernel_rfl) (by decide) (fun _ _ _ h => h) rfl ?hya6 (fun _ => SB) ?resta6
 case hya6 => (intro W; go_simp; (try with_reducible rfl))
 try simp only [List.setIfInBounds_toArray, List.set_cons_zero, List.set_cons_succ]
 refine wpAnyR_pure (i := 7) (oi := _) ?va7 rfl rfl (by kernel_rfl) (by decide) (fun _ _ _ h => h) rfl ?hya7 (fun _ => SB) ?resta7
 case hya7 => (intro W; go_simp; (try with_reducible rfl))
 try simp only [List.setIfInBounds_toArray, List.set_cons_zero, List.set_cons_succ]
 refine wpAnyR_take (i := 8) (oi := _) ?va8 rfl rfl (by kernel_rfl) (fun _ _ _ h => h) rfl ?hya8 SB ?resta8
 case hya8 => (intro W hW; obtain ⟨E0, E1⟩ := HB.out W hW; go_simp; (try with_reducible rfl))
 try simp only [List.setIfInBounds_toArray, List.set_cons_zero, List.set_cons_succ]
 refine wpAnyR_pure (i := 9) (oi := _) ?va9 rfl rfl (by kernel_rfl) (by decide) (fun _ _ _ h => h) rfl ?hya9 (fun _ => SB) ?resta9
 case hya9 => (intro W; go_simp; (try with_reducible rfl))
 try simp only [List.setIfInBounds_toArray, List.set_cons_zero, List.set_cons_succ]
 refine wpAnyR_one (i := 10) (by kernel_rfl) rfl (fun K hK => ?_)
 try rw [if_pos (show Region.wanted _ _ = true from rfl)]
 go_simp
 have S6 : SS _ := HS.out (wy.alloc (Obj.cells #[Value.int IntKind.i64 (X.length : Int)] 3)) fun b hb _ => Below.heap_alloc _ _ _ hb
 refine hK.out _ _ (fun _ => S6) ?_
 clear hK K
 try simp only [List.setIfInBounds_toArray, List.set_cons_zero, List.set_cons_succ, Act.put]
 refine wpAnyR_one (i := 11) (by kernel_rfl) rfl (fun K hK => ?_)
 refine step_append_lies _ rfl (.tmp 8) (.tmp 14) 22 rfl (g + 1) 3 i0 (.int .i64 0) 1 8 Tryz.underlying22 hi0 hz0 hz1 hz2 rfl (by decide) (.slice A1 E.length c1) E.length (E.map inN) rfl ?c1 ⟨wy.heap.size, 0, none⟩ 1 1 [.int .i64 (X.length : Int)] rfl rfl ?c4 ?c2 (by omega) (by unfold maxLen; omega) (by omega) ?c3 _ rfl ?c5
 case c1 => exact (HV1.out ▸ HG.out.raw.ends).alloc _
 case c4 => exact cell_one_new _ _ _
 case c2 => intro u hu; simp at hu; subst hu; rfl
 case c3 => have := HG.out.lt; simp; omega
 case c5 =>
 intro g2 cap w5 hown hgr hat _
 have HGW := Lib.hid (show Grew wy g R 1 1 (.slice (some ⟨g2, 0, none⟩) (E.length + 1) cap) w5 from by
  have hgr' := grown_from_alloc hgr
  refine ⟨by rw [HV1.out]; exact hgr', fun b hb => ?_⟩
  have e : g2 = b := by simpa [Value.ownBlock] using hb
  subst e
  rw [HV1.out]
  rcases hat with hat | hat
  ·exact .inl hat
  ·exact .inr (by rw [hat]; simp))
 have HOW := Lib.hid hown
 have S5 : SS w5 := HS.out w5 fun b hb hne => HGW.out.grown.block b hb fun e => hne e.symm
 have f5 : w5.frozen? ⟨g, 1, none⟩ = false := HFR.out w5 fun b hb hne => HGW.out.grown.block b hb fun e => hne e.symm
 have c5 : w5.cell? ⟨g, 1, none⟩ = some (.slice A1 E.length c1) := (HB.out w5 S5).2
 clear hown hgr hat
 refine hK.out _ _ (fun _ => S5) ?_
 clear hK K
 try simp only [List.setIfInBounds_toArray, List.set_cons_zero, List.set_cons_succ, Act.put]
 refine wpAnyR_pure (i := 12) (oi := _) ?va12 rfl rfl (by kernel_rfl) (by decide) (fun _ _ _ h => h) rfl ?hya12 (fun _ => S5) ?resta12
 case hya12 => (intro W; go_simp; (try with_reducible rfl))
 try simp only [List.setIfInBounds_toArray, List.set_cons_zero, List.set_cons_succ]
 refine wpAnyR_pure (i := 13) (oi := _) ?va13 rfl rfl (by kernel_rfl) (by decide) (fun _ _ _ h => h) rfl ?hya13 (fun _ => S5) ?resta13
 case hya13 => (intro W; go_simp; (try with_reducible rfl))
 try simp only [List.setIfInBounds_toArray, List.set_cons_zero, List.set_cons_succ]
 refine wpAnyR_one (i := 14) (by kernel_rfl) rfl (fun K hK => ?_)
 go_simp
 refine hK.out _ _ (fun hf => absurd hf (by decide)) ?_
 clear hK K
 refine wpAnyR_done (by kernel_rfl) ?_
 obtain ⟨R1, hR1⟩ : ∃ R1, R1 = updF R 1 (.slice (some ⟨g2, 0, none⟩) (E.length + 1) cap) := ⟨_, rfl⟩
 obtain ⟨w6, hw6⟩ : ∃ w6, w6 = w5.setCell ⟨g, 1, none⟩ (.slice (some ⟨g2, 0, none⟩) (E.length + 1) cap) := ⟨_, rfl⟩
 have H6 := Lib.hid (show GrRaw w6 g X (E ++ [X.length]) (ofX X) (cntX X o) (cntX X e) (tabWith zeroT (factsX X)) R1 /\ KeepR g w R w6 R1 from by
  rw [hw6, hR1]
  have := HG.out.raw.growEnds HGW.out HOW.out
  exact ⟨this.1, HK.out.trans this.2⟩)
 rw [<- hw6]
 clear hw6 hR1 S5 f5 c5 SB S6
 go_wp2_with fail
 go_loopw [18] (fun i wr => ∃ k : Nat, k <= 24 /\ i = .int .i64 k /\ GrRaw wr g X (E ++ [X.length]) (ofX X) (fun q => if q < k then cntX X e q else cntX X o q) (fun q => if q < k then cntX X X.length q else cntX X e q) (tabWith zeroT (factsX X)) R1 /\ KeepR g w R wr R1) (fun i _ => 24 - (intOf i).toNat)
 case atStart => exact ⟨0, Nat.zero_le _, rfl, by simpa using H6.out.1, H6.out.2⟩
 case round =>
  obtain ⟨k, hk, rfl, hraw, hkp⟩ := hrel
  have HR := Lib.hid hraw
  have HKP := Lib.hid hkp
  clear hraw hkp
  by_cases hlt : k < 24
  ·have hki : (k : Int) < 24 := by omega
   go_upto_region 5 with fail
   refine wp_region_rel (fun W => W.cell? ⟨g, 26 + k * 3, none⟩ = some (R1 (2 + k)) /\ W.cell? ⟨g, 26 + k * 3 + 2, none⟩ = some (inN (cntX X e k))) 16 17 (by kernel_rfl) rfl ?_
   obtain ⟨wz, hwz⟩ : ∃ wz, wz = wr.drew := ⟨_, rfl⟩
   have HG2 := Lib.hid (show GrRaw wz g X (E ++ [X.length]) (ofX X) (fun q => if q < k then cntX X e q else cntX X o q) (fun q => if q < k then cntX X X.length q else cntX X e q) (tabWith zeroT (factsX X)) R1 by rw [hwz]; exact HR.out.drew)
   have HK2 := Lib.hid (show KeepR g w R wz R1 by rw [hwz]; exact HKP.out.drew)
   rw [<- hwz]
   clear hwz
   obtain ⟨A2, c2, hv2⟩ := HG2.out.formP hlt
   obtain ⟨S2, hS2⟩ : ∃ S2 : World -> Prop, S2 = (fun W => W.cell? ⟨g, 26 + k * 3, none⟩ = some (R1 (2 + k)) /\ W.cell? ⟨g, 26 + k * 3 + 2, none⟩ = some (inN (cntX X e k))) := ⟨_, rfl⟩
   rw [<- hS2]
   clear HB
   have HB := Lib.hid (show ∀ W, S2 W -> (W.cell? ⟨g, 26 + k * 3, none⟩ = some (.slice A2 (ofX X k).length c2) /\ W.cell? ⟨g, 26 + k * 3 + 2, none⟩ = some (.int .i64 ((cntX X e k : Nat) : Int))) from by rw [hS2, hv2]; exact fun W hW => hW)
   have SB : S2 wz := by
    rw [hS2]
    refine ⟨HG2.out.cellPred hlt, ?_⟩
    have := HG2.out.cellLat hlt
    rw [if_neg (Nat.lt_irrefl k)] at this
    exact this
   have hx1 : wz.cell? ⟨g, 26 + k * 3 + 1, none⟩ = some (inN (cntX X o k)) := by
    have := HG2.out.cellOld hlt
    rw [if_neg (Nat.lt_irrefl k)] at this
    exact this
   have hf1 : wz.frozen? ⟨g, 26 + k * 3 + 1, none⟩ = false := HG2.out.free _
   have hx2 := (HB.out wz SB).2
   have hf2 : wz.frozen? ⟨g, 26 + k * 3 + 2, none⟩ = false := HG2.out.free _
   have HS2 := Lib.hid (show S2 (wz.setCell ⟨g, 26 + k * 3 + 1, none⟩ (.int .i64 ((cntX X e k : Nat) : Int))) from by
    have := HG2.out.setOld hlt (cntX X e k)
    rw [hS2]
    refine ⟨this.cellPred hlt, ?_⟩
    have := this.cellLat hlt
    rw [if_neg (Nat.lt_irrefl k)] at this
    exact this)
   clear hS2 hv2
   unfold inN at hx1
   refine wpAnyR_pure (i := 0) (oi := _) ?vb0 rfl rfl (by kernel_rfl) (by decide) (fun _ _ _ h => h) rfl ?hyb0 (fun _ => SB) ?restb0
   case hyb0 => (intro W; go_simp; (try with_reducible rfl))
   try simp only [List.setIfInBounds_toArray, List.set_cons_zero, List.set_cons_succ]
   refine wpAnyR_pure (i := 1) (oi := _) ?vb1 rfl rfl (by kernel_rfl) (by decide) (fun _ _ _ h => h) rfl ?hyb1 (fun _ => SB) ?restb1
   case hyb1 => (intro W; go_simp; (try with_reducible rfl))
   try simp only [List.setIfInBounds_toArray, List.set_cons_zero, List.set_cons_succ]
   refine wpAnyR_pure (i := 2) (oi := _) ?vb2 rfl rfl (by kernel_rfl) (by decide) (fun _ _ _ h => h) rfl ?hyb2 (fun _ => SB) ?restb2
   case hyb2 => (intro W; go_simp; (try with_reducible rfl))
   try simp only [List.setIfInBounds_toArray, List.set_cons_zero, List.set_cons_succ]
   refine wpAnyR_pure (i := 3) (oi := _) ?vb3 rfl rfl (by kernel_rfl) (by decide) (fun _ _ _ h => h) rfl ?hyb3 (fun _ => SB) ?restb3
   case hyb3 => (intro W; go_simp; (try with_reducible rfl))
   try simp only [List.setIfInBounds_toArray, List.set_cons_zero, List.set_cons_succ]
   refine wpAnyR_pure (i := 4) (oi := _) ?vb4 rfl rfl (by kernel_rfl) (by decide) (fun _ _ _ h => h) rfl ?hyb4 (fun _ => SB) ?restb4
   case hyb4 => (intro W; go_simp; (try with_reducible rfl))
   try simp only [List.setIfInBounds_toArray, List.set_cons_zero, List.set_cons_succ]
   refine wpAnyR_take (i := 5) (oi := _) ?vb5 rfl rfl (by kernel_rfl) (fun _ _ _ h => h) rfl ?hyb5 SB ?restb5
   case hyb5 => (intro W hW; obtain ⟨E0, E1⟩ := HB.out W hW; go_simp; (try with_reducible rfl))
   try simp only [List.setIfInBounds_toArray, List.set_cons_zero, List.set_cons_succ]
   refine wpAnyR_pure (i := 6) (oi := _) ?vb6 rfl rfl (by kernel_rfl) (by decide) (fun _ _ _ h => h) rfl ?hyb6 (fun _ => SB) ?restb6
   case hyb6 => (intro W; go_simp; (try with_reducible rfl))
   try simp only [List.setIfInBounds_toArray, List.set_cons_zero, List.set_cons_succ]
   refine wpAnyR_pure (i := 7) (oi := _) ?vb7 rfl rfl (by kernel_rfl) (by decide) (fun _ _ _ h => h) rfl ?hyb7 (fun _ => SB) ?restb7
   case hyb7 => (intro W; go_simp; (try with_reducible rfl))
   try simp only [List.setIfInBounds_toArray, List.set_cons_zero, List.set_cons_succ]
   refine wpAnyR_pure (i := 8) (oi := _) ?vb8 rfl rfl (by kernel_rfl) (by decide) (fun _ _ _ h => h) rfl ?hyb8 (fun _ => SB) ?restb8
   case hyb8 => (intro W; go_simp; (try with_reducible rfl))
   try simp only [List.setIfInBounds_toArray, List.set_cons_zero, List.set_cons_succ]
   refine wpAnyR_take (i := 9) (oi := _) ?vb9 rfl rfl (by kernel_rfl) (fun _ _ _ h => h) rfl ?hyb9 SB ?restb9
   case hyb9 => (intro W hW; obtain ⟨E0, E1⟩ := HB.out W hW; go_simp; (try with_reducible rfl))
   try simp only [List.setIfInBounds_toArray, List.set_cons_zero, List.set_cons_succ]
   refine wpAnyR_pure (i := 10) (oi := _) ?vb10 rfl rfl (by kernel_rfl) (by decide) (fun _ _ _ h => h) rfl ?hyb10 (fun _ => SB) ?restb10
   case hyb10 => (intro W; go_simp; (try with_reducible rfl))
   try simp only [List.setIfInBounds_toArray, List.set_cons_zero, List.set_cons_succ]
   refine wpAnyR_pure (i := 11) (oi := _) ?vb11 rfl rfl (by kernel_rfl) (by decide) (fun _ _ _ h => h) rfl ?hyb11 (fun _ => SB) ?restb11
   case hyb11 => (intro W; go_simp; (try with_reducible rfl))
   try simp only [List.setIfInBounds_toArray, List.set_cons_zero, List.set_cons_succ]
   refine wpAnyR_pure (i := 12) (oi := _) ?vb12 rfl rfl (by kernel_rfl) (by decide) (fun _ _ _ h => h) rfl ?hyb12 (fun _ => SB) ?restb12
   case hyb12 => (intro W; go_simp; (try with_reducible rfl))
   try simp only [List.setIfInBounds_toArray, List.set_cons_zero, List.set_cons_succ]
   refine wpAnyR_one (i := 13) (by kernel_rfl) rfl (fun K hK => ?_)
   try rw [if_pos (show Region.wanted _ _ = true from rfl)]
   go_simp
   have S3 := HS2.out
   refine hK.out _ _ (fun _ => S3) ?_
   clear hK K
   try simp only [List.setIfInBounds_toArray, List.set_cons_zero, List.set_cons_succ, Act.put]
   refine wpAnyR_pure (i := 14) (oi := _) ?vb14 rfl rfl (by kernel_rfl) (by decide) (fun _ _ _ h => h) rfl ?hyb14 (fun _ => S3) ?restb14
   case hyb14 => (intro W; go_simp; (try with_reducible rfl))
   try simp only [List.setIfInBounds_toArray, List.set_cons_zero, List.set_cons_succ]
   refine wpAnyR_pure (i := 15) (oi := _) ?vb15 rfl rfl (by kernel_rfl) (by decide) (fun _ _ _ h => h) rfl ?hyb15 (fun _ => S3) ?restb15
   case hyb15 => (intro W; go_simp; (try with_reducible rfl))
   try simp only [List.setIfInBounds_toArray, List.set_cons_zero, List.set_cons_succ]
   refine wpAnyR_one (i := 16) (by kernel_rfl) rfl (fun K hK => ?_)
   go_simp
   refine hK.out _ _ (fun hf => absurd hf (by decide)) ?_
   clear hK K
   refine wpAnyR_done (by kernel_rfl) ?_
   have HN := Lib.hid (show ∀ W, W = (wz.setCell ⟨g, 26 + k * 3 + 1, none⟩ (.int .i64 ((cntX X e k : Nat) : Int))).setCell ⟨g, 26 + k * 3 + 2, none⟩ (.int .i64 (((ofX X k).length : Nat) : Int)) -> GrRaw W g X (E ++ [X.length]) (ofX X) (fun q => if q < k + 1 then cntX X e q else cntX X o q) (fun q => if q < k + 1 then cntX X X.length q else cntX X e q) (tabWith zeroT (factsX X)) R1 /\ KeepR g w R W R1 from fun W hW => by
    subst hW
    have h1 := (HG2.out.setOld hlt (cntX X e k)).setLat hlt (ofX X k).length
    have h2 : updF (fun q => if q < k then cntX X X.length q else cntX X e q) k (ofX X k).length = fun q => if q < k + 1 then cntX X X.length q else cntX X e q := by rw [<- cntX_all X k]; exact updIf _ _ _
    rw [updIf, h2] at h1
    exact ⟨h1, (HK2.out.setG _ _).setG _ _⟩)
   have HN2 := Lib.hid (HN.out _ rfl)
   clear hx1 hx2 hf1 hf2 S3 SB
   go_wp2_with fail
   go_roundw
   case rel => exact ⟨k + 1, by omega, by go_num, HN2.out.1, HN2.out.2⟩
   case measure => simp [intOf]; omega
  ·obtain rfl : k = 24 := by omega
   go_wp2_with fail
   go_end0
   exact ⟨rfl, R1, ⟨HR.out.same (fun p hp => by rw [if_pos hp]) (fun p hp => by rw [if_pos hp]), HAT.out.eL, Nat.le_refl _⟩, HKP.out⟩
end Go.Proofs.YtmnolnmpglanfaaGreatDoor
