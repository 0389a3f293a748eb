/-
  Texts that the claim's last one imports, laid together: part 9 of 16. No condition of its own.
-/
import Derived.Maps.AppendAt
import Derived.Deep.AppendLies
import Derived.Deep.Cut
import Derived.Deep.CutRange
import Derived.Test.YtofkcmihcgmmpaaGreatDoorMLr2
import Derived.Test.YtofkcmihcgmmpaaGreatDoorMLr5
import Derived.Test.YtofkcmihcgmmpaaGreatDoorMLr6
import Derived.Test.YtofkcmihcgmmpaaGreatDoorMLr7
import Derived.Test.YtofkcmihcgmmpaaGreatDoorMLr8
namespace Go.Proofs.YtofkcmihcgmmpaaGreatDoor
set_option maxRecDepth 100000
open Go.RowKit Go.Sort Go.Shelf
set_option maxHeartbeats 2000000 in
theorem zjn (v : Value) (R : List (List Int)) (s : List Int) (sb V : Nat) (w : World) (h : RdW w w.heap.size v R) (hok : ∀ b ∈ R, zp b = true) (hs : zp s = true) (hup : R.Pairwise fun a b => keyV V a <= keyV V b) (hn : R.length <= 1048576)
 (hc : w.cell? ⟨sb, 0, none⟩ = some (.int .u32 ((maskW V : Nat) : Int))) :
 Calls Tryz.prog 181 #[v, .int .u32 ((encB s : Nat) : Int), .func (.func 178) #[] #[.pointer (some ⟨sb, 0, none⟩)]] w fun e w' =>
  (∃ (i : Nat) (ok : Bool), e = .returned (.tuple #[.int .i64 i, .bool ok]) /\ i <= R.length /\ zlM (keyV V) R (keyV V s) i /\ zlN (keyV V) R (keyV V s) i) /\ w' = w := by
 have HU := Lib.hid hup
 have H := Lib.hid h
 have HB := Lib.hid (fun (x : List Int) (hx : x ∈ R) => zg1 sb V x s (hok x hx) hs w hc)
 obtain ⟨A, c, rfl, hcc, _⟩ := h
 clear hup hok
 go_enter Tryz.func181, Tryz.ntmps181
 go_wp2_with fail
 go_loopg [9, 10] R.length (fun q vi vj wr => ∃ i j : Nat, vi = .int .i64 i /\ vj = .int .i64 j /\ i <= j /\ j <= R.length /\ j - i <= q /\ wr = w /\ Hid (zlM (keyV V) R (keyV V s) i /\ zlN (keyV V) R (keyV V s) j))
 case atStart => exact ⟨0, R.length, rfl, rfl, Nat.zero_le _, Nat.le_refl _, Nat.sub_le _ _, rfl, fun k _ hk => absurd hk (by omega), fun k hk hle => absurd hk (by omega)⟩
 case round =>
  obtain ⟨i, j, rfl, rfl, hij, hj, hq, rfl, HI⟩ := hrel
  by_cases hlt : i < j
  ·obtain ⟨p, hp⟩ : ∃ p, p = (i + j) / 2 := ⟨_, rfl⟩
   have hp1 : i <= p := by omega
   have hp2 : p < j := by omega
   have hpl : p < R.length := by omega
   have HM := Lib.hid (show ((i : Int) + (j : Int)) / 2 = (p : Int) by omega)
   obtain ⟨b, o, rfl, hbB, k1⟩ := H.out.get hpl
   have HC := HB.out R[p] (List.getElem_mem hpl)
   unfold wd at HC
   obtain ⟨K, hK⟩ : ∃ K, K = encB R[p] := ⟨_, rfl⟩
   obtain ⟨X, hX⟩ : ∃ X, X = keyV V R[p] := ⟨_, rfl⟩
   rw [<- hK] at k1
   rw [<- hK, <- hX] at HC
   have HX := Lib.hid hX
   clear hK hp hX
   by_cases hl : X < keyV V s
   ·have hE : zc6 X (keyV V s) = -1 := if_pos hl
    rw [hE] at HC
    have HC := Lib.hid HC
    have HN := Lib.hid (zjJ HU.out hpl (by rw [<- HX.out]; exact hl))
    clear hl hE
    go_upto_region 5 with fail
    rw [HM.out]
    go_wp2_with (go_at_call 178; refine HC.out.mono ?_; rintro e w' ⟨rfl, rfl⟩)
    go_roundg (j - (p + 1))
    case measure => omega
    case rel => exact ⟨p + 1, j, by go_num, rfl, by omega, hj, Nat.le_refl _, rfl, HN.out, HI.out.2⟩
   ·have hE : ∃ z : Int, zc6 X (keyV V s) = z /\ ¬ z < 0 := ⟨_, rfl, by unfold zc6; rw [if_neg hl]; split <;> omega⟩
    obtain ⟨z, hz, hz0⟩ := hE
    rw [hz] at HC
    have HC := Lib.hid HC
    have HN := Lib.hid (zjU HU.out hpl (by rw [<- HX.out]; exact hl))
    clear hl hz
    go_upto_region 5 with fail
    rw [HM.out]
    go_wp2_with (go_at_call 178; refine HC.out.mono ?_; rintro e w' ⟨rfl, rfl⟩)
    go_roundg (p - i)
    case measure => omega
    case rel => exact ⟨i, p, rfl, rfl, hp1, by omega, Nat.le_refl _, rfl, HI.out.1, HN.out⟩
  ·obtain rfl : i = j := by omega
   by_cases hpl : i < R.length
   ·obtain ⟨b, o, rfl, hbB, k1⟩ := H.out.get hpl
    have HC := HB.out R[i] (List.getElem_mem hpl)
    unfold wd at HC
    generalize encB R[i] = K at k1 HC
    generalize zc6 _ _ = z at HC
    have HC := Lib.hid HC
    go_wp2_with (go_at_call 178; refine HC.out.mono ?_; rintro e w' ⟨rfl, rfl⟩)
    go_ret2
    exact ⟨⟨i, _, rfl, hj, HI.out.1, HI.out.2⟩, rfl⟩
   ·go_wp2_with fail
    go_ret2
    exact ⟨⟨i, _, rfl, hj, HI.out.1, HI.out.2⟩, rfl⟩
structure zfT (w wr : World) (S : List (List Int)) (A : Option Addr) (c : Nat) : Prop where
 below : Below w.heap.size w wr
 own : zbc wr w.heap.size wr.heap.size (.slice A S.length c) S
theorem zfT.nil {w wr : World} (hb : Below w.heap.size w wr) : zfT w wr [] none 0 := ⟨hb, World.ownsRow_nil _ _ _ _, fun g hg => by cases hg⟩
theorem zfT.push {w wr w2 w4 : World} {S : List (List Int)} {A : Option Addr} {c g cap : Nat} {b : List Int} {o : Obj} (h : zfT w wr S A c) (hb : Below wr.heap.size wr w2)
 (hg : (w2.alloc o).grownBy w4 (Value.slice A S.length c).ownBlock) (hown : w4.ownsRow w.heap.size 102 1 (.slice (some ⟨g, 0, none⟩) (S.length + 1) cap) (S.length + 1) (S.map wd ++ [wd b])) :
 zfT w w4 (S ++ [b]) (some ⟨g, 0, none⟩) cap := by
 have hl : (S ++ [b]).length = S.length + 1 := by simp
 refine ⟨((zf h.below hb).alloc (zf h.below hb).size _).grown hg (by have := (zf h.below hb).size; simp; omega) (fun k hk => (h.own.1.lt k hk).1), ?_⟩
 rw [hl]
 exact ⟨by simpa [hl] using hown, fun b hb' => (hown.lt b hb').2⟩
theorem zfT.later {w wr w2 : World} {S : List (List Int)} {A : Option Addr} {c : Nat} (h : zfT w wr S A c) (hb : Below wr.heap.size wr w2) : zfT w w2 S A c :=
 ⟨zf h.below hb, (h.own.below hb (Nat.le_refl _)).mono (Nat.le_refl _) hb.size⟩
def zd7 (V : Nat) (R : List (List Int)) (s : List Int) : List (List Int) := R.filter fun r => keyV V r == keyV V s
def zcB (V : Nat) (R : List (List Int)) (S : List (List Int)) : List (List Int) := S.flatMap fun s => (zd7 V R s).map fun r => zfa s r
theorem zmo {V : Nat} {R S : List (List Int)} {k : Nat} (h : k < S.length) : zcB V R (S.take (k + 1)) = zcB V R (S.take k) ++ (zd7 V R S[k]).map (zfa S[k]) := by
 unfold zcB
 rw [zH S k h, List.flatMap_append]
 simp
theorem zjN (V : Nat) (R : List (List Int)) : ∀ S : List (List Int), (zcB V R S).length <= S.length * R.length
 | [] => by simp [zcB]
 | s :: S => by
  have ih := zjN V R S
  have h1 : ((zd7 V R s).map (zfa s)).length <= R.length := by rw [List.length_map]; exact List.length_filter_le _ _
  have e : zcB V R (s :: S) = (zd7 V R s).map (zfa s) ++ zcB V R S := by unfold zcB; rw [List.flatMap_cons]
  rw [e, List.length_append, List.length_cons, Nat.succ_mul]
  omega
theorem zmN {V : Nat} {R : List (List Int)} {s : List Int} {p q : Nat} (hup : R.Pairwise fun a b => keyV V a <= keyV V b) (hpq : p <= q) (hq : q <= R.length) (hl : zlM (keyV V) R (keyV V s) p) (hf : zlN (keyV V) R (keyV V s) p)
 (hr : ∀ k (h : k < R.length), p <= k -> k < q -> keyV V R[k] = keyV V s) (he : ∀ h : q < R.length, keyV V R[q] ≠ keyV V s) : (R.drop p).take (q - p) = zd7 V R s := by
 have e : R = R.take p ++ ((R.drop p).take (q - p) ++ R.drop q) := by
  conv => lhs; rw [<- List.take_append_drop p R]
  congr 1
  conv => lhs; rw [<- List.take_append_drop (q - p) (R.drop p)]
  congr 1
  rw [List.drop_drop]
  congr 1
  omega
 unfold zd7
 conv => rhs; rw [e, List.filter_append, List.filter_append]
 have h1 : (R.take p).filter (fun r => keyV V r == keyV V s) = [] := by
  refine List.filter_eq_nil_iff.2 fun x hx => ?_
  obtain ⟨k, hk, rfl⟩ := List.getElem_of_mem hx
  simp at hk
  have := hl k (by omega) (by omega)
  simp
  omega
 have h2 : (R.drop q).filter (fun r => keyV V r == keyV V s) = [] := by
  refine List.filter_eq_nil_iff.2 fun x hx => ?_
  obtain ⟨k, hk, rfl⟩ := List.getElem_of_mem hx
  simp at hk
  have hq' : q < R.length := by omega
  have g1 := he hq'
  have g2 := hf q hq' hpq
  have g3 : keyV V R[q] <= keyV V (R[q + k]'(by omega)) := by
   rcases Nat.eq_zero_or_pos k with rfl | hk0
   ·exact Nat.le_refl _
   ·exact List.pairwise_iff_getElem.1 hup q (q + k) hq' (by omega) (by omega)
  simp
  omega
 have h3 : ((R.drop p).take (q - p)).filter (fun r => keyV V r == keyV V s) = (R.drop p).take (q - p) := by
  refine List.filter_eq_self.2 fun x hx => ?_
  obtain ⟨k, hk, rfl⟩ := List.getElem_of_mem hx
  simp at hk
  have := hr (p + k) (by omega) (by omega) (by omega)
  simpa using this
 rw [h1, h2, h3]
 simp
open Go.RowKit Go.Sort Go.Shelf
theorem zl.sortB (w : World) (g n : Nat) (d : Array Bnd) (os : Array Obj) : zl g (g + 1) w (sortWorld zdV w g 0 n d os) := by
 have := zl.put w g n (zbW (d.toList.map (·.1))) os
 rw [<- zkf] at this
 exact this
theorem zhX (lo hi g : Nat) (lb : Array Value) (p : List Int -> Bool) (v : Value) (S : List (List Int)) (w : World) (h : zbc w lo hi v S) (hok : ∀ b ∈ S, zp b = true) (hne : S ≠ []) (hn : S.length <= 1048576)
 (eg : ∀ args w, (callFunc g args).run Tryz.prog w = .ok (.enter g args) w)
 (hp : ∀ (W : World) (b : List Int), zp b = true -> zl lo hi w W -> Calls Tryz.prog g (#[wd b] ++ lb) W fun e w' => e = .returned (.bool (p b)) /\ ∃ q, w' = W.drewN q) :
 Calls Tryz.prog 185 #[v, .func (.func g) #[] lb] w fun e w' =>
  ∃ A c, e = .returned (.slice A (S.filter fun b => !p b).length c) /\ zbc w' lo hi (.slice A (S.filter fun b => !p b).length c) (S.filter fun b => !p b) /\ zl lo hi w w' := by
 rcases h.at_ with ⟨rfl, rfl⟩ | ⟨gb, c, rfl, h1, h2, h3, h4, h5, h6⟩
 ·exact absurd rfl hne
 ·obtain ⟨D, rfl⟩ := zpp S hok
  have hsz : (D.map (·.1)).length = D.toArray.size := by simp
  have hget : ∀ j, j < D.toArray.size -> (zbW (D.map (·.1)))[j]! = ((encB D.toArray[j]!.1 : Nat) : Int) := fun j hj => by
   have hjl : j < D.length := by simpa using hj
   rw [zbA _ (by simpa using hjl), getElem!_pos D.toArray j hj]
   simp
  have hH : Holds zdV w gb 0 D.toArray := fun j hj => by
   refine ⟨?_, h4.frozen _⟩
   rw [h4.cell (by rw [zag, hsz]; exact hj), hget j hj]
   rfl
  have hcon := AnyE.slices_DeleteFunc Tryz.deleteB zdV (fun _ => rfl) (fun x => p x.1) g lb eg ⟨za8, zcl⟩ (fun w => by
   rw [show zdV ⟨za8, zcl⟩ = .int .u32 0 by unfold zdV; rw [zho]; rfl]
   exact Tryz.zeroValue102 w) gb 0 c D.toArray w (fun W x hb => hp W x.1 x.2 (zl.of_below hb)) (fun n os dk x _ => hp _ x.1 x.2 ((zl.sortB w gb n dk os).wide h1 h2)) hH (by simp at hn ⊢; omega) (by rw [<- hsz]; exact h5)
  rw [hsz]
  refine Calls.mono hcon ?_
  rintro e w' ⟨rfl, q, rfl⟩
  have hfl : ((D.map (·.1)).filter fun b => !p b) = (D.filter fun x : Bnd => !p x.1).map (·.1) := by rw [List.filter_map]; rfl
  have hl : (D.toArray.toList.filter fun x : Bnd => !p x.1).length = ((D.map (·.1)).filter fun b => !p b).length := by rw [hfl]; simp
  rw [hl]
  obtain ⟨E, hE⟩ : ∃ E : Array Bnd, E = ((D.toArray.toList.filter fun x : Bnd => !p x.1) ++ List.replicate (D.toArray.size - ((D.map (·.1)).filter fun b => !p b).length) (⟨za8, zcl⟩ : Bnd)).toArray := ⟨_, rfl⟩
  have hle : ((D.map (·.1)).filter fun b => !p b).length <= D.length := Nat.le_trans (List.length_filter_le _ _) (by simp)
  have hEs : E.size = D.length := by rw [hE]; simp at hl hle ⊢; omega
  rw [<- hE, zkf]
  have hu := h4.put q (zbW (E.toList.map (·.1))) (by rw [zag, zag]; simp [hEs]) #[]
  have ho := zl.put w gb q (zbW (E.toList.map (·.1))) #[]
  rw [zjS] at hu ho
  refine ⟨_, c, rfl, zbc.of (hu.take (by rw [zag, zag]; simp [hEs]; simpa using hle) fun j hj => ?_) h1 h2 (by have := h5; simp at this; omega) h6, ho.wide h1 h2⟩
  rw [zag] at hj
  have hj2 : j < (E.toList.map (·.1)).length := by simp [hEs]; omega
  rw [zbA _ hj, zbA _ hj2]
  congr 2
  apply Option.some.inj
  rw [<- List.getElem?_eq_getElem hj, <- List.getElem?_eq_getElem hj2, hE, hfl]
  simp only [List.map_append]
  rw [List.getElem?_append_left (by rw [hfl] at hj; simpa using hj)]
def zju (V : Nat) (T : List (List Int)) (b : List Int) : Bool := T.any fun t => encB t == keyV V b
set_option maxHeartbeats 1000000 in
theorem zkx (lo hi V : Nat) (v0 v1 : Value) (S T : List (List Int)) (w : World) (h0 : zbc w lo hi v0 S) (lo2 hi2 : Nat) (h1 : zbc w lo2 hi2 v1 T) (hlo : hi <= lo2) (hhi : hi2 <= w.heap.size) (hhi0 : hi <= w.heap.size)
 (hS : ∀ b ∈ S, zp b = true) (hne : S ≠ []) (hT : T.Pairwise fun a b => encB a < encB b) (hnS : S.length <= 1048576) (hnT : T.length <= 1048576) :
 Calls Tryz.prog 165 #[v0, v1, .int .u32 ((maskW V : Nat) : Int)] w fun e w' =>
  ∃ A c, e = .returned (.slice A (S.filter fun b => !zju V T b).length c) /\ zbc w' lo hi (.slice A (S.filter fun b => !zju V T b).length c) (S.filter fun b => !zju V T b) /\ zl lo hi w w' := by
 obtain ⟨A1, c1, rfl⟩ := h1.form
 have eg : ∀ args w, (callFunc 186 args).run Tryz.prog w = .ok (.enter 186 args) w := enters_of Tryz.func186 (by kernel_rfl) rfl
 obtain ⟨w2, hw2⟩ : ∃ w2, w2 = (w.alloc (Obj.cells #[Value.slice A1 T.length c1] 97)).alloc (Obj.cells #[Value.int IntKind.u32 ((maskW V : Nat) : Int)] 102) := ⟨_, rfl⟩
 have B2 : Below w.heap.size w w2 := by rw [hw2]; exact za0 _ _ _
 have X1 : Blk w2 w.heap.size 97 #[.slice A1 T.length c1] := by rw [hw2]; exact (Blk.new _ _ _).alloc _
 have X2 : Blk w2 (w.heap.size + 1) 102 #[.int .u32 ((maskW V : Nat) : Int)] := by rw [hw2]; simpa using Blk.new (w.alloc (Obj.cells #[Value.slice A1 T.length c1] 97)) 102 #[.int .u32 ((maskW V : Nat) : Int)]
 have hp : ∀ (W : World) (b : List Int), zp b = true -> zl lo hi w2 W -> Calls Tryz.prog 186 (#[wd b] ++ #[.pointer (some ⟨w.heap.size, 0, none⟩), .pointer (some ⟨w.heap.size + 1, 0, none⟩)]) W fun e w' => e = .returned (.bool (zju V T b)) /\ ∃ q, w' = W.drewN q := by
  intro W b hb ho
  have c1c : W.cell? ⟨w.heap.size, 0, none⟩ = some (.slice A1 T.length c1) := (X1.only ho (.inr hhi0)).cell 0
  have c2c : W.cell? ⟨w.heap.size + 1, 0, none⟩ = some (.int .u32 ((maskW V : Nat) : Int)) := (X2.only ho (.inr (by omega))).cell 0
  have hr : RdW W hi2 (.slice A1 T.length c1) T := ((h1.below B2 hhi).only ho (.inr hlo)).rd
  have HSE := Lib.hid (zkT (.slice A1 T.length c1) T (keyV V b) hi2 (zju V T b) rfl W hr hT hnT)
  have e1 : bits .and .u32 ((encB b : Nat) : Int) ((maskW V : Nat) : Int) = ((keyV V b : Nat) : Int) := by rw [zc7 (zcP hb) (zcJ V), zeB hb]; rfl
  clear hr X1 X2
  show Calls Tryz.prog 186 #[wd b, .pointer (some ⟨w.heap.size, 0, none⟩), .pointer (some ⟨w.heap.size + 1, 0, none⟩)] W _
  unfold wd
  go_enter Tryz.func186, Tryz.ntmps186
  go_wp2_with (go_at_call 187; refine HSE.out.mono ?_; rintro e w' ⟨⟨i, rfl⟩, rfl⟩)
  go_ret
  exact ⟨rfl, 0, rfl⟩
 have HD := Lib.hid (zhX lo hi 186 #[.pointer (some ⟨w.heap.size, 0, none⟩), .pointer (some ⟨w.heap.size + 1, 0, none⟩)] (zju V T) v0 S w2 (h0.below B2 hhi0) hS hne hnS eg hp)
 have HB := Lib.hid B2
 rw [hw2] at HD
 have HW := Lib.hid hw2
 obtain ⟨A0, c0, rfl⟩ := h0.form
 clear h0 h1 hS hT hp X1 X2 B2 hw2 eg
 go_enter Tryz.func165, Tryz.ntmps165
 go_wp2_with (go_at_call 185; refine HD.out.mono ?_; rintro e w3 ⟨A, c, rfl, own, only⟩; rw [<- HW.out] at only; have HO := Lib.hid (And.intro own only); clear own only)
 go_ret
 exact ⟨A, c, rfl, HO.out.1, (zl.of_below HB.out).trans HO.out.2⟩
set_option maxHeartbeats 2000000 in
theorem zhp (lo hi : Nat) (v0 v1 : Value) (S : List (List Int)) (l : zC) (w : World) (h0 : zbc w lo hi v0 S) (hhi : hi <= w.heap.size) (h1 : zf2 w lo v1 l) (hlo : lo <= w.heap.size) (hk : l.1 = 2 \/ l.1 = 3) (ht : l.2.2.all zz = true)
 (hS : ∀ b ∈ S, zp b = true) (hne : S ≠ []) (hnS : S.length <= 1048576) (hl : l.2.2.length <= 1048576) (R : List (List Int)) (hR : R = S.filter fun b => decide (l.2.2.length = 2) && zdi l.1 (zn b (l.2.2.getD 0 0)) (zn b (l.2.2.getD 1 0))) :
 Calls Tryz.prog 166 #[v0, v1] w fun e w' =>
  ∃ A c, e = .returned (.slice A R.length c) /\ zbc w' lo hi (.slice A R.length c) R /\ zl lo hi w w' := by
 obtain ⟨kd, pr, xs⟩ := l
 simp only at hk ht hl hR
 obtain ⟨av, rfl, A, c, rfl, hc, hx⟩ := h1
 obtain ⟨A0, c0, rfl⟩ := h0.form
 by_cases h2 : xs.length = 2
 ·obtain ⟨t0, t1, rfl⟩ : ∃ t0 t1, xs = [t0, t1] := by
   match xs, h2 with
   | [t0, t1], _ => exact ⟨t0, t1, rfl⟩
  obtain ⟨b, o, rfl, hb, hxs⟩ := hx (by simp)
  have x0 : w.cell? ⟨b, o, none⟩ = some (.int .i64 t0) := hxs 0 (by simp)
  have x1 : w.cell? ⟨b, o + 1, none⟩ = some (.int .i64 t1) := hxs 1 (by simp)
  simp only [List.all_cons, List.all_nil, Bool.and_true, Bool.and_eq_true] at ht
  simp only [List.length_cons, List.length_nil, Nat.zero_add, Nat.reduceAdd, decide_true, Bool.true_and, List.getD_cons_zero, List.getD_cons_succ] at hR
  have eg : ∀ args w, (callFunc 188 args).run Tryz.prog w = .ok (.enter 188 args) w := enters_of Tryz.func188 (by kernel_rfl) rfl
  obtain ⟨w2, hw2⟩ : ∃ w2, w2 = (w.alloc (Obj.cells #[Value.int IntKind.i64 kd, Value.int IntKind.i64 pr, Value.slice (some ⟨b, o, none⟩) 2 c] 68)).alloc (Obj.cells #[Value.slice (some ⟨b, o, none⟩) 2 c] 23) := ⟨_, rfl⟩
  have B2 : Below w.heap.size w w2 := by rw [hw2]; exact za0 _ _ _
  have X1 : Blk w2 w.heap.size 68 #[.int .i64 kd, .int .i64 pr, .slice (some ⟨b, o, none⟩) 2 c] := by rw [hw2]; exact (Blk.new _ _ _).alloc _
  have X2 : Blk w2 (w.heap.size + 1) 23 #[.slice (some ⟨b, o, none⟩) 2 c] := by rw [hw2]; simpa using Blk.new (w.alloc (Obj.cells #[Value.int IntKind.i64 kd, Value.int IntKind.i64 pr, Value.slice (some ⟨b, o, none⟩) 2 c] 68)) 23 #[.slice (some ⟨b, o, none⟩) 2 c]
  have hp : ∀ (W : World) (x : List Int), zp x = true -> zl lo hi w2 W -> Calls Tryz.prog 188 (#[wd x] ++ #[.pointer (some ⟨w.heap.size, 0, none⟩), .pointer (some ⟨w.heap.size + 1, 0, none⟩)]) W fun e w' => e = .returned (.bool (!zdi kd (zn x t0) (zn x t1))) /\ ∃ q, w' = W.drewN q := by
   intro W x hx' ho
   have c1c : W.cell? ⟨w.heap.size, 0, none⟩ = some (.int .i64 kd) := (X1.only ho (.inr hhi)).cell 0
   have c2c : W.cell? ⟨w.heap.size + 1, 0, none⟩ = some (.slice (some ⟨b, o, none⟩) 2 c) := (X2.only ho (.inr (by omega))).cell 0
   have hbw : Below lo w W := (B2.mono hlo).trans (ho.below (Nat.le_refl _) (Nat.le_trans hlo B2.size))
   have d0 : W.cell? ⟨b, o, none⟩ = some (.int .i64 t0) := (hbw.cell (p := ⟨b, o, none⟩) hb).trans x0
   have d1 : W.cell? ⟨b, o + 1, none⟩ = some (.int .i64 t1) := (hbw.cell (p := ⟨b, o + 1, none⟩) hb).trans x1
   have HV0 := Lib.hid (fun W => zev x hx' t0 ht.1 W)
   have HV1 := Lib.hid (fun W => zev x hx' t1 ht.2 W)
   have HCM := Lib.hid (fun W => zi6 kd (zn x t0) (zn x t1) hk W)
   clear hbw X1 X2 x0 x1 hx
   show Calls Tryz.prog 188 #[wd x, .pointer (some ⟨w.heap.size, 0, none⟩), .pointer (some ⟨w.heap.size + 1, 0, none⟩)] W _
   unfold wd
   generalize encB x = E at HV0 HV1 ⊢
   generalize zn x t0 = T0 at HV0 HCM ⊢
   generalize zn x t1 = T1 at HV1 HCM ⊢
   go_enter Tryz.func188, Tryz.ntmps188
   go_wp2_with fail
   go_quiet (first
    | (go_at_call 114; first | with_reducible exact zaH (HV0.out _) | with_reducible exact zaH (HV1.out _))
    | (go_at_call 189; exact zaH (HCM.out _)))
   go_wp2_with fail
   go_ret
   exact ⟨rfl, nq, rfl⟩
  have hd := zhX lo hi 188 #[.pointer (some ⟨w.heap.size, 0, none⟩), .pointer (some ⟨w.heap.size + 1, 0, none⟩)] (fun x => !zdi kd (zn x t0) (zn x t1)) (.slice A0 S.length c0) S w2 (h0.below B2 hhi) hS hne hnS eg hp
  simp only [Bool.not_not] at hd
  rw [<- hR] at hd
  have HD := Lib.hid hd
  have HB := Lib.hid B2
  rw [hw2] at HD
  have HW := Lib.hid hw2
  have HR := Lib.hid hR
  clear h0 hS hp X1 X2 B2 hw2 eg hd hR hx x0 x1 hxs
  go_enter Tryz.func166, Tryz.ntmps166
  go_wp2_with (go_at_call 185; refine HD.out.mono ?_; rintro e w3 ⟨A, c, rfl, own, only⟩; rw [<- HW.out] at only; have HO := Lib.hid (And.intro own only); clear own only)
  go_ret
  exact ⟨_, _, rfl, HO.out.1, (zl.of_below HB.out).trans HO.out.2⟩
 ·have hRn : R = [] := by
   rw [hR]
   refine List.filter_eq_nil_iff.2 fun x _ => ?_
   simp [h2]
  subst hRn
  have h2z : ((xs.length : Int) != 2) = true := by simp; omega
  clear hR h0 hx hS
  go_enter Tryz.func166, Tryz.ntmps166
  go_wp2_with fail
  go_ret
  exact ⟨none, 0, rfl, ⟨World.ownsRow_nil _ _ _ _, fun g hg => by cases hg⟩, zl.of_below (za0 _ _ _)⟩
open Go.RowKit
def zpz (o : Option (List Int)) : Nat := match o with | some b => encB b | none => 0
set_option maxHeartbeats 1000000 in
theorem znk (v v2 : Value) (a f : zd) (bs : List Int) (z0 : Nat) (ok : Bool) (hz0 : z0 = zpz (zan a f bs)) (hok : ok = (zan a f bs).isSome) (w : World) (hb : zp bs = true) (h : zU w w.heap.size v a) (h2 : zU w w.heap.size v2 f)
 (ht : a.2.all zz = true) (hf : f.2.all zt = true) (hr : a.2.length <= 1048576) (hr2 : f.2.length <= 1048576) :
 Calls Tryz.prog 182 #[.int .u32 (encB bs : Nat), v, v2] w fun e w' => e = .returned (.tuple #[.int .u32 (z0 : Nat), .bool ok]) /\ Below w.heap.size w w' := by
 obtain ⟨pa, xs⟩ := a
 obtain ⟨pf, ys⟩ := f
 simp only at ht hf hr hr2
 have HO := Lib.hid (And.intro hz0 hok)
 clear hz0 hok
 obtain ⟨u, rfl, A, c, rfl, hc, hA⟩ := h
 obtain ⟨u, rfl, A2, c2, rfl, hc2, hA2⟩ := h2
 by_cases hp : pa = pf
 ·have hpb : (pa != pf) = false := by simp [hp]
  by_cases hl : xs.length = ys.length
  ·have hl1 : ((xs.length : Int) != (ys.length : Int)) = false := by simp [hl]
   have HL := Lib.hid hl
   have HP := Lib.hid hp
   have HM := Lib.hid (zcP hb)
   have HB := Lib.hid hb
   obtain ⟨m, hm⟩ : ∃ m, m = encB bs := ⟨_, rfl⟩
   rw [<- hm]
   have HE := Lib.hid hm
   clear hl hp hm hb
   go_enter Tryz.func182, Tryz.ntmps182
   go_wp2_with (fail)
   go_loopw [0, 8, 9, 27] (fun m _ _ i wr => ∃ (k z : Nat) (cur : List Int), k <= xs.length /\ i = .int .i64 k /\ m = .int .u32 (z : Nat) /\ z = encB cur /\ zp cur = true /\ zaK bs xs ys k = some cur /\ Below w.heap.size w wr /\ Blk wr (w.heap.size + 1) 39 #[.int .i64 pf, .slice A2 ys.length c2]) (fun _ _ _ i _ => xs.length - (intOf i).toNat)
   case atStart => exact ⟨0, _, bs, Nat.zero_le _, rfl, rfl, HE.out, HB.out, rfl, za0 _ _ _, by simpa using Blk.new (w.alloc (Obj.cells #[Value.int IntKind.i64 pa, Value.slice A xs.length c] 63)) 39 #[.int .i64 pf, .slice A2 ys.length c2]⟩
   case round =>
    obtain ⟨k, z, cur, hk, rfl, rfl, hz, hcb, hmt, hbe, hblk⟩ := hrel
    by_cases hlt : k < xs.length
    ·have hlt2 : k < ys.length := by have := HL.out; omega
     obtain ⟨b, o, rfl, hbB, hx⟩ := hA (by omega)
     obtain ⟨b2, o2, rfl, hbB2, hx2⟩ := hA2 (by omega)
     have hck : wr.cell? ⟨b, o + k, none⟩ = some (.int .i64 xs[k]) := (hbe.cell (p := ⟨b, o + k, none⟩) hbB).trans (hx k hlt)
     have hck2 : wr.cell? ⟨b2, o2 + k, none⟩ = some (.int .i64 ys[k]) := (hbe.cell (p := ⟨b2, o2 + k, none⟩) hbB2).trans (hx2 k hlt2)
     have hc1 : wr.cell? ⟨w.heap.size + 1, 1, none⟩ = some (.slice (some ⟨b2, o2, none⟩) ys.length c2) := hblk.cell 1
     have htk : zz xs[k] = true := List.all_eq_true.1 ht _ (List.getElem_mem hlt)
     have hfk : 0 <= ys[k] /\ ys[k] <= 5 := by simpa [zt] using List.all_eq_true.1 hf _ (List.getElem_mem hlt2)
     have HV := Lib.hid (hz ▸ zev cur hcb xs[k] htk)
     have hst := zca hmt hlt hlt2
     have HBK := Lib.hid hblk
     clear hx hx2 hA hA2 hblk
     by_cases e1 : zn cur xs[k] = ys[k]
     ·have HS := Lib.hid (show zaK bs xs ys (k + 1) = some cur by rw [hst, zc1 e1])
      have HZ := Lib.hid (And.intro hz hcb)
      have HT := Lib.hid e1
      clear hst hz hcb hmt e1 htk
      go_wp2_with (go_at_call 114; refine (HV.out _).mono ?_; rw [HT.out]; rintro e w' ⟨rfl, rfl⟩)
      go_roundw
      case rel => exact ⟨k + 1, z, cur, by omega, by go_num, rfl, HZ.out.1, HZ.out.2, HS.out, hbe, HBK.out⟩
      case measure => simp [intOf]; omega
     ·have hd1 : (zn cur xs[k] == ys[k]) = false := by simpa using e1
      by_cases e2 : zn cur xs[k] = -1
      ·obtain ⟨q1, q2, q3⟩ := zgn htk e2
       obtain ⟨j, hj4, hj⟩ : ∃ j : Nat, j < 4 /\ -1 - xs[k] = (j : Int) := ⟨(-1 - xs[k]).toNat, by omega, by omega⟩
       have hjt : (-1 - xs[k]).toNat = j := by omega
       rw [hjt] at q3
       have HS := Lib.hid (show zaK bs xs ys (k + 1) = some (cur.set j ys[k]) by rw [hst, zfJ e2 (by omega), hjt])
       have HZ := Lib.hid (show z ||| shlB j ys[k] = encB (cur.set j ys[k]) by rw [hz, zoo hcb hj4 q3 (by omega)])
       have HCB := Lib.hid (show zp (cur.set j ys[k]) = true from zcx hcb (by omega) _)
       have hd1 : ((-1 : Int) == ys[k]) = false := by simp; omega
       have hzl : z < 65536 := by rw [hz]; exact zcP hcb
       have HT := Lib.hid e2
       have HN := Lib.hid (fun W => hj ▸ zei xs[k] q1 q2 W)
       have HW := Lib.hid (fun W => znO z j ys[k] hzl hj4 (by omega) W)
       clear hst hz hcb hmt e1 e2 htk hj hjt q3
       go_wp2_with (go_at_call 114; refine (HV.out _).mono ?_; rw [HT.out]; rintro e w' ⟨rfl, rfl⟩)
       go_quiet (first | (go_at_call 140; exact zaH (HN.out _)) | (go_at_call 193; exact zaH (HW.out _)))
       go_wp2_with (fail)
       go_roundw
       case rel => exact ⟨k + 1, _, _, by omega, by go_num, rfl, HZ.out, HCB.out, HS.out, zX hbe _, HBK.out.drewN _⟩
       case measure => simp [intOf]; omega
      ·have hd2 : (zn cur xs[k] == -1) = false := by simpa using e2
       have HN := Lib.hid (show zan (pa, xs) (pf, ys) bs = none from zhN HP.out HL.out hlt (by rw [hst, zkR e1 e2]))
       clear hst hz hcb hmt e1 e2 htk
       go_wp2_with (go_at_call 114; refine (HV.out _).mono ?_; rintro e w' ⟨rfl, rfl⟩)
       go_ret2
       rw [show ok = false by rw [HO.out.2, HN.out]; rfl, show z0 = 0 by rw [HO.out.1, HN.out]; rfl]
       exact ⟨rfl, hbe⟩
    ·have hkn : k = xs.length := by omega
     have HN := Lib.hid (show zan (pa, xs) (pf, ys) bs = some cur by rw [zez HP.out HL.out, <- hmt, hkn])
     have HZ := Lib.hid hz
     clear hkn hmt hz hA hA2 hblk
     go_wp2_with (fail)
     go_ret2
     rw [show ok = true by rw [HO.out.2, HN.out]; rfl, show z0 = z by rw [HO.out.1, HN.out, HZ.out]; rfl]
     exact ⟨rfl, hbe⟩
  ·have hl1 : ((xs.length : Int) != (ys.length : Int)) = true := by simp; omega
   have HN := Lib.hid (show zan (pa, xs) (pf, ys) bs = none from zeS hl)
   clear hA hA2 hl
   go_enter Tryz.func182, Tryz.ntmps182
   go_wp2_with (fail)
   go_ret2
   rw [show ok = false by rw [HO.out.2, HN.out]; rfl, show z0 = 0 by rw [HO.out.1, HN.out]; rfl]
   exact ⟨rfl, za0 _ _ _⟩
 ·have hpb : (pa != pf) = true := by simp [hp]
  have HN := Lib.hid (show zan (pa, xs) (pf, ys) bs = none from zed hp)
  clear hA hA2 hp
  go_enter Tryz.func182, Tryz.ntmps182
  go_wp2_with (fail)
  go_ret2
  rw [show ok = false by rw [HO.out.2, HN.out]; rfl, show z0 = 0 by rw [HO.out.1, HN.out]; rfl]
  exact ⟨rfl, za0 _ _ _⟩
open Go.RowKit Go.Sort
def zbz (a : zd) (fs : List zd) (k : Nat) : List (List Int) := (fs.take k).filterMap fun f => zan a f za8
theorem zkY {a : zd} {fs : List zd} {k : Nat} (h : k < fs.length) : zbz a fs (k + 1) = zbz a fs k ++ (zan a fs[k] za8).toList := by
 unfold zbz
 rw [zH fs k h, List.filterMap_append]
 cases h2 : zan a fs[k] za8 <;> simp [h2]
theorem zix (a : zd) (fs : List zd) (k : Nat) : (zbz a fs k).length <= k := by
 unfold zbz
 exact Nat.le_trans (List.length_filterMap_le _ _) (by simp; omega)
theorem znd {a : zd} {fs : List zd} (hf : ∀ f ∈ fs, f.2.all zt = true) (k : Nat) : ∀ b ∈ zbz a fs k, zp b = true := by
 intro b hb
 obtain ⟨f, hf', e⟩ := List.mem_filterMap.1 hb
 exact znl zcl (hf f (List.mem_of_mem_take hf')) e
set_option maxHeartbeats 4000000 in
theorem zkF (v v2 : Value) (fs : List zd) (a : zd) (w : World) (h : zu w w.heap.size v fs) (h2 : zU w w.heap.size v2 a) (ht : a.2.all zz = true) (hf : ∀ f ∈ fs, f.2.all zt = true)
 (hn : fs.length <= 1048576) (hl : tot fs <= 1048576) (ha : a.2.length <= 1048576) :
 Calls Tryz.prog 164 #[v, v2] w fun e w' =>
  ∃ A c R, e = .returned (.slice A R.length c) /\ zbc w' w.heap.size w'.heap.size (.slice A R.length c) R /\ Below w.heap.size w w' /\ (R.Pairwise fun x y => encB x < encB y) /\ ∀ b, b ∈ R <-> ∃ f ∈ fs, zan a f za8 = some b := by
 obtain ⟨i0, hi0, hz0, hz1, hz2⟩ := info_parts Tryz.infoWord
 have H := Lib.hid h
 have HF := Lib.hid hf
 obtain ⟨A, c, rfl, hc, _⟩ := h
 obtain ⟨av, rfl, h2⟩ := h2
 obtain ⟨A2, c2, rfl, hc2, hA2⟩ := h2
 have H2 := Lib.hid (show zv w w.heap.size (.slice A2 a.2.length c2) a.2 from ⟨A2, c2, rfl, hc2, hA2⟩)
 clear hf hA2
 go_enter Tryz.func164, Tryz.ntmps164
 go_wp2_with fail
 obtain ⟨w1, hw1⟩ : ∃ w1, w1 = w.alloc (Obj.cells #[Value.int IntKind.i64 a.1, Value.slice A2 a.2.length c2] 63) := ⟨_, rfl⟩
 have B1 : Below w.heap.size w w1 := by rw [hw1]; exact ze _ _
 have X1 : Blk w1 w.heap.size 63 #[.int .i64 a.1, .slice A2 a.2.length c2] := by rw [hw1]; exact Blk.new _ _ _
 rw [<- hw1]
 clear hw1
 have HX := Lib.hid (And.intro B1 X1)
 clear B1 X1
 go_loopg [5, 12] fs.length (fun q vo vi wr => ∃ (k : Nat) (A : Option Addr) (c : Nat), vi = .int .i64 k /\ k <= fs.length /\ q = fs.length - k /\ vo = .slice A (zbz a fs k).length c /\ zfT w1 wr (zbz a fs k) A c)
 case atStart => exact ⟨0, none, 0, rfl, Nat.zero_le _, rfl, rfl, zfT.nil (Below.refl _ _)⟩
 case round =>
  obtain ⟨k, A3, c3, rfl, hk, hq, rfl, hcol⟩ := hrel
  have HC := Lib.hid hcol
  have HBW := Lib.hid (zf HX.out.1 hcol.below)
  have HX2 := Lib.hid (HX.out.2.below hcol.below HX.out.2.lt)
  clear hcol
  by_cases hlt : k < fs.length
  ·obtain ⟨b, o, A4, c4, rfl, hbB, k1, k2, k3⟩ := (H.out.on HBW.out).get hlt
   have hln := zaz fs k hlt
   have q0 : wr.cell? ⟨w.heap.size, 0, none⟩ = some (.int .i64 a.1) := HX2.out.cell 0
   have q1 : wr.cell? ⟨w.heap.size, 1, none⟩ = some (.slice A2 a.2.length c2) := HX2.out.cell 1
   have hwlt := HX2.out.lt
   have hfk := HF.out _ (List.getElem_mem hlt)
   have HK3 := Lib.hid k3
   have HST := Lib.hid (zkY (a := a) hlt)
   have HLN := Lib.hid (zix a fs k)
   obtain ⟨w3, hw3⟩ : ∃ w3, w3 = wr.alloc (Obj.cells #[Value.int IntKind.i64 fs[k].1, Value.slice A4 fs[k].2.length c4] 39) := ⟨_, rfl⟩
   have B3 : Below wr.heap.size wr w3 := by rw [hw3]; exact ze _ _
   have hM := znk (.agg #[.int .i64 a.1, .slice A2 a.2.length c2]) (.agg #[.int .i64 fs[k].1, .slice A4 fs[k].2.length c4]) a fs[k] za8 _ _ rfl rfl w3 zcl
    ⟨_, rfl, H2.out.on (zf HBW.out B3)⟩ ⟨_, rfl, k3.on B3⟩ ht hfk ha (by omega)
   rw [zho, show (((0 : Nat) : Nat) : Int) = 0 from rfl] at hM
   rw [hw3] at hM
   have HM := Lib.hid hM
   have HW3 := Lib.hid (And.intro hw3 B3)
   cases hm : zan a fs[k] za8 with
   | none =>
    rw [hm] at HM HST
    clear k3 hM hw3 B3 hm hfk
    go_wp2_with (go_at_call 182; refine HM.out.mono ?_; rintro e w4 ⟨rfl, hb4⟩)
    rw [<- HW3.out.1] at hb4
    have HCN := Lib.hid (HC.out.later (zf HW3.out.2 hb4))
    have HE := Lib.hid (show zbz a fs (k + 1) = zbz a fs k by rw [HST.out]; simp)
    clear hb4
    go_roundg (fs.length - (k + 1))
    case measure => omega
    case rel => exact ⟨k + 1, _, _, by go_num, by omega, rfl, by rw [HE.out], by rw [HE.out]; exact HCN.out⟩
   | some r =>
    rw [hm] at HM HST
    have HE := Lib.hid (show zbz a fs (k + 1) = zbz a fs k ++ [r] by rw [HST.out]; rfl)
    clear k3 hM hw3 B3 hm hfk
    have hEO : zpz (some r) = encB r := rfl
    rw [hEO] at HM
    clear hEO
    go_wp2_with (first
     | (go_at_call 182; refine HM.out.mono ?_; rintro e w4 ⟨rfl, hb4⟩; rw [<- HW3.out.1] at hb4; have HCN := Lib.hid (HC.out.later (zf HW3.out.2 hb4)); have HB4 := Lib.hid (zf HW3.out.2 hb4); clear hb4)
     | (at_builtin; refine wpList_append_lies _ rfl (.tmp 23) (.tmp 25) 97 rfl w1.heap.size 102 i0 (.int .u32 0) 1 4 Tryz.underlying97 hi0 hz0 hz1 hz2 rfl (by decide) (.slice A3 (zbz a fs k).length c3) (zbz a fs k).length ((zbz a fs k).map wd) rfl ?c1 ⟨_, 0, none⟩ 1 1 [wd r] rfl rfl (zeR _ _ _ _ (by simp)) ?c2 (by omega) (by have := HLN.out; unfold maxLen; omega) (by have := HLN.out; omega) ?c3 _ rfl ?_))
    case c1 => exact HCN.out.own.1.alloc _
    case c2 => intro u hu; simp at hu; subst hu; rfl
    case c3 => have := HCN.out.below.size; simp; omega
    intro g cap w5 hown hg _ _
    have hcolN := HCN.out.push (Below.refl _ _) hg hown
    rw [<- HE.out] at hcolN
    have hlen : (zbz a fs k).length + 1 = (zbz a fs (k + 1)).length := by rw [HE.out]; simp
    rw [hlen]
    have HCP := Lib.hid hcolN
    clear hcolN hlen hown hg
    go_wp2_with fail
    go_roundg (fs.length - (k + 1))
    case measure => omega
    case rel => exact ⟨k + 1, _, _, by go_num, by omega, rfl, rfl, HCP.out⟩
  ·have HFIN := Lib.hid (show zbz a fs k = zbz a fs fs.length by rw [show k = fs.length by omega])
   have HLN := Lib.hid (zix a fs k)
   have HOK := Lib.hid (znd (a := a) HF.out k)
   have hsz1 := HX.out.1.size
   have hszr := HC.out.below.size
   obtain ⟨Rk, hRk⟩ : ∃ Rk, Rk = zbz a fs k := ⟨_, rfl⟩
   rw [<- hRk] at HC HFIN HLN HOK ⊢
   have HSO := Lib.hid (zm6 w1.heap.size wr.heap.size (.slice A3 Rk.length c3) Rk wr HC.out.own (by have := HLN.out; omega))
   clear hRk hq
   go_wp2_with (first
    | (go_at_call 183; refine HSO.out.mono ?_; rintro e w4 ⟨rfl, S', hp, hup, own4, only4⟩;
       have HP := Lib.hid hp; have HO4 := Lib.hid only4; have HCC := Lib.hid (zkA w1.heap.size wr.heap.size (.slice A3 Rk.length c3) S' w4 own4 (fun b hb => HOK.out b (hp.mem_iff.1 hb)) hup (by have := HLN.out; have := hp.length_eq; omega)); clear hp hup own4 only4)
    | (go_at_call 184; refine HCC.out.mono ?_; rintro e w5 ⟨A6, c6, T, rfl, own5, only5, hT1, hT2, hT3⟩;
       have H5 := Lib.hid (And.intro own5 (And.intro only5 (And.intro hT1 hT2))); clear own5 only5 hT1 hT2 hT3))
   go_ret
   obtain ⟨own5, only5, hT1, hT2⟩ := H5.out
   have o45 := HO4.out.trans only5
   refine ⟨A6, c6, T, rfl, own5.mono (by omega) (by have := o45.size; omega), zl.then_ (zf HX.out.1 HC.out.below) o45 (by omega), hT1, fun b => ?_⟩
   rw [hT2, HP.out.mem_iff, HFIN.out]
   unfold zbz
   rw [List.take_length, List.mem_filterMap]
open Go.RowKit
abbrev LQ := zC × List zd
def zbR (q : LQ) (b : List Int) : Bool := zM q.2 q.1 b
theorem zbe (ys : List zd) (f : zd) : zaQ ys f = decide (f ∈ ys) := by
 unfold zaQ
 by_cases h : f ∈ ys
 ·rw [decide_eq_true h]
  exact List.any_eq_true.2 ⟨f, h, by rw [zaZ]; rfl⟩
 ·rw [decide_eq_false h]
  refine List.any_eq_false.2 fun g hg e => h ?_
  have e0 : zk g f = 0 := by simpa using e
  rw [<- zbO e0]
  exact hg
theorem zdT {a : zd} {b : List Int} {K : Nat} (hb : zp b = true) (ha : a.2.all zz = true) (hd : zdn b K) (hs : ∀ v, v < 4 -> (maskOf a.2).testBit v = true -> K.testBit v = true) : zai a b = true := by
 refine zf9 hb ha (List.all_eq_true.2 fun x hx => ?_)
 obtain ⟨t, ht, rfl⟩ := List.mem_map.1 hx
 have htk : zz t = true := List.all_eq_true.1 ha t ht
 have hbd := zdK hb htk
 rcases zbi htk with h | ⟨v, hv, rfl⟩
 ·rw [za2 h.1]
  simp [zt]
  exact h
 ·have := (hd v hv).2 (hs v hv ((zeT hv a.2).2 ht))
  rw [zaS] at hbd ⊢
  unfold zt
  exact decide_eq_true (by omega)
theorem zgA {xs : List Int} {b c : List Int} (ht : xs.all zz = true) (e : ∀ v, v < 4 -> (maskOf xs).testBit v = true -> b.getD v (-1) = c.getD v (-1)) : xs.map (zn b) = xs.map (zn c) :=
 List.map_congr_left fun t h => zcE (List.all_eq_true.1 ht t h) fun v hv et => e v hv ((zeT hv xs).2 (et ▸ h))
theorem zjT {xs : List Int} {b c : List Int} (h : xs.map (zn b) = xs.map (zn c)) (hl : xs.length = 2) (i : Nat) (hi : i < 2) : zn b (xs.getD i 0) = zn c (xs.getD i 0) := by
 have hi' : i < xs.length := by omega
 have h1 : (xs.map (zn b))[i]? = (xs.map (zn c))[i]? := by rw [h]
 simp only [List.getElem?_map, List.getElem?_eq_getElem hi', Option.map_some, Option.some.injEq] at h1
 simpa [List.getD_eq_getElem?_getD, List.getElem?_eq_getElem hi'] using h1
theorem zdg {q : LQ} {b c : List Int} (hb : zp b = true) (hc : zp c = true) (ht : q.1.2.2.all zz = true) (e : ∀ v, v < 4 -> (maskOf q.1.2.2).testBit v = true -> b.getD v (-1) = c.getD v (-1)) : zbR q b = zbR q c := by
 have hm := zgA ht e
 unfold zbR zM
 split
 ·by_cases hl : q.1.2.2.length = 2
  ·rw [zjT hm hl 0 (by omega), zjT hm hl 1 (by omega)]
  ·rw [decide_eq_false hl, Bool.false_and, Bool.false_and]
 ·have h1 : zai q.1.2 b = zai q.1.2 c := by unfold zai; rw [hm, hb, hc]
  have h2 : zaM q.1.2 b = zaM q.1.2 c := by unfold zaM; rw [h1, hm]
  rw [h1, h2]
theorem zfN {q : LQ} {b : List Int} (hk : q.1.1 = 0) (ho : zai q.1.2 b = true) : zbR q b = true <-> (q.1.2.1, q.1.2.2.map (zn b)) ∈ q.2 := by
 unfold zbR zM
 rw [if_neg (by omega), ho, zct ho, zbe, hk]
 simp
theorem zof {q : LQ} {b : List Int} (hk : q.1.1 = 1) (ho : zai q.1.2 b = true) : zbR q b = true <-> (q.1.2.1, q.1.2.2.map (zn b)) ∉ q.2 := by
 unfold zbR zM
 rw [if_neg (by omega), ho, zct ho, zbe, hk]
 simp
structure zfc (K : Nat) (Q : List LQ) (S : List (List Int)) : Prop where
 nodup : S.Nodup
 mem : ∀ b, b ∈ S <-> zp b = true /\ zdn b K /\ ∀ q ∈ Q, zbR q b = true
 vars : ∀ q ∈ Q, ∀ v, v < 4 -> (maskOf q.1.2.2).testBit v = true -> K.testBit v = true
 terms : ∀ q ∈ Q, q.1.2.2.all zz = true
theorem zis : zfc 0 [] [za8] where
 nodup := by simp
 mem b := by
  rw [List.mem_singleton]
  constructor
  ·rintro rfl
   refine ⟨zcl, fun v hv => ?_, fun q hq => by cases hq⟩
   match v, hv with
   | 0, _ => simp [za8]
   | 1, _ => simp [za8]
   | 2, _ => simp [za8]
   | 3, _ => simp [za8]
  ·rintro ⟨hb, hd, _⟩
   refine zb6 hb zcl fun v hv => ?_
   have := hd v hv
   have hbv : b.getD v (-1) = -1 := by
    rcases Decidable.em (b.getD v (-1) = -1) with h2 | h2
    ·exact h2
    ·exact absurd (this.1 h2) (by simp)
   rw [hbv]
   match v, hv with
   | 0, _ => rfl
   | 1, _ => rfl
   | 2, _ => rfl
   | 3, _ => rfl
 vars q hq := by cases hq
 terms q hq := by cases hq
section
variable {K M V : Nat} {s r b : List Int}
theorem zl6 (hb : zp s = true) (hr : zp r = true) (hd : zdn s K) : zbj K (zfa s r) = s := by
 refine zb6 (zY (zif hb hr) K) hb fun v hv => ?_
 rw [zZ hv, zig hv]
 unfold zeb
 by_cases e : K.testBit v = true
 ·rw [if_pos e, if_neg ((hd v hv).2 e)]
 ·rw [if_neg e]
  rcases Decidable.em (s.getD v (-1) = -1) with h2 | h2
  ·exact h2.symm
  ·exact absurd ((hd v hv).1 h2) e
def zpb (s r : List Int) : Prop := ∀ u, u < 4 -> s.getD u (-1) = -1 \/ r.getD u (-1) = -1 \/ s.getD u (-1) = r.getD u (-1)
theorem zl7 (hb : zp s = true) (hr : zp r = true) (hd : zdn r M) (ha : zpb s r) : zbj M (zfa s r) = r := by
 refine zb6 (zY (zif hb hr) M) hr fun v hv => ?_
 rw [zZ hv, zig hv]
 unfold zeb
 by_cases e : M.testBit v = true
 ·rw [if_pos e]
  have := (hd v hv).2 e
  rcases ha v hv with h | h | h
  ·rw [if_pos h]
  ·exact absurd h this
  ·rw [<- h]
   split <;> simp_all
 ·rw [if_neg e]
  rcases Decidable.em (r.getD v (-1) = -1) with h2 | h2
  ·exact h2.symm
  ·exact absurd ((hd v hv).1 h2) e
theorem zn5 (hs : zdn s K) (hr : zdn r M) : zdn (zfa s r) (K ||| M) := fun v hv => by
 rw [zig hv, Nat.testBit_or, Bool.or_eq_true, <- hs v hv, <- hr v hv]
 unfold zeb
 by_cases e : s.getD v (-1) = -1
 ·rw [if_pos e]
  simp only [List.getD_eq_getElem?_getD] at e ⊢
  simp [e]
 ·rw [if_neg e]
  exact ⟨fun _ => .inl e, fun _ => e⟩
theorem zni (hb : zp b = true) (hd : zdn b (K ||| M)) : zfa (zbj K b) (zbj M b) = b := by
 refine zb6 (zif (zY hb K) (zY hb M)) hb fun v hv => ?_
 rw [zig hv, zZ hv, zZ hv]
 unfold zeb
 have h := hd v hv
 rw [Nat.testBit_or, Bool.or_eq_true] at h
 by_cases e : K.testBit v = true
 ·rw [if_pos e]
  by_cases e2 : M.testBit v = true
  ·rw [if_pos e2]; split <;> simp_all
  ·rw [if_neg e2]; split <;> simp_all
 ·rw [if_neg e, if_pos rfl]
  by_cases e2 : M.testBit v = true
  ·rw [if_pos e2]
  ·rw [if_neg e2]
   rcases Decidable.em (b.getD v (-1) = -1) with h2 | h2
   ·exact h2.symm
   ·rcases h.1 h2 with h3 | h3
    ·exact absurd h3 e
    ·exact absurd h3 e2
theorem zg7 (hb : zp s = true) (hr : zp r = true) (hs : zdn s K) (hd : zdn r M) (hk : keyV (M &&& K) r = keyV (M &&& K) s) : zpb s r := fun u hu => by
 have he : zbj (M &&& K) r = zbj (M &&& K) s := zfB (zY hr _) (zY hb _) hk
 by_cases h1 : s.getD u (-1) = -1
 ·exact .inl h1
 ·by_cases h2 : r.getD u (-1) = -1
  ·exact .inr (.inl h2)
  ·have h3 := (hs u hu).1 h1
   have h4 := (hd u hu).1 h2
   have h5 : (M &&& K).testBit u = true := by rw [Nat.testBit_and, h3, h4]; rfl
   have h6 := congrArg (fun x => x.getD u (-1)) he
   simp only [zZ hu, h5, if_true] at h6
   exact .inr (.inr h6.symm)
end
theorem znj {V : Nat} {R S : List (List Int)} {b : List Int} : b ∈ zcB V R S <-> ∃ s ∈ S, ∃ r ∈ R, keyV V r = keyV V s /\ zfa s r = b := by
 unfold zcB zd7
 simp only [List.mem_flatMap, List.mem_map, List.mem_filter, beq_iff_eq]
 constructor
 ·rintro ⟨s, hs, r, ⟨hr, hk⟩, e⟩
  exact ⟨s, hs, r, hr, hk, e⟩
 ·rintro ⟨s, hs, r, hr, hk, e⟩
  exact ⟨s, hs, r, ⟨hr, hk⟩, e⟩
def zhy (a : zd) (fs : List zd) (R : List (List Int)) : Prop := R.Nodup /\ ∀ b, b ∈ R <-> zp b = true /\ zdn b (maskOf a.2) /\ (a.1, a.2.map (zn b)) ∈ fs
theorem zjG {a : zd} {fs : List zd} {R : List (List Int)} (ha : a.2.all zz = true) (hf : ∀ f ∈ fs, f.2.all zt = true) (hup : R.Pairwise fun x y => encB x < encB y) (hm : ∀ b, b ∈ R <-> ∃ f ∈ fs, zan a f za8 = some b) : zhy a fs R := by
 refine ⟨hup.imp fun h e => by subst e; omega, fun b => ?_⟩
 rw [hm b]
 constructor
 ·rintro ⟨f, hf', e⟩
  obtain ⟨h1, h2, h3⟩ := (ziF ha (hf f hf') b).1 e
  exact ⟨h1, h2, h3 ▸ hf'⟩
 ·rintro ⟨h1, h2, h3⟩
  exact ⟨_, h3, (ziF ha (hf _ h3) b).2 ⟨h1, h2, rfl⟩⟩
theorem zhy.perm {a : zd} {fs : List zd} {R R' : List (List Int)} (h : zhy a fs R) (hp : R'.Perm R) : zhy a fs R' := ⟨hp.nodup_iff.2 h.1, fun b => by rw [hp.mem_iff, h.2 b]⟩
theorem zfc.yes {K : Nat} {Q : List LQ} {S R : List (List Int)} {q : LQ} (h : zfc K Q S) (hk : q.1.1 = 0) (ht : q.1.2.2.all zz = true) (hR : zhy q.1.2 q.2 R) :
 zfc (K ||| maskOf q.1.2.2) (q :: Q) (zcB (maskOf q.1.2.2 &&& K) R S) := by
 obtain ⟨M, hM⟩ : ∃ M, M = maskOf q.1.2.2 := ⟨_, rfl⟩
 have hR2 := hR.2
 rw [<- hM] at hR2 ⊢
 have hsu : ∀ v, v < 4 -> (maskOf q.1.2.2).testBit v = true -> (K ||| M).testBit v = true := fun v hv h => by rw [Nat.testBit_or, hM, h, Bool.or_true]
 have hQu : ∀ q' ∈ Q, ∀ v, v < 4 -> (maskOf q'.1.2.2).testBit v = true -> (K ||| M).testBit v = true := fun q' hq v hv e => by rw [Nat.testBit_or, h.vars q' hq v hv e, Bool.true_or]
 refine ⟨?_, fun b => ?_, fun q' hq v hv e => ?_, fun q' hq => ?_⟩
 ·unfold zcB List.Nodup
  rw [List.pairwise_flatMap]
  constructor
  ·intro s hs
   obtain ⟨hbs, hds, _⟩ := (h.mem s).1 hs
   rw [List.pairwise_map]
   have hrun : (zd7 (M &&& K) R s).Nodup := List.Nodup.sublist List.filter_sublist hR.1
   refine List.Pairwise.imp_of_mem (fun {r1 r2} h1 h2 hne e => hne ?_) hrun
   obtain ⟨h1a, h1b⟩ := List.mem_filter.1 h1
   obtain ⟨h2a, h2b⟩ := List.mem_filter.1 h2
   obtain ⟨b1, d1, _⟩ := (hR2 r1).1 h1a
   obtain ⟨b2, d2, _⟩ := (hR2 r2).1 h2a
   rw [<- zl7 hbs b1 d1 (zg7 hbs b1 hds d1 (by simpa using h1b)), <- zl7 hbs b2 d2 (zg7 hbs b2 hds d2 (by simpa using h2b)), e]
  ·refine List.Pairwise.imp_of_mem (fun {s1 s2} h1 h2 hne x hx y hy e => hne ?_) h.nodup
   obtain ⟨r1, hr1, rfl⟩ := List.mem_map.1 hx
   obtain ⟨r2, hr2, rfl⟩ := List.mem_map.1 hy
   obtain ⟨b1, d1, _⟩ := (h.mem s1).1 h1
   obtain ⟨b2, d2, _⟩ := (h.mem s2).1 h2
   obtain ⟨c1, _, _⟩ := (hR2 r1).1 (List.mem_filter.1 hr1).1
   obtain ⟨c2, _, _⟩ := (hR2 r2).1 (List.mem_filter.1 hr2).1
   rw [<- zl6 b1 c1 d1, <- zl6 b2 c2 d2, e]
 ·rw [znj]
  constructor
  ·rintro ⟨s, hs, r, hr, hkey, rfl⟩
   obtain ⟨hbs, hds, hqs⟩ := (h.mem s).1 hs
   obtain ⟨hbr, hdr, hfr⟩ := (hR2 r).1 hr
   have hag := zg7 hbs hbr hds hdr hkey
   have hbo := zif hbs hbr
   have hdo := zn5 hds hdr
   refine ⟨hbo, hdo, fun q' hq => ?_⟩
   rcases List.mem_cons.1 hq with rfl | hq
   ·rw [zfN hk (zdT hbo ht hdo hsu)]
    have e : q'.1.2.2.map (zn (zfa s r)) = q'.1.2.2.map (zn r) := zgA ht fun v hv hm => by
     have := congrArg (fun x => x.getD v (-1)) (zl7 hbs hbr hdr hag)
     simp only [zZ hv] at this
     rw [hM, if_pos hm] at this
     exact this
    rw [e]
    exact hfr
   ·rw [zdg hbo hbs (h.terms q' hq) fun v hv hm => ?_]
    ·exact hqs q' hq
    ·have := congrArg (fun x => x.getD v (-1)) (zl6 hbs hbr hds)
     simp only [zZ hv] at this
     rw [if_pos (h.vars q' hq v hv hm)] at this
     exact this
  ·rintro ⟨hb, hd, hq⟩
   have hdK : zdn (zbj K b) K := zdC hd fun v _ e => by rw [Nat.testBit_or, e, Bool.true_or]
   have hdM : zdn (zbj M b) M := zdC hd fun v _ e => by rw [Nat.testBit_or, e, Bool.or_true]
   refine ⟨zbj K b, (h.mem _).2 ⟨zY hb K, hdK, fun q' hq' => ?_⟩, zbj M b, (hR2 _).2 ⟨zY hb M, hdM, ?_⟩, ?_, zni hb hd⟩
   ·rw [zdg (zY hb K) hb (h.terms q' hq') fun v hv hm => by rw [zZ hv, if_pos (h.vars q' hq' v hv hm)]]
    exact hq q' (List.mem_cons_of_mem _ hq')
   ·have e : q.1.2.2.map (zn (zbj M b)) = q.1.2.2.map (zn b) := zgA ht fun v hv hm => by rw [zZ hv, hM, if_pos hm]
    rw [e]
    exact (zfN hk (zdT hb ht hd hsu)).1 (hq q List.mem_cons_self)
   ·unfold keyV
    congr 1
    refine zb6 (zY (zY hb M) _) (zY (zY hb K) _) fun v hv => ?_
    rw [zZ hv, zZ hv, zZ hv, zZ hv]
    by_cases e : (M &&& K).testBit v = true
    ·rw [if_pos e, if_pos e]
     rw [Nat.testBit_and, Bool.and_eq_true] at e
     rw [if_pos e.1, if_pos e.2]
    ·rw [if_neg e, if_neg e]
 ·rcases List.mem_cons.1 hq with rfl | hq
  ·exact hsu v hv e
  ·exact hQu q' hq v hv e
 ·rcases List.mem_cons.1 hq with rfl | hq
  ·exact ht
  ·exact h.terms q' hq
theorem zfc.keep {K : Nat} {Q : List LQ} {S : List (List Int)} {q : LQ} (h : zfc K Q S) (ht : q.1.2.2.all zz = true) (hv : ∀ v, v < 4 -> (maskOf q.1.2.2).testBit v = true -> K.testBit v = true)
 (p : List Int -> Bool) (hp : ∀ b ∈ S, p b = zbR q b) : zfc K (q :: Q) (S.filter p) where
 nodup := List.Nodup.sublist List.filter_sublist h.nodup
 mem b := by
  rw [List.mem_filter]
  constructor
  ·rintro ⟨hb, hpb⟩
   obtain ⟨h1, h2, h3⟩ := (h.mem b).1 hb
   refine ⟨h1, h2, fun q' hq => ?_⟩
   rcases List.mem_cons.1 hq with rfl | hq
   ·rw [<- hp b hb]; exact hpb
   ·exact h3 q' hq
  ·rintro ⟨h1, h2, h3⟩
   have hb := (h.mem b).2 ⟨h1, h2, fun q' hq => h3 q' (List.mem_cons_of_mem _ hq)⟩
   exact ⟨hb, by rw [hp b hb]; exact h3 q List.mem_cons_self⟩
 vars q' hq v hv' e := by
  rcases List.mem_cons.1 hq with rfl | hq
  ·exact hv v hv' e
  ·exact h.vars q' hq v hv' e
 terms q' hq := by
  rcases List.mem_cons.1 hq with rfl | hq
  ·exact ht
  ·exact h.terms q' hq
theorem zoW {K : Nat} {Q : List LQ} {S R : List (List Int)} {q : LQ} (h : zfc K Q S) (hk : q.1.1 = 1) (ht : q.1.2.2.all zz = true) (hv : ∀ v, v < 4 -> (maskOf q.1.2.2).testBit v = true -> K.testBit v = true)
 (hR : zhy q.1.2 q.2 R) : ∀ b ∈ S, (!zju (maskOf q.1.2.2) R b) = zbR q b := by
 intro b hb
 obtain ⟨h1, h2, _⟩ := (h.mem b).1 hb
 have hho := zof hk (zdT h1 ht h2 hv)
 have hhit : zju (maskOf q.1.2.2) R b = true <-> (q.1.2.1, q.1.2.2.map (zn b)) ∈ q.2 := by
  have e : q.1.2.2.map (zn (zbj (maskOf q.1.2.2) b)) = q.1.2.2.map (zn b) := zgA ht fun v hv hm => by rw [zZ hv, if_pos hm]
  unfold zju
  rw [List.any_eq_true]
  constructor
  ·rintro ⟨t, ht', he⟩
   have he2 : encB t = encB (zbj (maskOf q.1.2.2) b) := by simpa [keyV] using he
   obtain ⟨g1, g2, g3⟩ := (hR.2 t).1 ht'
   rw [zfB g1 (zY h1 _) he2, e] at g3
   exact g3
  ·intro hin
   exact ⟨zbj (maskOf q.1.2.2) b, (hR.2 _).2 ⟨zY h1 _, zdC h2 hv, by rw [e]; exact hin⟩, by simp [keyV]⟩
 cases hq : zbR q b
 ·have : ¬ (q.1.2.1, q.1.2.2.map (zn b)) ∉ q.2 := fun hc => by rw [hho.2 hc] at hq; cases hq
  rw [hhit.2 (Decidable.not_not.1 this)]
  rfl
 ·have := hho.1 hq
  cases hh : zju (maskOf q.1.2.2) R b
  ·rfl
  ·exact absurd (hhit.1 hh) this
theorem zfL : ∀ (n : Nat) (l : List Nat), l.Nodup -> (∀ x ∈ l, x < n) -> l.length <= n
 | 0, l, _, h => by
  rcases l with _ | ⟨x, l⟩
  ·simp
  ·exact absurd (h x List.mem_cons_self) (by omega)
 | n + 1, l, hn, h => by
  have ih := zfL n (l.erase n) (hn.erase n) fun x hx => by
   have h1 := h x (List.mem_of_mem_erase hx)
   have h2 : x ≠ n := fun e => by
    subst e
    exact hn.not_mem_erase hx
   omega
  by_cases hm : n ∈ l
  ·rw [List.length_erase_of_mem hm] at ih
   omega
  ·rw [List.erase_of_not_mem hm] at ih
   omega
theorem zce {S : List (List Int)} (hn : S.Nodup) (h : ∀ b ∈ S, zp b = true) : S.length <= 65536 := by
 have := zfL 65536 (S.map encB) (by
  unfold List.Nodup
  rw [List.pairwise_map]
  exact List.Pairwise.imp_of_mem (fun {a b} ha hb hne e => hne (zfB (h a ha) (h b hb) e)) hn) fun x hx => by
  obtain ⟨b, hb, rfl⟩ := List.mem_map.1 hx
  exact zcP (h b hb)
 simpa using this
open Go.RowKit
theorem zpj (K m : Nat) (t : Int) : K ||| orV m t = orV (K ||| m) t := by
 unfold orV
 split
 ·rw [Nat.or_assoc]
 ·rfl
theorem zme : maskOf [] = 0 := by simp [maskOf, zau]
theorem zgz {xs ys b : List Int} {K : Nat} (hb : zp b = true) (hdb : zdn b K) (hl : xs.length = ys.length) (hx : xs.all zz = true) (hy : ys.all zt = true) : ∀ (k : Nat) (_hk : k <= xs.length) (c : List Int), zaK b xs ys k = some c <->
 (zp c = true /\ zdn c (K ||| maskOf (xs.take k)) /\ zbj K c = b /\ ∀ i (h : i < xs.length) (h2 : i < ys.length), i < k -> zn c xs[i] = ys[i])
 | 0, hk, c => by
  rw [List.take_zero, zme, Nat.or_zero]
  constructor
  ·intro h
   injection h with h
   subst h
   exact ⟨hb, hdb, zdD hb hdb, fun i _ _ h => absurd h (by omega)⟩
  ·rintro ⟨hc, hd, hr, _⟩
   show some b = some c
   rw [<- hr, zdD hc hd]
 | k + 1, hk, c => by
  have hkx : k < xs.length := by omega
  have hky : k < ys.length := by omega
  have ih := zgz hb hdb hl hx hy k (by omega)
  have hM : K ||| maskOf (xs.take (k + 1)) = orV (K ||| maskOf (xs.take k)) xs[k] := by rw [zee hkx, zpj]
  have hxk : zz xs[k] = true := List.all_eq_true.1 hx _ (List.getElem_mem hkx)
  have hyk : 0 <= ys[k] /\ ys[k] <= 5 := by simpa [zt] using List.all_eq_true.1 hy _ (List.getElem_mem hky)
  obtain ⟨M, hMM⟩ : ∃ M, M = K ||| maskOf (xs.take k) := ⟨_, rfl⟩
  rw [<- hMM] at hM ih
  rw [hM]
  have hKM : ∀ v, K.testBit v = true -> M.testBit v = true := fun v h => by rw [hMM, Nat.testBit_or, h, Bool.true_or]
  have hin : ∀ (i : Nat) (h : i < xs.length) (v : Nat), i < k -> v < 4 -> xs[i] = -1 - (v : Int) -> M.testBit v = true := fun i h v hik hv e => by
   rw [hMM, Nat.testBit_or, Bool.or_eq_true]
   right
   rw [zeT hv, <- e]
   exact List.mem_take_iff_getElem.2 ⟨i, by omega, rfl⟩
  constructor
  ·intro h
   cases h0 : zaK b xs ys k with
   | none => rw [zdt h0 (k + 1) (by omega)] at h; cases h
   | some b0 =>
    rw [zca h0 hkx hky] at h
    obtain ⟨hb0, hd0, hr0, hv0⟩ := (ih b0).1 h0
    unfold ze3 at h
    split at h
    ·rename_i e
     injection h with h
     subst h
     refine ⟨hb0, ?_, hr0, fun i h1 h2 hik => ?_⟩
     ·rcases zbi hxk with h0 | ⟨v, hv, hxv⟩
      ·rw [zdE h0.1]
       exact hd0
      ·rw [hxv, zec hv]
       intro u hu
       rw [zek, hd0 u hu]
       constructor
       ·exact fun h => .inl h
       ·rintro (h | rfl)
        ·exact h
        ·refine (hd0 v hv).1 ?_
         rw [hxv, zaS] at e
         omega
     ·by_cases ei : i = k
      ·subst ei
       exact e
      ·exact hv0 i h1 h2 (by omega)
    ·split at h
     ·rename_i e1 e2
      injection h with h
      rcases zbi hxk with h0 | ⟨v, hv, hxv⟩
      ·rw [za2 h0.1] at e2
       omega
      ·rw [hxv, zaS] at e2
       have hj : (-1 - xs[k]).toNat = v := by omega
       rw [hj] at h
       have hl4 := zV hb0
       have hset : ∀ u, u < 4 -> c.getD u (-1) = if u = v then ys[k] else b0.getD u (-1) := fun u hu => by
        rw [<- h]
        simp only [List.getD_eq_getElem?_getD, List.getElem?_set]
        by_cases euv : v = u
        ·subst euv
         simp [hl4, hv]
        ·rw [if_neg euv, if_neg (fun e => euv e.symm)]
       have hcok : zp c = true := by rw [<- h]; exact zcx hb0 (by omega) _
       refine ⟨hcok, fun u hu => ?_, ?_, fun i h1 h2 hik => ?_⟩
       ·rw [hxv, zec hv, zek, hset u hu]
        by_cases euv : u = v
        ·subst euv
         simp
         omega
        ·rw [if_neg euv, hd0 u hu]
         constructor
         ·exact fun h => .inl h
         ·rintro (h | h)
          ·exact h
          ·exact absurd h.symm euv
       ·rw [<- hr0]
        refine zb6 (zY hcok K) (zY hb0 K) fun u hu => ?_
        rw [zZ hu, zZ hu]
        by_cases hKu : K.testBit u = true
        ·rw [if_pos hKu, if_pos hKu, hset u hu, if_neg]
         rintro rfl
         exact (hd0 u hu).2 (hKM u hKu) e2
        ·rw [if_neg hKu, if_neg hKu]
       ·by_cases ei : i = k
        ·subst ei
         rw [hxv, zaS, hset v hv, if_pos rfl]
        ·have hik' : i < k := by omega
         rw [<- hv0 i h1 h2 hik']
         refine zcE (List.all_eq_true.1 hx _ (List.getElem_mem h1)) fun u hu eu => ?_
         rw [hset u hu, if_neg]
         rintro rfl
         have := (hd0 u hu).2 (hin i h1 u hik' hu eu)
         exact this e2
     ·cases h
  ·rintro ⟨hc, hd, hrc, hv⟩
   have hMK : ∀ v, v < 4 -> M.testBit v = true -> (orV M xs[k]).testBit v = true := fun v hv h => by
    rcases zbi hxk with h0 | ⟨u, hu, hxu⟩
    ·rw [zdE h0.1]; exact h
    ·rw [hxu, zec hu, zek]; exact .inl h
   have h0 : zaK b xs ys k = some (zbj M c) := by
    refine (ih _).2 ⟨zY hc M, zdC hd hMK, ?_, fun i h1 h2 hik => ?_⟩
    ·rw [<- hrc]
     refine zb6 (zY (zY hc M) K) (zY hc K) fun u hu => ?_
     rw [zZ hu, zZ hu, zZ hu]
     by_cases hKu : K.testBit u = true
     ·rw [if_pos hKu, if_pos hKu, if_pos (hKM u hKu)]
     ·rw [if_neg hKu, if_neg hKu]
    ·rw [<- hv i h1 h2 (by omega)]
     refine zcE (List.all_eq_true.1 hx _ (List.getElem_mem h1)) fun u hu eu => ?_
     rw [zZ hu, if_pos (hin i h1 u hik hu eu)]
   rw [zca h0 hkx hky]
   have hvk := hv k hkx hky (by omega)
   rcases zbi hxk with h0c | ⟨v, hv4, hxv⟩
   ·rw [zdE h0c.1] at hd
    rw [zdD hc hd]
    exact zc1 hvk
   ·rw [hxv, zec hv4] at hd
    rw [hxv, zaS] at hvk
    rw [hxv]
    by_cases hMv : M.testBit v = true
    ·have hd2 : zdn c M := fun u hu => by
      rw [hd u hu, zek]
      constructor
      ·rintro (h | rfl)
       ·exact h
       ·exact hMv
      ·exact fun h => .inl h
     rw [zdD hc hd2]
     exact zc1 (by rw [zaS]; exact hvk)
    ·have hr : zn (zbj M c) (-1 - (v : Int)) = -1 := by rw [zaS, zZ hv4, if_neg hMv]
     rw [zfJ hr (by omega), show (-1 - (-1 - (v : Int))).toNat = v by omega]
     congr 1
     refine zb6 (zcx (zY hc M) (by omega) _) hc fun u hu => ?_
     have hl4 := zV (zY hc M)
     simp only [List.getD_eq_getElem?_getD, List.getElem?_set]
     by_cases euv : v = u
     ·subst euv
      simp only [List.getD_eq_getElem?_getD] at hvk
      simp [hl4, hv4, hvk]
     ·rw [if_neg euv, <- List.getD_eq_getElem?_getD, <- List.getD_eq_getElem?_getD, zZ hu]
      by_cases hMu : M.testBit u = true
      ·rw [if_pos hMu]
      ·rw [if_neg hMu]
       rcases Decidable.em (c.getD u (-1) = -1) with h2 | h2
       ·exact h2.symm
       ·have := (hd u hu).1 h2
        rw [zek] at this
        rcases this with h | h
        ·exact absurd h hMu
        ·exact absurd h euv
theorem zk8 {a f : zd} {b : List Int} {K : Nat} (hb : zp b = true) (hdb : zdn b K) (ha : a.2.all zz = true) (hf : f.2.all zt = true) (c : List Int) :
 zan a f b = some c <-> zp c = true /\ zdn c (K ||| maskOf a.2) /\ zbj K c = b /\ f = (a.1, a.2.map (zn c)) := by
 by_cases h1 : a.1 = f.1
 ·by_cases h2 : a.2.length = f.2.length
  ·rw [zez h1 h2, zgz hb hdb h2 ha hf a.2.length (Nat.le_refl _) c, List.take_length]
   refine and_congr_right fun _ => and_congr_right fun _ => and_congr_right fun _ => ?_
   constructor
   ·intro h
    refine Prod.ext h1.symm (List.ext_getElem (by simp [h2]) fun i i1 i2 => ?_)
    simp at i2
    simpa using (h i i2 i1 i2).symm
   ·intro h i i1 i2 _
    have e : f.2 = a.2.map (zn c) := by rw [h]
    have := List.getElem_of_eq e i2
    simpa using this.symm
  ·rw [zeS h2]
   constructor
   ·intro h; cases h
   ·rintro ⟨_, _, _, e⟩
    exact absurd (by rw [e]; simp) h2
 ·rw [zed h1]
  constructor
  ·intro h; cases h
  ·rintro ⟨_, _, _, e⟩
   exact absurd (by rw [e]) h1
def zdd (a : zd) (fs : List zd) (B : List (List Int)) : List (List Int) := B.flatMap fun b => fs.filterMap fun f => zan a f b
theorem zfc.next {K : Nat} {Q : List LQ} {B : List (List Int)} {q : LQ} (h : zfc K Q B) (hk : q.1.1 = 0) (ht : q.1.2.2.all zz = true) (hf : ∀ f ∈ q.2, f.2.all zt = true) (hn : q.2.Nodup) :
 zfc (K ||| maskOf q.1.2.2) (q :: Q) (zdd q.1.2 q.2 B) := by
 have hsu : ∀ v, v < 4 -> (maskOf q.1.2.2).testBit v = true -> (K ||| maskOf q.1.2.2).testBit v = true := fun v hv h => by rw [Nat.testBit_or, h, Bool.or_true]
 have hQu : ∀ q' ∈ Q, ∀ v, v < 4 -> (maskOf q'.1.2.2).testBit v = true -> (K ||| maskOf q.1.2.2).testBit v = true := fun q' hq v hv e => by rw [Nat.testBit_or, h.vars q' hq v hv e, Bool.true_or]
 have hm : ∀ b ∈ B, ∀ f ∈ q.2, ∀ c, zan q.1.2 f b = some c <-> zp c = true /\ zdn c (K ||| maskOf q.1.2.2) /\ zbj K c = b /\ f = (q.1.2.1, q.1.2.2.map (zn c)) := fun b hb f hfq c =>
  zk8 ((h.mem b).1 hb).1 ((h.mem b).1 hb).2.1 ht (hf f hfq) c
 refine ⟨?_, fun c => ?_, fun q' hq v hv e => ?_, fun q' hq => ?_⟩
 ·unfold zdd List.Nodup
  rw [List.pairwise_flatMap]
  constructor
  ·intro b hb
   rw [List.pairwise_filterMap]
   refine List.Pairwise.imp_of_mem (fun {f1 f2} h1 h2 hne c1 e1 c2 e2 e => hne ?_) hn
   subst e
   rw [((hm b hb f1 h1 c1).1 e1).2.2.2, ((hm b hb f2 h2 c1).1 e2).2.2.2]
  ·refine List.Pairwise.imp_of_mem (fun {s1 s2} h1 h2 hne x hx y hy e => hne ?_) h.nodup
   obtain ⟨f1, hf1, e1⟩ := List.mem_filterMap.1 hx
   obtain ⟨f2, hf2, e2⟩ := List.mem_filterMap.1 hy
   subst e
   rw [<- ((hm s1 h1 f1 hf1 x).1 e1).2.2.1, <- ((hm s2 h2 f2 hf2 x).1 e2).2.2.1]
 ·unfold zdd
  rw [List.mem_flatMap]
  constructor
  ·rintro ⟨b, hb, hc⟩
   obtain ⟨f, hfq, e⟩ := List.mem_filterMap.1 hc
   obtain ⟨c1, c2, c3, c4⟩ := (hm b hb f hfq c).1 e
   refine ⟨c1, c2, fun q' hq => ?_⟩
   rcases List.mem_cons.1 hq with rfl | hq
   ·rw [zfN hk (zdT c1 ht c2 hsu), <- c4]
    exact hfq
   ·obtain ⟨b1, b2, b3⟩ := (h.mem b).1 hb
    rw [zdg c1 b1 (h.terms q' hq) fun v hv hmv => ?_]
    ·exact b3 q' hq
    ·rw [<- c3, zZ hv, if_pos (h.vars q' hq v hv hmv)]
  ·rintro ⟨c1, c2, c3⟩
   have hb : zbj K c ∈ B := (h.mem _).2 ⟨zY c1 K, zdC c2 fun v _ e => by rw [Nat.testBit_or, e, Bool.true_or], fun q' hq => by
    rw [zdg (zY c1 K) c1 (h.terms q' hq) fun v hv hmv => by rw [zZ hv, if_pos (h.vars q' hq v hv hmv)]]
    exact c3 q' (List.mem_cons_of_mem _ hq)⟩
   have hin := (zfN hk (zdT c1 ht c2 hsu)).1 (c3 q List.mem_cons_self)
   exact ⟨zbj K c, hb, List.mem_filterMap.2 ⟨_, hin, (hm _ hb _ hin c).2 ⟨c1, c2, rfl, rfl⟩⟩⟩
 ·rcases List.mem_cons.1 hq with rfl | hq
  ·exact hsu v hv e
  ·exact hQu q' hq v hv e
 ·rcases List.mem_cons.1 hq with rfl | hq
  ·exact ht
  ·exact h.terms q' hq
def zaX (fs : List zd) (ls : List zC) : Nat -> List (List Int)
 | 0 => [za8]
 | k + 1 => if (ls.getD k (0, 0, [])).1 = 0 then zdd (ls.getD k (0, 0, [])).2 fs (zaX fs ls k) else zaX fs ls k
theorem zhZ {fs : List zd} {ls : List zC} {k : Nat} (h : k < ls.length) (e : ls[k].1 = 0) : zaX fs ls (k + 1) = zdd ls[k].2 fs (zaX fs ls k) := by
 have hd : ls.getD k (0, 0, []) = ls[k] := by simp [h]
 show (if _ then _ else _) = _
 rw [hd, if_pos e]
theorem zjc {fs : List zd} {ls : List zC} {k : Nat} (h : k < ls.length) (e : ls[k].1 ≠ 0) : zaX fs ls (k + 1) = zaX fs ls k := by
 have hd : ls.getD k (0, 0, []) = ls[k] := by simp [h]
 show (if _ then _ else _) = _
 rw [hd, if_neg e]
def zbJ (ls : List zC) (k : Nat) : List zC := (ls.take k).filter fun l => l.1 != 0
theorem zl3 {ls : List zC} {k : Nat} (h : k < ls.length) (e : ls[k].1 = 0) : zbJ ls (k + 1) = zbJ ls k := by
 unfold zbJ
 rw [zH ls k h, List.filter_append]
 simp [e]
theorem zne {ls : List zC} {k : Nat} (h : k < ls.length) (e : ls[k].1 ≠ 0) : zbJ ls (k + 1) = zbJ ls k ++ [ls[k]] := by
 unfold zbJ
 rw [zH ls k h, List.filter_append]
 simp [e]
theorem zjp (ls : List zC) (k : Nat) : (zbJ ls k).length <= k := by
 unfold zbJ
 exact Nat.le_trans (List.length_filter_le _ _) (by simp; omega)
theorem zeZ {fs : List zd} {ls : List zC} (hf : ∀ f ∈ fs, f.2.all zt = true) (hn : fs.Nodup) (ht : ∀ l ∈ ls, l.2.2.all zz = true) : ∀ k, k <= ls.length ->
 ∃ (K : Nat) (Q : List LQ), K < 16 /\ zfc K Q (zaX fs ls k) /\ (∀ q, q ∈ Q <-> q.2 = fs /\ q.1.1 = 0 /\ q.1 ∈ ls.take k) /\ ∀ v, v < 4 -> (K.testBit v = true <-> ∃ l ∈ ls.take k, l.1 = 0 /\ (maskOf l.2.2).testBit v = true)
 | 0, _ => ⟨0, [], by omega, zis, fun q => by simp, fun v _ => by simp⟩
 | k + 1, hk => by
  have hlt : k < ls.length := by omega
  obtain ⟨K, Q, hK, hS, hQ, hv⟩ := zeZ hf hn ht k (by omega)
  have htk : ls.take (k + 1) = ls.take k ++ [ls[k]] := zH ls k hlt
  by_cases e : ls[k].1 = 0
  ·refine ⟨K ||| maskOf ls[k].2.2, (ls[k], fs) :: Q, Nat.or_lt_two_pow (n := 4) hK (zbr _), ?_, fun q => ?_, fun v hv4 => ?_⟩
   ·rw [zhZ hlt e]
    exact hS.next (q := (ls[k], fs)) e (ht _ (List.getElem_mem hlt)) hf hn
   ·rw [List.mem_cons, hQ, htk, List.mem_append, List.mem_singleton]
    constructor
    ·rintro (rfl | ⟨h1, h2, h3⟩)
     ·exact ⟨rfl, e, .inr rfl⟩
     ·exact ⟨h1, h2, .inl h3⟩
    ·rintro ⟨h1, h2, h3 | h3⟩
     ·exact .inr ⟨h1, h2, h3⟩
     ·exact .inl (Prod.ext h3 h1)
   ·rw [Nat.testBit_or, Bool.or_eq_true, hv v hv4, htk]
    constructor
    ·rintro (⟨l, hl, h1, h2⟩ | h)
     ·exact ⟨l, List.mem_append_left _ hl, h1, h2⟩
     ·exact ⟨ls[k], List.mem_append_right _ (List.mem_singleton.2 rfl), e, h⟩
    ·rintro ⟨l, hl, h1, h2⟩
     rcases List.mem_append.1 hl with hl | hl
     ·exact .inl ⟨l, hl, h1, h2⟩
     ·rw [List.mem_singleton] at hl
      subst hl
      exact .inr h2
  ·refine ⟨K, Q, hK, by rw [zjc hlt e]; exact hS, fun q => ?_, fun v hv4 => ?_⟩
   ·rw [hQ, htk, List.mem_append, List.mem_singleton]
    constructor
    ·rintro ⟨h1, h2, h3⟩
     exact ⟨h1, h2, .inl h3⟩
    ·rintro ⟨h1, h2, h3 | h3⟩
     ·exact ⟨h1, h2, h3⟩
     ·exact absurd (h3 ▸ h2) e
   ·rw [hv v hv4, htk]
    constructor
    ·rintro ⟨l, hl, h⟩
     exact ⟨l, List.mem_append_left _ hl, h⟩
    ·rintro ⟨l, hl, h1, h2⟩
     rcases List.mem_append.1 hl with hl | hl
     ·exact ⟨l, hl, h1, h2⟩
     ·rw [List.mem_singleton] at hl
      exact absurd (hl ▸ h1) e
theorem zjb {fs : List zd} {ls : List zC} (hf : ∀ f ∈ fs, f.2.all zt = true) (hn : fs.Nodup) (ht : ∀ l ∈ ls, l.2.2.all zz = true) {k : Nat} (hk : k <= ls.length) : (∀ b ∈ zaX fs ls k, zp b = true) /\ (zaX fs ls k).length <= 65536 := by
 obtain ⟨K, Q, _, hS, _, _⟩ := zeZ hf hn ht k hk
 have h1 : ∀ b ∈ zaX fs ls k, zp b = true := fun b hb => ((hS.mem b).1 hb).1
 exact ⟨h1, zce hS.nodup h1⟩
def atB : List (List Int) -> List Int -> Nat
 | [], _ => 0
 | s :: S, b => if zar b s < 0 then 0 else atB S b + 1
theorem zlJ : ∀ (S : List (List Int)) (b : List Int), atB S b <= S.length /\ (∀ j (h : j < S.length), j < atB S b -> ¬ zar b S[j] < 0) /\ (atB S b = S.length \/ ∃ h : atB S b < S.length, zar b S[atB S b] < 0)
 | [], _ => ⟨Nat.le_refl _, fun j h => absurd h (by simp), .inl rfl⟩
 | s :: S, b => by
  obtain ⟨h1, h2, h3⟩ := zlJ S b
  by_cases e : zar b s < 0
  ·have ea : atB (s :: S) b = 0 := if_pos e
   rw [ea]
   exact ⟨Nat.zero_le _, fun j _ h => absurd h (by omega), .inr ⟨by simp, by simpa using e⟩⟩
  ·have ea : atB (s :: S) b = atB S b + 1 := if_neg e
   simp only [ea]
   refine ⟨by simpa using h1, fun j hj hlt => ?_, ?_⟩
   ·rcases j with _ | j
    ·exact e
    ·exact h2 j (by simpa using hj) (by omega)
   ·rcases h3 with h3 | ⟨h, h3⟩
    ·exact .inl (by simpa using h3)
    ·exact .inr ⟨by simpa using h, by simpa using h3⟩
def zkg (S : List (List Int)) (b : List Int) : List (List Int) := if b ∈ S then S else S.take (atB S b) ++ b :: S.drop (atB S b)
def UpB (S : List (List Int)) : Prop := S.Pairwise fun x y => zar x y < 0
theorem UpB.put {S : List (List Int)} (h : UpB S) (b : List Int) : UpB (zkg S b) /\ ∀ x, x ∈ zkg S b <-> x = b \/ x ∈ S := by
 unfold zkg
 split
 ·rename_i hm
  refine ⟨h, fun x => ⟨fun h => .inr h, fun h' => ?_⟩⟩
  rcases h' with rfl | h'
  ·exact hm
  ·exact h'
 ·rename_i hm
  obtain ⟨a1, a2, a3⟩ := zlJ S b
  constructor
  ·have h1 : ∀ s ∈ S.take (atB S b), zar s b < 0 := fun s hs => by
    obtain ⟨j, hj, rfl⟩ := List.mem_take_iff_getElem.1 hs
    have h3 := a2 j (by omega) (by omega)
    have h4 : zar b (S[j]'(by omega)) ≠ 0 := fun e => hm (by rw [zij e]; exact List.getElem_mem _)
    exact zhs.2 (by omega)
   have h2 : ∀ s ∈ S.drop (atB S b), zar b s < 0 := fun s hs => by
    obtain ⟨i, hi, rfl⟩ := List.getElem_of_mem hs
    rw [List.length_drop] at hi
    rw [List.getElem_drop]
    rcases a3 with a3 | ⟨a4, a3⟩
    ·omega
    ·rcases i with _ | i
     ·exact a3
     ·exact zeE a3 (List.pairwise_iff_getElem.1 h _ _ a4 (by omega) (by omega))
   show List.Pairwise _ _
   rw [List.pairwise_append]
   refine ⟨List.Pairwise.sublist (List.take_sublist _ _) h, List.pairwise_cons.2 ⟨h2, List.Pairwise.sublist (List.drop_sublist _ _) h⟩, fun x hx y hy => ?_⟩
   rcases List.mem_cons.1 hy with rfl | hy
   ·exact h1 x hx
   ·exact zeE (h1 x hx) (h2 y hy)
  ·intro x
   rw [List.mem_append, List.mem_cons]
   have e : x ∈ S <-> x ∈ S.take (atB S b) \/ x ∈ S.drop (atB S b) := by rw [<- List.mem_append, List.take_append_drop]
   rw [e]
   constructor
   ·rintro (h | h | h)
    ·exact .inr (.inl h)
    ·exact .inl h
    ·exact .inr (.inr h)
   ·rintro (h | h | h)
    ·exact .inr (.inl h)
    ·exact .inl h
    ·exact .inr (.inr h)
theorem UpB.unique : ∀ {l m : List (List Int)}, UpB l -> UpB m -> (∀ f, f ∈ l <-> f ∈ m) -> l = m
 | [], [], _, _, _ => rfl
 | [], y :: m, _, _, h => absurd ((h y).2 List.mem_cons_self) (by simp)
 | x :: l, [], _, _, h => absurd ((h x).1 List.mem_cons_self) (by simp)
 | x :: l, y :: m, hl, hm, h => by
  obtain ⟨h1, h2⟩ := List.pairwise_cons.1 hl
  obtain ⟨h3, h4⟩ := List.pairwise_cons.1 hm
  have irr : ∀ z : List Int, ¬ zar z z < 0 := fun z => by rw [zeD]; omega
  have hxy : x = y := by
   rcases List.mem_cons.1 ((h x).1 List.mem_cons_self) with e | e
   ·exact e
   ·rcases List.mem_cons.1 ((h y).2 List.mem_cons_self) with e2 | e2
    ·exact e2.symm
    ·exact absurd (zeE (h1 y e2) (h3 x e)) (irr x)
  subst hxy
  rw [UpB.unique h2 h4 fun f => ?_]
  constructor
  ·intro hf
   rcases List.mem_cons.1 ((h f).1 (List.mem_cons_of_mem _ hf)) with e | e
   ·subst e
    exact absurd (h1 f hf) (irr f)
   ·exact e
  ·intro hf
   rcases List.mem_cons.1 ((h f).2 (List.mem_cons_of_mem _ hf)) with e | e
   ·subst e
    exact absurd (h3 f hf) (irr f)
   ·exact e
def zbs (fs : List zd) (rest : List zC) (B : List (List Int)) : Nat -> List (List Int)
 | 0 => []
 | k + 1 => if rest.all (fun l => zM fs l (B.getD k [])) then zkg (zbs fs rest B k) (B.getD k []) else zbs fs rest B k
theorem zhC {fs : List zd} {rest : List zC} {B : List (List Int)} {k : Nat} (h : k < B.length) (e : (rest.all fun l => zM fs l B[k]) = true) : zbs fs rest B (k + 1) = zkg (zbs fs rest B k) B[k] := by
 have hd : B.getD k [] = B[k] := by simp [h]
 show (if _ then _ else _) = _
 rw [hd, if_pos e]
theorem zim {fs : List zd} {rest : List zC} {B : List (List Int)} {k : Nat} (h : k < B.length) (e : (rest.all fun l => zM fs l B[k]) = false) : zbs fs rest B (k + 1) = zbs fs rest B k := by
 have hd : B.getD k [] = B[k] := by simp [h]
 show (if _ then _ else _) = _
 rw [hd, if_neg (by rw [e]; simp)]
theorem zdI (fs : List zd) (rest : List zC) (B : List (List Int)) : ∀ k, k <= B.length -> UpB (zbs fs rest B k) /\ ∀ x, x ∈ zbs fs rest B k <-> x ∈ B.take k /\ (rest.all fun l => zM fs l x) = true
 | 0, _ => ⟨List.Pairwise.nil, fun x => by simp [zbs]⟩
 | k + 1, hk => by
  obtain ⟨h1, h2⟩ := zdI fs rest B k (by omega)
  have hlt : k < B.length := by omega
  have htk : ∀ x, x ∈ B.take (k + 1) <-> x ∈ B.take k \/ x = B[k] := fun x => by rw [zH B k hlt, List.mem_append, List.mem_singleton]
  cases e : rest.all fun l => zM fs l B[k]
  ·rw [zim hlt e]
   refine ⟨h1, fun x => ?_⟩
   rw [h2, htk]
   constructor
   ·rintro ⟨a, b⟩
    exact ⟨.inl a, b⟩
   ·rintro ⟨a | a, b⟩
    ·exact ⟨a, b⟩
    ·rw [a, e] at b
     cases b
  ·rw [zhC hlt e]
   obtain ⟨h3, h4⟩ := h1.put B[k]
   refine ⟨h3, fun x => ?_⟩
   rw [h4, h2, htk]
   constructor
   ·rintro (rfl | ⟨a, b⟩)
    ·exact ⟨.inr rfl, e⟩
    ·exact ⟨.inl a, b⟩
   ·rintro ⟨a | a, b⟩
    ·exact .inr ⟨a, b⟩
    ·exact .inl a
theorem zff {fs : List zd} {rest : List zC} {B : List (List Int)} {k : Nat} (hk : k <= B.length) : ∀ x ∈ zbs fs rest B k, x ∈ B := fun x hx => List.mem_of_mem_take (((zdI fs rest B k hk).2 x).1 hx).1
theorem UpB.nodup {S : List (List Int)} (h : UpB S) : S.Nodup := h.imp fun h e => by
 subst e
 rw [zeD] at h
 omega
def zfl (fs : List zd) (ls : List zC) : List (List Int) := zbs fs (zbJ ls ls.length) (zaX fs ls ls.length) (zaX fs ls ls.length).length
open Go.RowKit
def zfU (S : List (List Int)) (b : List Int) (k t : Nat) : Prop :=
 (∀ j (h : j < S.length), j < k -> zar b S[j] ≠ 0) /\ ((t = S.length /\ ∀ j (h : j < S.length), j < k -> ¬ zar b S[j] < 0) \/ (t < k /\ (∃ h : t < S.length, zar b S[t] < 0) /\ ∀ j (h : j < S.length), j < t -> ¬ zar b S[j] < 0))
theorem zmC : ∀ {S : List (List Int)} {b : List Int} {t : Nat}, t <= S.length -> (∀ j (h : j < S.length), j < t -> ¬ zar b S[j] < 0) -> (t = S.length \/ ∃ h : t < S.length, zar b S[t] < 0) -> atB S b = t
 | [], b, t, h, _, _ => by
  have : t = 0 := by simpa using h
  subst this
  rfl
 | s :: S, b, 0, _, _, h => by
  rcases h with h | ⟨_, h⟩
  ·simp at h
  ·exact if_pos h
 | s :: S, b, t + 1, h1, h2, h3 => by
  have h0 : ¬ zar b s < 0 := h2 0 (by simp) (by omega)
  have ih := zmC (S := S) (b := b) (t := t) (by simpa using h1) (fun j hj hlt => h2 (j + 1) (by simpa using hj) (by omega)) (by
   rcases h3 with h3 | ⟨h, h3⟩
   ·exact .inl (by simpa using h3)
   ·exact .inr ⟨by simpa using h, h3⟩)
  have ea : atB (s :: S) b = atB S b + 1 := if_neg h0
  rw [ea, ih]
theorem zfU.end_ {S : List (List Int)} {b : List Int} {t : Nat} (h : zfU S b S.length t) : b ∉ S /\ t = atB S b /\ t <= S.length := by
 obtain ⟨h1, h2⟩ := h
 have ht : t <= S.length := by rcases h2 with ⟨h, _⟩ | ⟨h, _⟩ <;> omega
 refine ⟨fun hm => ?_, ?_, ht⟩
 ·obtain ⟨j, hj, rfl⟩ := List.getElem_of_mem hm
  exact h1 j hj hj (zeD _)
 ·rcases h2 with ⟨h, h3⟩ | ⟨h, h4, h3⟩
  ·exact (zmC ht (fun j hj _ => h3 j hj hj) (.inl h)).symm
  ·exact (zmC ht h3 (.inr h4)).symm
theorem zfU.start (S : List (List Int)) (b : List Int) : zfU S b 0 S.length := ⟨fun j _ h => absurd h (by omega), .inl ⟨rfl, fun j _ h => absurd h (by omega)⟩⟩
theorem zfU.more {S : List (List Int)} {b : List Int} {k t : Nat} (h : zfU S b k t) (hk : k < S.length) (e : 0 < zar b S[k]) : zfU S b (k + 1) t := by
 obtain ⟨h1, h2⟩ := h
 refine ⟨fun j hj hlt => ?_, ?_⟩
 ·by_cases e2 : j = k
  ·subst e2; omega
  ·exact h1 j hj (by omega)
 ·rcases h2 with ⟨h, h3⟩ | ⟨h, h4, h3⟩
  ·refine .inl ⟨h, fun j hj hlt => ?_⟩
   by_cases e2 : j = k
   ·subst e2; omega
   ·exact h3 j hj (by omega)
  ·exact .inr ⟨by omega, h4, h3⟩
theorem zfU.here {S : List (List Int)} {b : List Int} {k : Nat} (h : zfU S b k S.length) (hk : k < S.length) (e : zar b S[k] < 0) : zfU S b (k + 1) k := by
 obtain ⟨h1, h2⟩ := h
 refine ⟨fun j hj hlt => ?_, .inr ⟨by omega, ⟨hk, e⟩, fun j hj hlt => ?_⟩⟩
 ·by_cases e2 : j = k
  ·subst e2; omega
  ·exact h1 j hj (by omega)
 ·rcases h2 with ⟨h, h3⟩ | ⟨h, ⟨h5, _⟩, h3⟩
  ·exact h3 j hj hlt
  ·omega
theorem zfU.past {S : List (List Int)} {b : List Int} {k t : Nat} (h : zfU S b k t) (hk : k < S.length) (ht : t ≠ S.length) (e : zar b S[k] < 0) : zfU S b (k + 1) t := by
 obtain ⟨h1, h2⟩ := h
 refine ⟨fun j hj hlt => ?_, ?_⟩
 ·by_cases e2 : j = k
  ·subst e2; omega
  ·exact h1 j hj (by omega)
 ·rcases h2 with ⟨h, _⟩ | ⟨h, h4, h3⟩
  ·exact absurd h ht
  ·exact .inr ⟨by omega, h4, h3⟩
set_option maxHeartbeats 4000000 in
theorem znr (v u : Value) (S : List (List Int)) (b : List Int) (R : List (List Int)) (hR : R = zkg S b) (lo hi : Nat) (w : World) (h : zax w lo hi v S) (hb : zg w lo hi u b) (hhi : hi <= w.heap.size) (hlo : lo <= w.heap.size) (hn : S.length <= 1048576) (hl : ∀ s ∈ S, s.length <= 1048576) (hbl : b.length <= 1048576) :
 Calls Tryz.prog 144 #[v, u] w fun e w' => ∃ A c, e = .returned (.slice A R.length c) /\ zax w' lo w'.heap.size (.slice A R.length c) R /\ Below w.heap.size w w' := by
 obtain ⟨i0, hi0, hz0, hz1, hz2⟩ := info_parts Tryz.infoIntS
 have H := Lib.hid h
 have HB := Lib.hid hb
 have HL := Lib.hid hl
 have HR := Lib.hid hR
 obtain ⟨A0, c0, rfl⟩ := h.form
 obtain ⟨Ab, cb, rfl⟩ := hb.form
 clear h hb hl hR
 go_enter Tryz.func144, Tryz.ntmps144
 go_wp2_with (fail)
 go_loopw [5, 6] (fun a i wr => ∃ k t : Nat, k <= S.length /\ i = .int .i64 k /\ a = .int .i64 t /\ t <= S.length /\ zfU S b k t /\ Below w.heap.size w wr) (fun _ i _ => S.length - (intOf i).toNat)
 case atStart => exact ⟨0, S.length, Nat.zero_le _, rfl, rfl, Nat.le_refl _, zfU.start _ _, Below.refl _ _⟩
 case round =>
  obtain ⟨k, t, hk, rfl, rfl, htn, hat, hbe⟩ := hrel
  by_cases hlt : k < S.length
  ·obtain ⟨g, A2, c2, rfl, hgl, k0, o2⟩ := (H.out.below hbe hhi).get hlt
   have hsz := hbe.size
   have hl2 := HL.out _ (List.getElem_mem hlt)
   have CR := Lib.hid (znq (.slice Ab b.length cb) (.slice A2 S[k].length c2) b S[k] wr ((HB.out.below hbe hhi).rd.more (by omega)) (o2.rd.more (by omega)) hbl hl2)
   have HA := Lib.hid hat
   have HBE := Lib.hid hbe
   obtain ⟨z, hz⟩ : ∃ z, z = zar b S[k] := ⟨_, rfl⟩
   rw [<- hz] at CR
   have HZ := Lib.hid hz
   clear hat hbe o2 hz
   rcases Int.lt_trichotomy z 0 with h0 | h0 | h0
   ·have z1 : (z == 0) = false := by simp; omega
    have z2 : decide (z < 0) = true := by simp; omega
    by_cases htS : t = S.length
    ·have t1 : ((t : Int) == (S.length : Int)) = true := by simp [htS]
     have HN := Lib.hid (show zfU S b (k + 1) k by have := HA.out; rw [htS] at this; exact this.here hlt (by rw [<- HZ.out]; exact h0))
     clear htS
     go_wp2_with (go_at_call 170; refine CR.out.mono ?_; rintro e w2 ⟨rfl, hb2⟩; have HB2 := Lib.hid (zf HBE.out hb2); clear hb2)
     go_roundw
     case rel => exact ⟨k + 1, k, by omega, by go_num, rfl, by omega, HN.out, HB2.out⟩
     case measure => simp [intOf]; omega
    ·have t1 : ((t : Int) == (S.length : Int)) = false := by simp; omega
     have HN := Lib.hid (HA.out.past hlt htS (by rw [<- HZ.out]; exact h0))
     go_wp2_with (go_at_call 170; refine CR.out.mono ?_; rintro e w2 ⟨rfl, hb2⟩; have HB2 := Lib.hid (zf HBE.out hb2); clear hb2)
     go_roundw
     case rel => exact ⟨k + 1, t, by omega, by go_num, rfl, by omega, HN.out, HB2.out⟩
     case measure => simp [intOf]; omega
   ·subst h0
    have HE := Lib.hid (show R = S by
     rw [HR.out]
     unfold zkg
     rw [if_pos]
     have e := zij HZ.out.symm
     exact e ▸ List.getElem_mem hlt)
    go_wp2_with (go_at_call 170; refine CR.out.mono ?_; rintro e w2 ⟨rfl, hb2⟩; have HB2 := Lib.hid (zf HBE.out hb2); clear hb2)
    go_ret
    rw [HE.out]
    exact ⟨_, _, rfl, (H.out.below HB2.out hhi).mono (Nat.le_refl _) (Nat.le_trans hhi HB2.out.size), HB2.out⟩
   ·have z1 : (z == 0) = false := by simp; omega
    have z2 : decide (z < 0) = false := by simp; omega
    have HN := Lib.hid (HA.out.more hlt (by rw [<- HZ.out]; exact h0))
    go_wp2_with (go_at_call 170; refine CR.out.mono ?_; rintro e w2 ⟨rfl, hb2⟩; have HB2 := Lib.hid (zf HBE.out hb2); clear hb2)
    go_roundw
    case rel => exact ⟨k + 1, t, by omega, by go_num, rfl, by omega, HN.out, HB2.out⟩
    case measure => simp [intOf]; omega
  ·rename World => w1
   have HE := Lib.hid (show b ∉ S /\ t = atB S b by
    have := hat
    rw [show k = S.length by omega] at this
    exact ⟨this.end_.1, this.end_.2.1⟩)
   have HBE := Lib.hid hbe
   have C0 := Lib.hid (zfS.empty (lo := lo) (Below.refl w1.heap.size w1))
   clear hat hbe
   go_wp2_with (fail)
   go_loopw [8, 9] (fun o i wr => ∃ (j : Nat) (A' : Option Addr) (c' : Nat) (av : List Value), j <= t /\ i = .int .i64 j /\ o = .slice A' (S.take j).length c' /\ zfS lo w1 wr (S.take j) A' c' av) (fun _ i _ => t - (intOf i).toNat)
   case atStart => exact ⟨0, _, 0, [], Nat.zero_le _, rfl, rfl, C0.out⟩
   case round =>
    obtain ⟨j, A', c', av, hj, rfl, rfl, hr'⟩ := hrel
    have hln : (S.take j).length <= 1048576 := by simp; omega
    by_cases hltj : j < t
    ·have hjS : j < S.length := by omega
     obtain ⟨g, A2, c2, rfl, hgl, k0, o2⟩ := (H.out.below (zf HBE.out hr'.below) hhi).get hjS
     have hszr := HBE.out.size
     have hsz := hr'.below.size
     have HO2 := Lib.hid (show zg wr lo wr.heap.size (.slice A2 S[j].length c2) S[j] from o2.mono (Nat.le_refl _) (by omega))
     have HP := Lib.hid hr'
     have HS := Lib.hid (zH S j hjS)
     obtain ⟨zs, hzs⟩ : ∃ zs, zs = S.take j := ⟨_, rfl⟩
     have HZ := Lib.hid hzs
     rw [<- hzs] at HP HS hln ⊢
     clear hr' o2 hzs
     go_wp2_with (at_builtin; refine wpList_append_lies _ rfl (.tmp 43) (.tmp 48) 136 rfl w1.heap.size 23 i0 (.slice none 0 0) 1 24 Tryz.underlying136 hi0 hz0 hz1 hz2 rfl (by decide) (.slice A' zs.length c') zs.length av rfl ?c1 ⟨_, 0, none⟩ 1 1 [.slice A2 S[j].length c2] rfl rfl (zeR _ _ _ _ (by simp)) ?c2 (by omega) (by unfold maxLen; omega) (by omega) ?c3 _ rfl ?_)
     case c1 => exact HP.out.row.alloc _
     case c2 => intro u hu; simp at hu; subst hu; rfl
     case c3 => have := HP.out.below.size; simp; omega
     intro g2 cap w4 hown hg _ _
     obtain ⟨hcol, hlen⟩ := HP.out.push HS.out (Below.refl _ _) HO2.out hg hown
     rw [hlen]
     have HC := Lib.hid hcol
     clear hcol hown hg
     go_wp2_with (fail)
     go_roundw
     case rel => exact ⟨j + 1, _, _, _, by omega, by go_num, rfl, HC.out⟩
     case measure => simp [intOf]; omega
    ·rename World => w2
     have htj : j = t := by omega
     subst htj
     have hszr := HBE.out.size
     have hsz := hr'.below.size
     have HP := Lib.hid hr'
     have HO2 := Lib.hid (show zg w2 lo w2.heap.size (.slice Ab b.length cb) b from (HB.out.below (zf HBE.out hr'.below) hhi).mono (Nat.le_refl _) (by omega))
     obtain ⟨zs, hzs⟩ : ∃ zs, zs = S.take j := ⟨_, rfl⟩
     have HZ := Lib.hid hzs
     rw [<- hzs] at HP hln ⊢
     clear hr' hzs
     go_wp2_with (at_builtin; refine wpList_append_lies _ rfl (.tmp 50) (.tmp 52) 136 rfl w1.heap.size 23 i0 (.slice none 0 0) 1 24 Tryz.underlying136 hi0 hz0 hz1 hz2 rfl (by decide) (.slice A' zs.length c') zs.length av rfl ?c1 ⟨_, 0, none⟩ 1 1 [.slice Ab b.length cb] rfl rfl (zeR _ _ _ _ (by simp)) ?c2 (by omega) (by unfold maxLen; omega) (by omega) ?c3 _ rfl ?_)
     case c1 => exact HP.out.row.alloc _
     case c2 => intro u hu; simp at hu; subst hu; rfl
     case c3 => have := HP.out.below.size; simp; omega
     intro g2 cap w4 hown hg _ _
     obtain ⟨hcol, hlen⟩ := HP.out.push rfl (Below.refl _ _) HO2.out hg hown
     rw [hlen]
     have HC := Lib.hid hcol
     obtain ⟨av2, hav2⟩ : ∃ av2, av2 = av ++ [Value.slice Ab b.length cb] := ⟨_, rfl⟩
     obtain ⟨ys, hys⟩ : ∃ ys, ys = zs ++ [b] := ⟨_, rfl⟩
     have HY := Lib.hid hys
     rw [<- hav2, <- hys] at HC
     rw [<- hys]
     clear hcol hown hg HP HO2 hav2 hys hlen
     go_wp2_with (fail)
     go_loopw [8, 10] (fun o i wr => ∃ (q : Nat) (A' : Option Addr) (c' : Nat) (av : List Value) (xs : List (List Int)), j <= q /\ q <= S.length /\ i = .int .i64 q /\ xs = ys ++ (S.take q).drop j /\ o = .slice A' xs.length c' /\ zfS lo w1 wr xs A' c' av) (fun _ i _ => S.length - (intOf i).toNat)
     case atStart => exact ⟨j, _, _, _, ys, Nat.le_refl _, by omega, rfl, by simp, rfl, HC.out⟩
     case round =>
      obtain ⟨q, A', c', av, xs, hjq, hq, rfl, hxs, rfl, hr'⟩ := hrel
      have hln2 : xs.length <= 1048577 := by rw [hxs, HY.out, HZ.out]; simp; omega
      have HX := Lib.hid hxs
      clear hxs
      by_cases hltq : q < S.length
      ·obtain ⟨g, A2, c2, rfl, hgl, k0, o2⟩ := (H.out.below (zf HBE.out hr'.below) hhi).get hltq
       have hszr := HBE.out.size
       have hsz := hr'.below.size
       have HO2 := Lib.hid (show zg wr lo wr.heap.size (.slice A2 S[q].length c2) S[q] from o2.mono (Nat.le_refl _) (by omega))
       have HP := Lib.hid hr'
       clear hr' o2
       go_wp2_with (at_builtin; refine wpList_append_lies _ rfl (.tmp 61) (.tmp 66) 136 rfl w1.heap.size 23 i0 (.slice none 0 0) 1 24 Tryz.underlying136 hi0 hz0 hz1 hz2 rfl (by decide) (.slice A' xs.length c') xs.length av rfl ?c1 ⟨_, 0, none⟩ 1 1 [.slice A2 S[q].length c2] rfl rfl (zeR _ _ _ _ (by simp)) ?c2 (by omega) (by unfold maxLen; omega) (by omega) ?c3 _ rfl ?_)
       case c1 => exact HP.out.row.alloc _
       case c2 => intro u hu; simp at hu; subst hu; rfl
       case c3 => have := HP.out.below.size; simp; omega
       intro g2 cap w4 hown hg _ _
       obtain ⟨hcol, hlen⟩ := HP.out.push rfl (Below.refl _ _) HO2.out hg hown
       rw [hlen]
       have HC := Lib.hid hcol
       clear hcol hown hg
       go_wp2_with (fail)
       go_roundw
       case rel => exact ⟨q + 1, _, _, _, xs ++ [S[q]], by omega, by omega, by go_num, by
        rw [HX.out, zH S q hltq, List.drop_append_of_le_length (by simp; omega), List.append_assoc], rfl, HC.out⟩
       case measure => simp [intOf]; omega
      ·have HP := Lib.hid hr'
       have HE2 := Lib.hid (show R = xs by
        rw [HR.out, HX.out, HY.out, HZ.out]
        unfold zkg
        rw [if_neg HE.out.1, <- HE.out.2, show q = S.length by omega, List.take_length, List.append_assoc]
        rfl)
       clear hr'
       go_wp2_with (fail)
       go_ret
       rw [HE2.out]
       exact ⟨_, _, rfl, HP.out.rows (by omega), zf HBE.out HP.out.below⟩
open Go.RowKit Go.Sort Go.Shelf
theorem zfT.drewN {w wr : World} {S : List (List Int)} {A : Option Addr} {c : Nat} (h : zfT w wr S A c) (n : Nat) : zfT w (wr.drewN n) S A c := h.later (zX (Below.refl _ _) n)
set_option maxHeartbeats 4000000 in
theorem zkn (lo hi V : Nat) (v0 v1 : Value) (S R : List (List Int)) (w : World) (h0 : RdW w lo v0 S) (h1 : zbc w lo hi v1 R) (hhi : hi <= w.heap.size) (hlo : lo <= w.heap.size)
 (hS : ∀ b ∈ S, zp b = true) (hR : ∀ b ∈ R, zp b = true) (hag : ∀ s ∈ S, ∀ r ∈ R, keyV V r = keyV V s -> ∀ u, u < 4 -> s.getD u (-1) = -1 \/ r.getD u (-1) = -1 \/ s.getD u (-1) = r.getD u (-1))
 (hnS : S.length <= 65536) (hnR : R.length <= 65536) :
 Calls Tryz.prog 163 #[v0, v1, .int .u32 ((maskW V : Nat) : Int)] w fun e w' =>
  ∃ A c R', R'.Perm R /\ e = .returned (.slice A (zcB V R' S).length c) /\ zbc w' w.heap.size w'.heap.size (.slice A (zcB V R' S).length c) (zcB V R' S) /\ zl lo hi w w' := by
 obtain ⟨i0, hi0, hz0, hz1, hz2⟩ := info_parts Tryz.infoWord
 have H0 := Lib.hid h0
 have HS := Lib.hid hS
 have HR := Lib.hid hR
 have HAG := Lib.hid hag
 obtain ⟨A0, c0, rfl, hc0, _⟩ := h0
 obtain ⟨A1, c1, rfl⟩ := h1.form
 obtain ⟨N, hN⟩ : ∃ N, N = R.length := ⟨_, rfl⟩
 rw [<- hN] at h1 hnR ⊢
 have H1 := Lib.hid h1
 have HN := Lib.hid hN
 clear hS hR hag h1 hN
 go_enter Tryz.func163, Tryz.ntmps163
 obtain ⟨w1, hw1⟩ : ∃ w1, w1 = w.alloc (Obj.cells #[Value.int IntKind.u32 ((maskW V : Nat) : Int)] 102) := ⟨_, rfl⟩
 have B1 : Below w.heap.size w w1 := by rw [hw1]; exact ze _ _
 have X1 : Blk w1 w.heap.size 102 #[.int .u32 ((maskW V : Nat) : Int)] := by rw [hw1]; exact Blk.new _ _ _
 have Z1 : w1.heap.size = w.heap.size + 1 := by rw [hw1]; simp
 have HSF := Lib.hid (zkS lo hi w.heap.size V (.slice A1 N c1) R w1 (H1.out.below B1 hhi) HR.out (by rw [<- HN.out]; omega) (.inr hhi) (X1.cell 0))
 rw [hw1] at HSF
 have HW1 := Lib.hid hw1
 clear hw1
 go_upto_region 3 with (go_at_call 180; refine HSF.out.mono ?_; rintro e w2 ⟨rfl, R', hp, hup, own2, only2⟩)
 rw [<- HW1.out] at only2
 have HL' := Lib.hid (show R'.length = N by rw [HN.out]; exact hp.length_eq)
 have hz : w1.heap.size <= w2.heap.size := only2.size
 have X2 : Blk w2 w.heap.size 102 #[.int .u32 ((maskW V : Nat) : Int)] := X1.only only2 (.inr hhi)
 have R0 : RdW w2 lo (.slice A0 S.length c0) S := by
  have := H0.out.below B1 hlo
  exact this.below (only2.below (Nat.le_refl _) (Nat.le_trans hlo B1.size)) (Nat.le_refl _)
 have HX2 := Lib.hid X2
 have HR0 := Lib.hid (R0.more (show lo <= w2.heap.size by omega))
 have HO2 := Lib.hid (own2.rd.more (show hi <= w2.heap.size by omega))
 have HUP := Lib.hid hup
 have HP := Lib.hid hp
 have HRR := Lib.hid (fun r (hr : r ∈ R') => HR.out r (hp.mem_iff.1 hr))
 have HON := Lib.hid (show zl lo hi w w2 from ⟨only2.os.trans B1.os, only2.tape.trans B1.tape, only2.output.trans B1.output, by omega, fun k hk ho => (only2.block k (by omega) ho).trans (B1.block k hk)⟩)
 clear X2 R0 own2 only2 hup hp HSF HW1 X1 B1
 go_wp2_with fail
 go_loopg [8, 19] S.length (fun q vo vi wr => ∃ (k : Nat) (A : Option Addr) (c : Nat), vi = .int .i64 k /\ k <= S.length /\ q = S.length - k /\ vo = .slice A (zcB V R' (S.take k)).length c /\ zfT w2 wr (zcB V R' (S.take k)) A c)
 case atStart => exact ⟨0, none, 0, rfl, Nat.zero_le _, rfl, rfl, zfT.nil (Below.refl _ _)⟩
 case round =>
  obtain ⟨k, A, c, rfl, hk, hq, rfl, hcol⟩ := hrel
  have HC := Lib.hid hcol
  have hB := hcol.below
  have q0 : wr.cell? ⟨w.heap.size, 0, none⟩ = some (.int .u32 ((maskW V : Nat) : Int)) := (HX2.out.below hB HX2.out.lt).cell 0
  have HBW := Lib.hid hB
  clear hcol hB
  by_cases hlt : k < S.length
  ·obtain ⟨b0, o0, rfl, hb0, k0⟩ := (HR0.out.on HBW.out).get hlt
   have hsk : S[k] ∈ S := List.getElem_mem hlt
   have HSE := Lib.hid (zjn (.slice A1 N c1) R' S[k] w.heap.size V wr (HO2.out.on HBW.out) HRR.out (HS.out _ hsk) HUP.out (by rw [HL'.out]; omega) q0)
   have HSO := Lib.hid (HS.out _ hsk)
   have HJT := Lib.hid (zmo (V := V) (R := R') hlt)
   have HJL := Lib.hid (zjN V R' (S.take k))
   obtain ⟨s, hs⟩ : ∃ s, s = S[k] := ⟨_, rfl⟩
   rw [<- hs] at k0 HSE HSO HJT
   have HSK := Lib.hid (show s ∈ S by rw [hs]; exact hsk)
   clear hs hsk
   go_upto_region 8 with (go_at_call 181; refine HSE.out.mono ?_; rintro e w3 ⟨⟨p, ok, rfl, hpn, hl, hf⟩, rfl⟩; rw [HL'.out] at hpn; have HLF := Lib.hid (And.intro hl hf); clear hl hf)
   obtain ⟨T0, hT0⟩ : ∃ T0, T0 = zcB V R' (S.take k) := ⟨_, rfl⟩
   rw [<- hT0] at HC HJT HJL ⊢
   have hT0l : T0.length <= 4294967296 := by
    have h1 := HJL.out
    have h2 : (S.take k).length * R'.length <= 65536 * 65536 := Nat.mul_le_mul (by simp; omega) (by rw [HL'.out]; exact hnR)
    omega
   have HQ := Lib.hid hq
   clear hT0 k0 hq HSE q0
   go_loopg [8, 11] N (fun q vo vi wx => ∃ (t : Nat) (T : List (List Int)) (A : Option Addr) (c : Nat), vi = .int .i64 t /\ p <= t /\ t <= N /\ N - t <= q /\ vo = .slice A T.length c /\ zfT w2 wx T A c /\ Hid (T = T0 ++ ((R'.drop p).take (t - p)).map (zfa s) /\ ∀ j (h : j < R'.length), p <= j -> j < t -> keyV V R'[j] = keyV V s))
   case atStart => exact ⟨p, T0, A, c, rfl, Nat.le_refl _, hpn, by omega, rfl, HC.out, by simp, fun j _ h1 h2 => absurd h1 (by omega)⟩
   case round =>
    obtain ⟨t, T, A2, c2, rfl, hpt, htN, hgk2, rfl, hcol2, HT⟩ := hrel
    have HC2 := Lib.hid hcol2
    have HB2 := Lib.hid hcol2.below
    have q0 : wr.cell? ⟨w.heap.size, 0, none⟩ = some (.int .u32 ((maskW V : Nat) : Int)) := (HX2.out.below HB2.out HX2.out.lt).cell 0
    clear hcol2
    by_cases htl : t < N
    ·have htR : t < R'.length := by have := HL'.out; omega
     obtain ⟨b1, o1, rfl, hb1, k1⟩ := (HO2.out.on HB2.out).get htR
     have hrR : R'[t] ∈ R' := List.getElem_mem htR
     have HRO := Lib.hid (HRR.out _ hrR)
     have HAG2 := Lib.hid (HAG.out s HSK.out R'[t] (HP.out.mem_iff.1 hrR))
     have HTK := Lib.hid (show ((R'.drop p).take (t + 1 - p)) = ((R'.drop p).take (t - p)) ++ [R'[t]] by
      rw [show t + 1 - p = (t - p) + 1 by omega, zH (R'.drop p) (t - p) (by simp; omega)]
      congr 2
      simp
      congr 1
      omega)
     obtain ⟨r, hr⟩ : ∃ r, r = R'[t] := ⟨_, rfl⟩
     have HRT := Lib.hid hr
     rw [<- hr] at k1 HRO HAG2 HTK
     clear hr hrR
     have e1 : bits .and .u32 ((encB r : Nat) : Int) ((maskW V : Nat) : Int) = ((keyV V r : Nat) : Int) := by rw [zc7 (zcP HRO.out) (zcJ V), zeB HRO.out]; rfl
     have e2 : bits .and .u32 ((encB s : Nat) : Int) ((maskW V : Nat) : Int) = ((keyV V s : Nat) : Int) := by rw [zc7 (zcP HSO.out) (zcJ V), zeB HSO.out]; rfl
     by_cases he : keyV V r = keyV V s
     ·have he2 : (((keyV V r : Nat) : Int) == ((keyV V s : Nat) : Int)) = true := by simp [he]
      have e3 : bits .or .u32 ((encB s : Nat) : Int) ((encB r : Nat) : Int) = ((encB (zfa s r) : Nat) : Int) := by rw [zhf (zcP HSO.out) (zcP HRO.out), zom HSO.out HRO.out (HAG2.out he)]
      have HE := Lib.hid he
      have hTl : T.length <= T0.length + N := by
       rw [HT.out.1, List.length_append, List.length_map]
       have : ((R'.drop p).take (t - p)).length <= N := by rw [List.length_take, List.length_drop, HL'.out]; omega
       omega
      clear he
      go_wp2_with fail
      go_big_quiet (fail)
      go_wp2_with (at_builtin; refine wpList_append_lies _ rfl (.tmp 48) (.tmp 55) 97 rfl w2.heap.size 102 i0 (.int .u32 0) 1 4 Tryz.underlying97 hi0 hz0 hz1 hz2 rfl (by decide) (.slice A2 T.length c2) T.length (T.map wd) rfl ?c1 ⟨_, 0, none⟩ 1 1 [wd (zfa s r)] rfl rfl (zeR _ _ _ _ (by simp)) ?c2 (by omega) (by unfold maxLen; omega) (by omega) ?c3 _ rfl ?_)
      case c1 => exact (HC2.out.drewN nq).own.1.alloc _
      case c2 => intro u hu; simp at hu; subst hu; rfl
      case c3 => have := HB2.out.size; simp; omega
      intro g cap w4 hown hg _ _
      have hcolN := (HC2.out.drewN nq).push (Below.refl _ _) hg hown
      have HCN := Lib.hid hcolN
      have hlen : T.length + 1 = (T ++ [zfa s r]).length := by simp
      rw [hlen]
      clear hcolN hown hg hlen
      go_wp2_with fail
      go_roundg (N - (t + 1))
      case measure => omega
      case rel => exact ⟨t + 1, T ++ [zfa s r], _, _, by go_num, by omega, by omega, Nat.le_refl _, rfl, HCN.out, by rw [HTK.out, List.map_append, <- List.append_assoc, <- HT.out.1]; rfl, fun j h h1 h2 => by
       by_cases ej : j = t
       ·subst ej
        rw [<- HRT.out]
        exact HE.out
       ·exact HT.out.2 j h h1 (by omega)⟩
     ·have he2 : (((keyV V r : Nat) : Int) == ((keyV V s : Nat) : Int)) = false := by simp; omega
      have HFIN := Lib.hid (show zcB V R' (S.take (k + 1)) = T by
       rw [HJT.out, HT.out.1, zmN HUP.out hpt (by omega) HLF.out.1 HLF.out.2 HT.out.2 (fun _ => by rw [<- HRT.out]; exact he)])
      clear he
      go_wp2_with fail
      go_big_quiet (fail)
      go_wp2_with fail
      go_roundg (S.length - (k + 1))
      case measure => (have := HQ.out; omega)
      case rel => exact ⟨k + 1, _, _, by go_num, by omega, rfl, by rw [HFIN.out], by rw [HFIN.out]; exact HC2.out.drewN nq⟩
    ·have HFIN := Lib.hid (show zcB V R' (S.take (k + 1)) = T by
      rw [HJT.out, HT.out.1, zmN HUP.out hpt (by have := HL'.out; omega) HLF.out.1 HLF.out.2 HT.out.2 (fun h => absurd h (by have := HL'.out; omega))])
     have htlz : decide ((t : Int) < (N : Int)) = false := decide_eq_false (by omega)
     go_wp2_with fail
     go_big_quiet (fail)
     go_wp2_with fail
     go_roundg (S.length - (k + 1))
     case measure => (have := HQ.out; omega)
     case rel => exact ⟨k + 1, _, _, by go_num, by omega, rfl, by rw [HFIN.out], by rw [HFIN.out]; exact HC2.out.drewN nq⟩
  ·have HFIN := Lib.hid (show S.take k = S from List.take_of_length_le (by omega))
   have HF2 := Lib.hid (show zl lo hi w wr from HON.out.trans (zl.of_below HBW.out))
   go_wp2_with fail
   go_ret
   refine ⟨A, c, R', HP.out, ?_, ?_, HF2.out⟩
   ·rw [HFIN.out]
    rfl
   ·have := HC.out.own
    rw [HFIN.out] at this
    exact this.mono (by omega) (Nat.le_refl _)
open Go.RowKit
theorem znm (V M : Nat) : maskW V &&& maskW M = maskW (V &&& M) := by
 have key : ∀ a b : Bool, zfF a &&& zfF b = zfF (a && b) := by decide
 unfold maskW
 rw [zfM (zbC _) (zbC _), zfM (zbC _) (zbC _), zfM (zbC _) (zbC _), key, key, key, key, Nat.testBit_and, Nat.testBit_and, Nat.testBit_and, Nat.testBit_and]
theorem zmQ {K M : Nat} (_hK : K < 16) (hM : M < 16) (h : ∀ v, v < 4 -> M.testBit v = true -> K.testBit v = true) : K ||| M = K := by
 apply Nat.eq_of_testBit_eq
 intro i
 rw [Nat.testBit_or]
 by_cases hi : i < 4
 ·cases hm : M.testBit i
  ·rw [Bool.or_false]
  ·rw [h i hi hm]; rfl
 ·have : M < 2 ^ i := Nat.lt_of_lt_of_le hM (by
   have := Nat.pow_le_pow_right (n := 2) (by decide) (show 4 <= i by omega)
   simpa using this)
  rw [Nat.testBit_lt_two_pow this, Bool.or_false]
def zmI (w : World) (B : Nat) (u0 u1 u2 u3 : Value) (q : LQ) : Prop := u0 = .int .i64 q.1.1 /\ u1 = .int .i64 q.1.2.1 /\ zv w B u2 q.1.2.2 /\ zu w B u3 q.2
structure QOk (q : LQ) : Prop where
 kind : q.1.1 = 0 \/ q.1.1 = 1 \/ q.1.1 = 2 \/ q.1.1 = 3
 terms : q.1.2.2.all zz = true
 consts : ∀ f ∈ q.2, f.2.all zt = true
 args : q.1.2.2.length <= 1048576
 len : q.2.length <= 1048576
 tot : tot q.2 <= 1048576
set_option maxHeartbeats 4000000 in
theorem zoY (lo hi K : Nat) (u0 u1 u2 u3 v : Value) (q : LQ) (Q : List LQ) (S : List (List Int)) (w : World) (hq : zmI w lo u0 u1 u2 u3 q) (hok : QOk q) (hs : zbc w lo hi v S) (hhi : hi <= w.heap.size) (hlo : lo <= hi) (hS : zfc K Q S) (hne : S ≠ []) (hK : K < 16)
 (hv : q.1.1 ≠ 0 -> ∀ v, v < 4 -> (maskOf q.1.2.2).testBit v = true -> K.testBit v = true) :
 Calls Tryz.prog 135 #[.agg #[u0, u1, u2, u3], v, .int .u64 (K : Nat)] w fun e w' =>
  ∃ A c S', e = .returned (.slice A S'.length c) /\ zbc w' lo w'.heap.size (.slice A S'.length c) S' /\ zl lo hi w w' /\ zfc (K ||| maskOf q.1.2.2) (q :: Q) S' := by
 obtain ⟨rfl, rfl, hu2, hu3⟩ := hq
 have H2 := Lib.hid (hu2.more (show lo <= w.heap.size by omega))
 have H3 := Lib.hid (hu3.more (show lo <= w.heap.size by omega))
 have HL := Lib.hid hu2
 have HOK := Lib.hid hok
 have HS := Lib.hid hS
 have HOW := Lib.hid hs
 obtain ⟨A2, c2, rfl, hc2, _⟩ := hu2
 obtain ⟨A3, c3, rfl, hc3, _⟩ := hu3
 have hSok : ∀ b ∈ S, zp b = true := fun b hb => ((hS.mem b).1 hb).1
 have HSO := Lib.hid hSok
 have hnS := zce hS.nodup hSok
 have hkd := hok.kind
 obtain ⟨A0, c0, rfl⟩ := hs.form
 obtain ⟨w1, hw1⟩ : ∃ w1, w1 = w.alloc (Obj.cells #[Value.int IntKind.i64 q.1.1, Value.int IntKind.i64 q.1.2.1, Value.slice A2 q.1.2.2.length c2, Value.slice A3 q.2.length c3] 135) := ⟨_, rfl⟩
 have B1 : Below w.heap.size w w1 := by rw [hw1]; exact ze _ _
 have X1 : Blk w1 w.heap.size 135 #[.int .i64 q.1.1, .int .i64 q.1.2.1, .slice A2 q.1.2.2.length c2, .slice A3 q.2.length c3] := by rw [hw1]; exact Blk.new _ _ _
 have Z1 : w1.heap.size = w.heap.size + 1 := by rw [hw1]; simp
 have HAV := Lib.hid (zcD (.slice A2 q.1.2.2.length c2) q.1.2.2 w1.heap.size w1 (H2.out.on B1) hok.args)
 have hM := zbr q.1.2.2
 have HBM := Lib.hid (fun W => ze6 (maskOf q.1.2.2) hM W)
 have HBK := Lib.hid (fun W => ze6 K hK W)
 have HAR := Lib.hid (zkF (.slice A3 q.2.length c3) (.agg #[.int .i64 q.1.2.1, .slice A2 q.1.2.2.length c2]) q.2 q.1.2 w1 (H3.out.on B1) ⟨_, rfl, H2.out.on B1⟩ hok.terms hok.consts hok.len hok.tot hok.args)
 have HX := Lib.hid (And.intro B1 X1)
 have q0 : w1.cell? ⟨w.heap.size, 0, none⟩ = some (.int .i64 q.1.1) := X1.cell 0
 have q1 : w1.cell? ⟨w.heap.size, 1, none⟩ = some (.int .i64 q.1.2.1) := X1.cell 1
 have q2 : w1.cell? ⟨w.heap.size, 2, none⟩ = some (.slice A2 q.1.2.2.length c2) := X1.cell 2
 have q3 : w1.cell? ⟨w.heap.size, 3, none⟩ = some (.slice A3 q.2.length c3) := X1.cell 3
 have hlt1 : w.heap.size < w1.heap.size := by omega
 have hand : bits .and .u32 ((maskW (maskOf q.1.2.2) : Nat) : Int) ((maskW K : Nat) : Int) = ((maskW (maskOf q.1.2.2 &&& K) : Nat) : Int) := by rw [zc7 (zcJ _) (zcJ _), znm]
 have HV := Lib.hid hv
 clear hs hS hok hv X1 B1 hSok
 rw [hw1] at HAV HAR q0 q1 q2 q3
 have HW1 := Lib.hid hw1
 clear hw1
 rcases hkd with hk | hk | hk | hk
 ·rw [hk] at HAV HAR HX HW1 q0 q1 q2 q3 ⊢
  have HK := Lib.hid hk
  clear hk
  go_enter Tryz.func135, Tryz.ntmps135
  go_upto_region 4 with (first
   | (go_at_call 136; refine HAV.out.mono ?_; rintro e w' ⟨rfl, rfl⟩)
   | (go_at_call 162; refine (HBM.out _).mono ?_; rintro e w' ⟨rfl, rfl⟩))
  go_wp2_with (first
   | (go_at_call 162; refine (HBK.out _).mono ?_; rintro e w' ⟨rfl, rfl⟩)
   | (go_at_call 164; refine HAR.out.mono ?_; rintro e w2 ⟨A4, c4, R, rfl, ownR, hb2, hup, hmem⟩
      rw [<- HW1.out] at ownR hb2
      have HB2 := Lib.hid hb2
      have HRO := Lib.hid (zjG HOK.out.terms HOK.out.consts hup hmem)
      have hRok : ∀ b ∈ R, zp b = true := fun b hb => ((HRO.out.2 b).1 hb).1
      have HJ := Lib.hid (zkn w1.heap.size w2.heap.size (maskOf q.1.2.2 &&& K) (.slice A0 S.length c0) (.slice A4 R.length c4) S R w2 ((HOW.out.rd.below (zf HX.out.1 hb2) hhi).more (by omega)) ownR (Nat.le_refl _) hb2.size HSO.out hRok
       (fun s hs r hr hkey => zg7 (HSO.out s hs) (hRok r hr) ((HS.out.mem s).1 hs).2.1 ((HRO.out.2 r).1 hr).2.1 hkey) hnS (zce HRO.out.1 hRok))
      clear ownR hb2 hup hmem hRok)
   | (go_at_call 163; refine HJ.out.mono ?_; rintro e w3 ⟨A5, c5, R', hp, rfl, own5, only5⟩
      have H5 := Lib.hid (And.intro hp (And.intro own5 only5)); clear hp own5 only5))
  go_ret
  obtain ⟨hp, own5, only5⟩ := H5.out
  have hz2 := HB2.out.size
  refine ⟨_, _, _, rfl, own5.mono (by omega) (Nat.le_refl _), zl.of_below (zl.then_ (zf HX.out.1 HB2.out) only5 (by omega)), HS.out.yes HK.out HOK.out.terms (HRO.out.perm hp)⟩
 ·rw [hk] at HAV HAR HX HW1 q0 q1 q2 q3 ⊢
  have HK := Lib.hid hk
  clear hk
  go_enter Tryz.func135, Tryz.ntmps135
  go_upto_region 6 with (first
   | (go_at_call 136; refine HAV.out.mono ?_; rintro e w' ⟨rfl, rfl⟩)
   | (go_at_call 162; refine (HBM.out _).mono ?_; rintro e w' ⟨rfl, rfl⟩))
  go_wp2_with (first
   | (go_at_call 164; refine HAR.out.mono ?_; rintro e w2 ⟨A4, c4, R, rfl, ownR, hb2, hup, hmem⟩
      rw [<- HW1.out] at ownR hb2
      have HB2 := Lib.hid hb2
      have HRO := Lib.hid (zjG HOK.out.terms HOK.out.consts hup hmem)
      have hRok : ∀ b ∈ R, zp b = true := fun b hb => ((HRO.out.2 b).1 hb).1
      have hnR := zce HRO.out.1 hRok
      have HJ := Lib.hid (zkx lo hi (maskOf q.1.2.2) (.slice A0 S.length c0) (.slice A4 R.length c4) S R w2 (HOW.out.below (zf HX.out.1 hb2) hhi) w1.heap.size w2.heap.size ownR (by omega) (Nat.le_refl _) (by have := hb2.size; omega) HSO.out hne hup (by omega) (by omega))
      clear ownR hb2 hup hmem hRok hnR)
   | (go_at_call 165; refine HJ.out.mono ?_; rintro e w3 ⟨A5, c5, rfl, own5, only5⟩
      have H5 := Lib.hid (And.intro own5 only5); clear own5 only5))
  go_ret
  obtain ⟨own5, only5⟩ := H5.out
  have hz2 := HB2.out.size
  have hv := HV.out (by rw [HK.out]; decide)
  refine ⟨_, _, _, rfl, own5.mono (Nat.le_refl _) (by have := only5.size; omega), (zl.of_below (zf HX.out.1 HB2.out)).trans only5, ?_⟩
  rw [zmQ hK hM hv]
  exact HS.out.keep HOK.out.terms hv _ (zoW HS.out HK.out HOK.out.terms hv HRO.out)
 all_goals
  have hv := HV.out (by rw [hk]; decide)
  have HJ := Lib.hid (zhp lo hi (.slice A0 S.length c0) (.agg #[.int .i64 q.1.1, .int .i64 q.1.2.1, .slice A2 q.1.2.2.length c2]) S q.1 w1 (HOW.out.below HX.out.1 hhi) (by omega) ⟨_, rfl, HL.out.below HX.out.1 (by omega)⟩ (by omega) (by omega) HOK.out.terms HSO.out hne (by omega) HOK.out.args _ rfl)
  have HK := Lib.hid hk
  rw [HW1.out] at HJ
  rw [hk] at HAV HAR HX HW1 HJ q0 q1 q2 q3 ⊢
  clear hk
  go_enter Tryz.func135, Tryz.ntmps135
  go_upto_region 7 with (first
   | (go_at_call 136; refine HAV.out.mono ?_; rintro e w' ⟨rfl, rfl⟩)
   | (go_at_call 162; refine (HBM.out _).mono ?_; rintro e w' ⟨rfl, rfl⟩))
  go_wp2_with (go_at_call 166; refine HJ.out.mono ?_; rintro e w3 ⟨A5, c5, rfl, own5, only5⟩; rw [<- HW1.out] at only5; have H5 := Lib.hid (And.intro own5 only5); clear own5 only5)
  go_ret
  obtain ⟨own5, only5⟩ := H5.out
  refine ⟨_, _, _, rfl, own5.mono (Nat.le_refl _) (by have := only5.size; omega), (zl.of_below HX.out.1).trans only5, ?_⟩
  rw [zmQ hK hM hv]
  refine HS.out.keep HOK.out.terms hv _ fun b _ => ?_
  unfold zbR zM
  rw [if_pos (by have := HK.out; omega)]
  simp only [HK.out, List.getD_eq_getElem?_getD]
end Go.Proofs.YtofkcmihcgmmpaaGreatDoor
