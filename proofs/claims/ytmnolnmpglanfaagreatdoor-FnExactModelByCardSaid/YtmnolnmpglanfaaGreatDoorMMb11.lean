/-
  Texts that the claim's last one imports, laid together: part 11 of 15. No condition of its own.
-/
import Derived.Shelf.Slices.Clone
import Derived.Test.YtmnolnmpglanfaaGreatDoorChecked
import Derived.Shelf.Sort.Plain
import Derived.Shelf.Slices.CompactI
import Derived.Shelf.Slices.In.SortNone
import Derived.Test.YtmnolnmpglanfaaGreatDoorMMb1
import Derived.Test.YtmnolnmpglanfaaGreatDoorMMb2
import Derived.Test.YtmnolnmpglanfaaGreatDoorMMb3
import Derived.Test.YtmnolnmpglanfaaGreatDoorMMb4
import Derived.Test.YtmnolnmpglanfaaGreatDoorMMb8
import Derived.Test.YtmnolnmpglanfaaGreatDoorMMb9
import Derived.Test.YtmnolnmpglanfaaGreatDoorMMb10
namespace Go.Proofs.YtmnolnmpglanfaaGreatDoor
open Go.RowKit
def OwnProg (w : World) (lo hi : Nat) (v : Value) (p : LProg) : Prop := ∃ a b, v = .agg #[a, b] /\ OwnInts w lo hi a p.1 /\ OwnRules w lo hi b p.2
theorem RdProg.more {w : World} {B B' : Nat} {v : Value} {p : LProg} (h : RdProg w B v p) (hB : B <= B') : RdProg w B' v p := by
 obtain ⟨a, b, rfl, h1, h2⟩ := h
 exact ⟨a, b, rfl, h1.more hB, h2.more hB⟩
theorem OwnProg.below {w w' : World} {lo hi B : Nat} {v : Value} {p : LProg} (h : OwnProg w lo hi v p) (hb : Below B w w') (hB : hi <= B) : OwnProg w' lo hi v p := by
 obtain ⟨a, b, rfl, h1, h2⟩ := h
 exact ⟨a, b, rfl, h1.below hb hB, h2.below hb hB⟩
theorem OwnProg.only {w w' : World} {lo hi lo' hi' : Nat} {v : Value} {p : LProg} (h : OwnProg w lo hi v p) (ho : Only lo' hi' w w') (hd : hi <= lo' \/ hi' <= lo) (hh : hi <= w.heap.size) : OwnProg w' lo hi v p := by
 obtain ⟨a, b, rfl, h1, h2⟩ := h
 exact ⟨a, b, rfl, h1.only ho hd, h2.keep fun g h3 h4 => ho.block g (by omega) (by omega)⟩
theorem OwnProg.rd {w : World} {lo hi : Nat} {v : Value} {p : LProg} (h : OwnProg w lo hi v p) : RdProg w hi v p := by
 obtain ⟨a, b, rfl, h1, h2⟩ := h
 exact ⟨a, b, rfl, h1.rd, h2.rd⟩
theorem toProgram_own (v : Value) (p : LProg) (w : World) (h : RdProg w w.heap.size v p) (hn : szP p <= 1048576) :
 Calls Tryz.prog 15 #[v] w fun e w' => ∃ A c A2 c2, e = .returned (.agg #[.slice A p.1.length c, .slice A2 p.2.length c2]) /\ OwnProg w' w.heap.size w'.heap.size (.agg #[.slice A p.1.length c, .slice A2 p.2.length c2]) p /\ Below w.heap.size w w' :=
 (toProgram_any v p w h hn).mono fun _ _ ⟨A, c, A2, c2, he, h1, h2, hb⟩ => ⟨A, c, A2, c2, he, ⟨_, _, rfl, h1, h2⟩, hb⟩
theorem us_prog {v : Value} {p : LProg} {left : Int} {w : World} (h : RdProg w w.heap.size v p) (h0 : 0 <= left) (hl : left <= 1048576) (hn : progLens p) :
 Calls Tryz.prog 12 #[v, .int .i64 left] w fun e w' => ∃ z, e = .returned (.int .i64 z) /\ (z = -1 \/ (0 <= z /\ z + szP p = left)) /\ Below w.heap.size w w' :=
 szProgram_any v p left w h h0 hl hn
theorem um_prog {v : Value} {p : LProg} {lo hi : Nat} {w : World} (k : Int) (h : OwnProg w lo hi v p) (hk0 : 0 <= k) (hk : k <= 1048576) (hs : szP p <= 1048576) :
 Calls Tryz.prog 20 #[v, .int .i64 k] w fun e w' => ∃ z, e = .returned (.int .i64 z) /\ k <= z /\ z <= k + 2 * (szP p : Int) /\ True /\ Only lo hi w w' := by
 obtain ⟨a, b, rfl, h1, h2⟩ := h
 exact (wmarkProgram_le a b p k lo hi w h1.wr h2.wr hk0 hk hs).mono fun _ _ ⟨z, he, hz, hm⟩ => ⟨z, he, hz.1, hz.2, trivial, hm.only⟩
open Go.RowKit
structure GridAt (w : World) (g n : Nat) (T : Nat -> Nat -> Nat) : Prop where
 heads : w.rowIs g 22 n (fun i => .slice (some ⟨g + 1 + i, 0, none⟩) n n)
 rows : ∀ i, i < n -> w.rowIs (g + 1 + i) 3 n (fun k => .int .i64 ((T i k : Nat) : Int))
section
variable {w w' : World} {g n lo hi B : Nat} {T T' : Nat -> Nat -> Nat}
theorem GridAt.cell (h : GridAt w g n T) {i k : Nat} (hi : i < n) (hk : k < n) : w.cell? ⟨g + 1 + i, k, none⟩ = some (.int .i64 ((T i k : Nat) : Int)) := (h.rows i hi).cell hk
theorem GridAt.head (h : GridAt w g n T) {i : Nat} (hi : i < n) : w.cell? ⟨g, i, none⟩ = some (.slice (some ⟨g + 1 + i, 0, none⟩) n n) := h.heads.cell hi
theorem GridAt.below (h : GridAt w g n T) (hb : Below B w w') (hg : g + 1 + n <= B) : GridAt w' g n T :=
 ⟨h.heads.of_block (hb.block g (by omega)), fun i hi => (h.rows i hi).of_block (hb.block _ (by omega))⟩
theorem GridAt.drewn (h : GridAt w g n T) : GridAt w.drew g n T := ⟨h.heads, h.rows⟩
theorem GridAt.set (h : GridAt w g n T) {i k x : Nat} (hi : i < n) (hT : ∀ a b, T' a b = if a = i /\ b = k then x else T a b) : GridAt (w.setCell ⟨g + 1 + i, k, none⟩ (.int .i64 ((x : Nat) : Int))) g n T' := by
 refine ⟨h.heads.setOther (by show g ≠ g + 1 + i; omega) _, fun j hj => ?_⟩
 by_cases e : j = i
 ·subst e
  refine ((h.rows j hj).set k (.int .i64 ((x : Nat) : Int))).congr fun b _ => ?_
  rw [hT]
  by_cases e2 : b = k <;> simp [e2]
 ·refine ((h.rows j hj).setOther (by show g + 1 + j ≠ g + 1 + i; omega) _).congr fun b _ => ?_
  rw [hT, if_neg (fun h => e h.1)]
theorem GridAt.congr (h : GridAt w g n T) (e : ∀ i k, i < n -> k < n -> T i k = T' i k) : GridAt w g n T' := ⟨h.heads, fun i hi => (h.rows i hi).congr fun k hk => by rw [e i k hi hk]⟩
theorem GridAt.lt (h : GridAt w g n T) : g < w.heap.size := h.heads.lt
end
set_option maxHeartbeats 4000000 in
set_option maxRecDepth 100000 in
theorem l5Links_any (v : Value) (p : LProg) (w : World) (h : RdProg w w.heap.size v p) (hs : szP p <= 1048576) (hn : p.1.length <= 24) (hf : ∀ x ∈ asksOf p.2, AskFits p.1.length x) :
 Calls Tryz.prog 118 #[v] w fun e w' => ∃ g, e = .returned (.slice (some ⟨g, 0, none⟩) p.1.length p.1.length) /\ GridAt w' g p.1.length (cellV (asksOf p.2)) /\ w.heap.size <= g /\ g + 1 + p.1.length <= w'.heap.size /\ Below w.heap.size w w' := by
 have HP := Lib.hid h
 have HF := Lib.hid hf
 have hs' := hs
 unfold szP at hs'
 have HBL := Lib.hid (show ∀ r ∈ p.2, r.2.length <= 1048576 from fun r hr => by
  obtain ⟨k, hk, rfl⟩ := List.getElem_of_mem hr
  have := sz_le_totR p.2 k hk
  unfold szR at this
  omega)
 obtain ⟨a, b, rfl, hA, hR⟩ := h
 have HR := Lib.hid hR
 obtain ⟨A, c, rfl, hcA, _⟩ := hA
 obtain ⟨A2, c2, rfl, hcR, _⟩ := hR
 have hmk1 := fun W => run_make_row' (P := Tryz.prog) 165 22 (.slice none 0 0) 24 Tryz.underlying165 Tryz.infoIntS rfl .i64 .i64 p.1.length (by omega) (by omega) W
 have hmk2 := fun W => run_make_row' (P := Tryz.prog) 22 3 (.int .i64 0) 8 Tryz.underlying22 Tryz.infoInt rfl .i64 .i64 p.1.length (by omega) (by omega) W
 clear hf
 obtain ⟨n, hne⟩ : ∃ n, n = p.1.length := ⟨_, rfl⟩
 rw [<- hne] at hmk1 hmk2 hn HF hs' hcA ⊢
 obtain ⟨rs, hrs⟩ : ∃ rs, rs = p.2 := ⟨_, rfl⟩
 rw [<- hrs] at HF HBL HR hs' hcR ⊢
 clear hne hrs
 go_enter Tryz.func118, Tryz.ntmps118
 go_upto_region 1 with fail
 obtain ⟨w1, hw1⟩ : ∃ w1, w1 = w.alloc (Obj.cells #[Value.slice A n c, Value.slice A2 rs.length c2] 34) := ⟨_, rfl⟩
 have X1 : Blk w1 w.heap.size 34 #[.slice A n c, .slice A2 rs.length c2] := by rw [hw1]; exact Blk.new _ _ _
 have B1 : Below w.heap.size w w1 := by rw [hw1]; exact below1 _ _
 have hs1 : w1.heap.size = w.heap.size + 1 := by rw [hw1]; simp
 rw [<- hw1]
 have x0 : w1.cell? ⟨w.heap.size, 0, none⟩ = some (.slice A n c) := X1.cell 0
 clear hw1
 go_upto_region 2 with fail
 obtain ⟨g, hg⟩ : ∃ g, g = w.heap.size + 1 := ⟨_, rfl⟩
 obtain ⟨w2, hw2⟩ : ∃ w2, w2 = w1.alloc (Obj.cells (madeCells #[Value.slice none 0 0] n) 22) := ⟨_, rfl⟩
 have R2 : w2.rowIs g 22 n (fun _ => .slice none 0 0) := by rw [hw2, hg, <- hs1]; exact World.rowIs_made _ _ _ _
 have B2 : Below w.heap.size w w2 := by rw [hw2]; exact bthen B1 (below1 _ _)
 have hs2 : w2.heap.size = g + 1 := by rw [hw2, hg]; simp [hs1]
 have X2 : Blk w2 w.heap.size 34 #[.slice A n c, .slice A2 rs.length c2] := by rw [hw2]; exact X1.alloc _
 rw [<- hw2, show w.heap.size + 1 = g from hg.symm]
 have hgw : w.heap.size < g := by omega
 have HS2 := Lib.hid hs2
 have HR2 := Lib.hid R2
 have HX2 := Lib.hid X2
 have HB2 := Lib.hid B2
 clear hw2 hg hs1 R2 X2 B2 X1 B1 hs2 hmk1 x0
 go_wp2_with fail
 go_loopw [4] (fun i wr => ∃ k : Nat, k <= n /\ i = .int .i64 k /\ wr.rowIs g 22 n (fun j => if j < k then .slice (some ⟨g + 1 + j, 0, none⟩) n n else .slice none 0 0) /\ (∀ j, j < k -> wr.rowIs (g + 1 + j) 3 n (fun _ => .int .i64 0)) /\ wr.heap.size = g + 1 + k /\ Below w.heap.size w wr /\ Blk wr w.heap.size 34 #[.slice A n c, .slice A2 rs.length c2]) (fun i _ => n - (intOf i).toNat)
 case atStart => exact ⟨0, Nat.zero_le _, rfl, HR2.out.congr (fun j _ => by simp), fun j h => absurd h (Nat.not_lt_zero _), HS2.out, HB2.out, HX2.out⟩
 case round =>
  obtain ⟨k, hk, rfl, hr, hrows, hsz, hbe, hX⟩ := hrel
  have q0 : wr.cell? ⟨w.heap.size, 0, none⟩ = some (.slice A n c) := hX.cell 0
  by_cases hlt : k < n
  ·have hck := hr.cell hlt
   rw [if_neg (Nat.lt_irrefl k)] at hck
   have hfk := hr.frozen k
   have hck3 : (wr.alloc (Obj.cells (madeCells #[Value.int .i64 0] n) 3)).cell? ⟨g, k, none⟩ = some (.slice none 0 0) := ((below1 wr _).cell (p := ⟨g, k, none⟩) (by show g < _; omega)).trans hck
   have hfk3 : (wr.alloc (Obj.cells (madeCells #[Value.int .i64 0] n) 3)).frozen? ⟨g, k, none⟩ = false := (hr.alloc _).frozen k
   have HN := Lib.hid (show ((wr.alloc (Obj.cells (madeCells #[Value.int .i64 0] n) 3)).setCell ⟨g, k, none⟩ (.slice (some ⟨g + 1 + k, 0, none⟩) n n)).rowIs g 22 n (fun j => if j < k + 1 then .slice (some ⟨g + 1 + j, 0, none⟩) n n else .slice none 0 0) /\ (∀ j, j < k + 1 -> ((wr.alloc (Obj.cells (madeCells #[Value.int .i64 0] n) 3)).setCell ⟨g, k, none⟩ (.slice (some ⟨g + 1 + k, 0, none⟩) n n)).rowIs (g + 1 + j) 3 n (fun _ => .int .i64 0)) /\ ((wr.alloc (Obj.cells (madeCells #[Value.int .i64 0] n) 3)).setCell ⟨g, k, none⟩ (.slice (some ⟨g + 1 + k, 0, none⟩) n n)).heap.size = g + 1 + (k + 1) /\ Below w.heap.size w ((wr.alloc (Obj.cells (madeCells #[Value.int .i64 0] n) 3)).setCell ⟨g, k, none⟩ (.slice (some ⟨g + 1 + k, 0, none⟩) n n)) /\ Blk ((wr.alloc (Obj.cells (madeCells #[Value.int .i64 0] n) 3)).setCell ⟨g, k, none⟩ (.slice (some ⟨g + 1 + k, 0, none⟩) n n)) w.heap.size 34 #[.slice A n c, .slice A2 rs.length c2] from by
    refine ⟨((hr.alloc _).set k _).congr fun j hj => ?_, fun j hj => ?_, by simp [hsz]; omega, (hbe.alloc hbe.size _).setCell (by show w.heap.size <= g; omega) _, (hX.alloc _).far (by show w.heap.size ≠ g; omega) _⟩
    ·by_cases e : j = k
     ·subst e
      simp
     ·rw [if_neg e]
      by_cases e2 : j < k
      ·rw [if_pos e2, if_pos (by omega)]
      ·rw [if_neg e2, if_neg (by omega)]
    ·by_cases e : j = k
     ·subst e
      have h1 := World.rowIs_made wr (.int .i64 0) n 3
      rw [hsz] at h1
      exact h1.setOther (by show g + 1 + j ≠ g; omega) _
     ·exact ((hrows j (by omega)).alloc _).setOther (by show g + 1 + j ≠ g; omega) _)
   have hwsz : wr.heap.size = g + 1 + k := hsz
   clear hr hrows hbe hX hck hfk
   go_wp2_with fail
   go_roundw
   case rel => exact ⟨k + 1, by omega, by go_num, HN.out⟩
   case measure => simp [intOf]; omega
  ·have HG := Lib.hid (show GridAt wr g n (cellV []) /\ wr.heap.size = g + 1 + n /\ Below w.heap.size w wr /\ Blk wr w.heap.size 34 #[.slice A n c, .slice A2 rs.length c2] from by
    obtain rfl : k = n := by omega
    exact ⟨⟨hr.congr fun j hj => by rw [if_pos hj], fun j hj => hrows j hj⟩, hsz, hbe, hX⟩)
   clear hr hrows hbe hX hsz q0
   go_upto_region 6 with fail
   obtain ⟨G3, hsz3, BW3, X3⟩ := HG.out
   obtain ⟨w3, rfl⟩ : ∃ w3, w3 = wr := ⟨_, rfl⟩
   have HX3 := Lib.hid X3
   have HBW3 := Lib.hid BW3
   have HSZ3 := Lib.hid hsz3
   clear X3 BW3 hsz3 HG
   have HG3 := Lib.hid G3
   clear G3
   go_wp2_with fail
   go_loopw [5] (fun i wr => ∃ k : Nat, k <= rs.length /\ i = .int .i64 k /\ GridAt wr g n (cellV (asksOf (rs.take k))) /\ Only g (g + 1 + n) w3 wr) (fun i _ => rs.length - (intOf i).toNat)
   case atStart => exact ⟨0, Nat.zero_le _, rfl, by simpa [asksOf] using HG3.out, Only.refl _ _ _⟩
   case round =>
    obtain ⟨k, hk, rfl, hat, hon⟩ := hrel
    have hs3 := HSZ3.out
    have BW : Below w.heap.size w wr := Only.then_ HBW3.out hon (by omega)
    have HON := Lib.hid hon
    have hsz0 := hon.size
    have q1 : wr.cell? ⟨w.heap.size, 1, none⟩ = some (.slice A2 rs.length c2) := (HX3.out.only hon (.inl hgw)).cell 1
    by_cases hlt : k < rs.length
    ·obtain ⟨b, o, u0, u1, u2, rfl, hbB, k0, k1, k2, rfl, q3, q2⟩ := (HR.out.below BW (Nat.le_refl _)).get hlt
     have hwr : w.heap.size <= wr.heap.size := BW.size
     have Q2 := Lib.hid q2
     obtain ⟨A3, c3, rfl, _⟩ := q3
     obtain ⟨A4, c4, rfl, _⟩ := q2
     have hbl := HBL.out _ (List.getElem_mem hlt)
     clear hon
     go_upto_region 10 with fail
     obtain ⟨wv, hwv⟩ : ∃ wv, wv = wr.alloc (Obj.cells #[Value.int .i64 rs[k].1.1, Value.slice A3 rs[k].1.2.length c3, Value.slice A4 rs[k].2.length c4] 138) := ⟨_, rfl⟩
     have bv : Below wr.heap.size wr wv := by rw [hwv]; exact below1 _ _
     have X : Blk wv wr.heap.size 138 #[.int .i64 rs[k].1.1, .slice A3 rs[k].1.2.length c3, .slice A4 rs[k].2.length c4] := by rw [hwv]; exact Blk.new _ _ _
     rw [<- hwv]
     have hvl := X.lt
     clear hwv k0 k1 k2 q1
     have hgr : g + 1 + n <= wr.heap.size := by omega
     have HATV := Lib.hid (hat.below bv hgr)
     have HX := Lib.hid X
     have HBV := Lib.hid bv
     clear hat X bv
     go_wp2_with fail
     obtain ⟨wo, rfl⟩ : ∃ wo, wo = wr := ⟨_, rfl⟩
     go_loopw [7] (fun i wr => ∃ m : Nat, m <= rs[k].2.length /\ i = .int .i64 m /\ GridAt wr g n (cellV (asksOf (rs.take k) ++ (rs[k].2.take m).map fun l => (rs[k].1.1, l))) /\ Only g (g + 1 + n) wv wr) (fun i _ => rs[k].2.length - (intOf i).toNat)
     case atStart => exact ⟨0, Nat.zero_le _, rfl, by simpa using HATV.out, Only.refl _ _ _⟩
     case round =>
      obtain ⟨m, hm, rfl, hax, honx⟩ := hrel
      have hsx := honx.size
      have Xx := HX.out.only honx (.inr hgr)
      have q2 : wr.cell? ⟨wo.heap.size, 2, none⟩ = some (.slice A4 rs[k].2.length c4) := Xx.cell 2
      by_cases hltm : m < rs[k].2.length
      ·obtain ⟨b5, o5, y0, y1, y2, rfl, hb5, l0, l1, l2, rfl, rfl, q5⟩ := (Q2.out.below ((HBV.out.mono hwr).trans (honx.below (by omega) (by omega))) (Nat.le_refl _)).get hltm
       obtain ⟨A5, c5, rfl, _⟩ := q5
       obtain ⟨x, hxe⟩ : ∃ x : LAsk, x = (rs[k].1.1, rs[k].2[m]) := ⟨_, rfl⟩
       have HXE := Lib.hid (show x.2.1 = rs[k].2[m].1 by rw [hxe])
       have HFX := Lib.hid (show AskFits n x by rw [hxe]; exact HF.out _ (asksOf_mem hlt hltm))
       obtain ⟨ps, hps⟩ : ∃ ps, ps = asksOf (rs.take k) ++ (rs[k].2.take m).map fun l => (rs[k].1.1, l) := ⟨_, rfl⟩
       have HPS := Lib.hid (show asksOf (rs.take k) ++ (rs[k].2.take (m + 1)).map (fun l => (rs[k].1.1, l)) = ps ++ [x] from by
        rw [take_snoc _ _ hltm, List.map_append, <- List.append_assoc, <- hps, hxe]; rfl)
       rw [<- hps] at hax
       obtain ⟨p, hpe⟩ : ∃ p : Nat, rs[k].1.1 = (p : Int) := ⟨rs[k].1.1.toNat, by have := HFX.out.1; rw [hxe] at this; have := this.1; omega⟩
       have hpn : p < n := by have := HFX.out.1.2; rw [hxe] at this; have : rs[k].1.1 < (n : Int) := this; omega
       have x0 : wr.cell? ⟨wo.heap.size, 0, none⟩ = some (.int .i64 p) := by rw [<- hpe]; exact Xx.cell 0
       clear hps
       go_upto_region 14 with fail
       obtain ⟨wl, hwl⟩ : ∃ wl, wl = wr.alloc (Obj.cells #[Value.int .i64 rs[k].2[m].1, Value.int .i64 rs[k].2[m].2.1, Value.slice A5 rs[k].2[m].2.2.length c5] 191) := ⟨_, rfl⟩
       have bl : Below wr.heap.size wr wl := by rw [hwl]; exact below1 _ _
       have Y : Blk wl wr.heap.size 191 #[.int .i64 rs[k].2[m].1, .int .i64 rs[k].2[m].2.1, .slice A5 rs[k].2[m].2.2.length c5] := by rw [hwl]; exact Blk.new _ _ _
       rw [<- hwl]
       clear hwl l0 l1 l2 q2
       have z0 : wl.cell? ⟨wo.heap.size, 0, none⟩ = some (.int .i64 p) := (bl.cell (World.block_lt_of_cell? _ _ x0)).trans x0
       have HAL := Lib.hid (hax.below bl (by omega))
       have HOL := Lib.hid (honx.trans (Only.of_below bl))
       have hpi : (p : Int) < n := by omega
       have hlt1 : g + 1 + n <= wr.heap.size := by omega
       clear x0 hax honx Xx
       by_cases hk0 : rs[k].2[m].1 = 0
       ·have hb0 : (rs[k].2[m].1 == 0) = true := by simp [hk0]
        have hb1 : (rs[k].2[m].1 == 1) = false := by simp; omega
        obtain ⟨hx1, hx2⟩ : 0 <= rs[k].2[m].2.1 /\ rs[k].2[m].2.1 < n := by have := HFX.out.2 (.inl (HXE.out.trans hk0)); rw [hxe] at this; exact this
        obtain ⟨q, hqe⟩ : ∃ q : Nat, rs[k].2[m].2.1 = (q : Int) := ⟨rs[k].2[m].2.1.toNat, by omega⟩
        have hqn : q < n := by omega
        have hqi : (q : Int) < n := by omega
        have HXK := Lib.hid (show x.1 = (p : Int) /\ x.2.1 = 0 /\ x.2.2.1 = (q : Int) from ⟨by rw [hxe]; exact hpe, HXE.out.trans hk0, by rw [hxe]; exact hqe⟩)
        have e0 : wl.cell? ⟨wr.heap.size, 0, none⟩ = some (.int .i64 rs[k].2[m].1) := Y.cell 0
        have z1 : wl.cell? ⟨wr.heap.size, 1, none⟩ = some (.int .i64 q) := by rw [<- hqe]; exact Y.cell 1
        obtain ⟨t, ht⟩ : ∃ t, t = cellV ps p q := ⟨_, rfl⟩
        have ht3 : t <= 3 := by rw [ht]; exact cellV_le _ _ _
        have HTE := Lib.hid ht.symm
        have z2 : wl.cell? ⟨g, p, none⟩ = some (.slice (some ⟨g + 1 + p, 0, none⟩) n n) := HAL.out.head hpn
        have z3 : wl.cell? ⟨g + 1 + p, q, none⟩ = some (.int .i64 ((t : Nat) : Int)) := by rw [ht]; exact HAL.out.cell hpn hqn
        have z4 : wl.frozen? ⟨g + 1 + p, q, none⟩ = false := (HAL.out.rows p hpn).frozen q
        have d0 : wl.drew.cell? ⟨wo.heap.size, 0, none⟩ = some (.int .i64 p) := z0
        have d1 : wl.drew.cell? ⟨wr.heap.size, 1, none⟩ = some (.int .i64 q) := z1
        have d2 : wl.drew.cell? ⟨g, p, none⟩ = some (.slice (some ⟨g + 1 + p, 0, none⟩) n n) := z2
        have d3 : wl.drew.cell? ⟨g + 1 + p, q, none⟩ = some (.int .i64 ((t : Nat) : Int)) := z3
        have d4 : wl.drew.frozen? ⟨g + 1 + p, q, none⟩ = false := z4
        have dd0 : wl.drew.drew.cell? ⟨wo.heap.size, 0, none⟩ = some (.int .i64 p) := z0
        have dd1 : wl.drew.drew.cell? ⟨wr.heap.size, 1, none⟩ = some (.int .i64 q) := z1
        have dd2 : wl.drew.drew.cell? ⟨g, p, none⟩ = some (.slice (some ⟨g + 1 + p, 0, none⟩) n n) := z2
        have dd3 : wl.drew.drew.cell? ⟨g + 1 + p, q, none⟩ = some (.int .i64 ((t : Nat) : Int)) := z3
        have dd4 : wl.drew.drew.frozen? ⟨g + 1 + p, q, none⟩ = false := z4
        have de0 : wl.drew.cell? ⟨wr.heap.size, 0, none⟩ = some (.int .i64 rs[k].2[m].1) := e0
        have dde0 : wl.drew.drew.cell? ⟨wr.heap.size, 0, none⟩ = some (.int .i64 rs[k].2[m].1) := e0
        clear ht hx1 hx2 hxe hpe hqe
        by_cases htt : t % 2 = 0
        ·have hT : (((t : Nat) : Int) % 2 == 0) = true := by simp; omega
         have HC0 := Lib.hid (show ∀ a b, cellV (ps ++ [x]) a b = if a = p /\ b = q then t + 1 else cellV ps a b from fun a b => by
          rw [cellV_snoc, HXK.out.1, HXK.out.2.1, HXK.out.2.2]
          by_cases e : a = p /\ b = q
          ·obtain ⟨rfl, rfl⟩ := e
           rw [if_pos (show ((a : Int) = a /\ (b : Int) = b) from ⟨rfl, rfl⟩), HTE.out, if_pos (show ((0 : Int) = 0 /\ t % 2 = 0) from ⟨rfl, htt⟩), if_pos (show a = a /\ b = b from ⟨rfl, rfl⟩)]
          ·rw [if_neg e, if_neg (by omega)])
         clear hk0
         go_upto_region 14 with fail
         go_big_region
         have HAM := HAL.out.drewn
         have HOM := HOL.out.drewn
         clear z0 z1 z2 z3 z4 e0 dd0 dd1 dd2 dd3 dd4 dde0
         go_upto_region 15 with fail
         generalize wl.drew = wm at *
         have HN := Lib.hid (show GridAt (wm.setCell ⟨g + 1 + p, q, none⟩ (.int .i64 ((t : Int) + 1))).drew.drew g n (cellV (ps ++ [x])) from (GridAt.set (x := t + 1) HAM hpn HC0.out).drewn.drewn)
         have HO6 := Lib.hid (show Only g (g + 1 + n) wv (wm.setCell ⟨g + 1 + p, q, none⟩ (.int .i64 ((t : Int) + 1))).drew.drew from (HOM.setCell ⟨by show g <= g + 1 + p; omega, by show g + 1 + p < g + 1 + n; omega⟩ _).drewn.drewn)
         have s3 : wm.drew.cell? ⟨g + 1 + p, q, none⟩ = some (.int .i64 ((t : Nat) : Int)) := d3
         have s4 : wm.drew.frozen? ⟨g + 1 + p, q, none⟩ = false := d4
         obtain ⟨SS, hSS⟩ : ∃ SS : World -> Prop, SS = (fun W => Below wm.heap.size wm W /\ W.cell? ⟨wo.heap.size, 0, none⟩ = some (.int .i64 p) /\ W.cell? ⟨wr.heap.size, 1, none⟩ = some (.int .i64 q) /\ W.cell? ⟨g, p, none⟩ = some (.slice (some ⟨g + 1 + p, 0, none⟩) n n) /\ W.cell? ⟨g + 1 + p, q, none⟩ = some (.int .i64 ((t : Nat) : Int))) := ⟨_, rfl⟩
         have HB := Lib.hid (show ∀ W, SS W -> (Below wm.heap.size wm W /\ W.cell? ⟨wo.heap.size, 0, none⟩ = some (.int .i64 p) /\ W.cell? ⟨wr.heap.size, 1, none⟩ = some (.int .i64 q) /\ W.cell? ⟨g, p, none⟩ = some (.slice (some ⟨g + 1 + p, 0, none⟩) n n) /\ W.cell? ⟨g + 1 + p, q, none⟩ = some (.int .i64 ((t : Nat) : Int))) from by rw [hSS]; exact fun W hW => hW)
         have HS := Lib.hid (show ∀ W, Below wm.heap.size wm W -> SS W from by
          rw [hSS]
          exact fun W hW => ⟨hW, (hW.cell (World.block_lt_of_cell? _ _ d0)).trans d0, (hW.cell (World.block_lt_of_cell? _ _ d1)).trans d1, (hW.cell (World.block_lt_of_cell? _ _ d2)).trans d2, (hW.cell (World.block_lt_of_cell? _ _ d3)).trans d3⟩)
         have BB : Below wm.heap.size wm wm.drew := (Below.refl _ _).drew
         have SB := HS.out _ BB
         clear hSS d0 d1 d2 d3 d4 HAM HOM
         refine wp_region_rel SS 22 23 (by kernel_rfl) rfl ?_
         refine wpAnyR_pure (i := 0) (oi := _) ?v0 rfl rfl (by kernel_rfl) (by decide) (fun _ _ _ h => h) rfl ?hy0 (fun _ => SB) ?rest0
         case hy0 => (intro W; go_simp; (try with_reducible rfl))
         try simp only [List.setIfInBounds_toArray, List.set_cons_zero, List.set_cons_succ]
         refine wpAnyR_pure (i := 1) (oi := _) ?v1 rfl rfl (by kernel_rfl) (by decide) (fun _ _ _ h => h) rfl ?hy1 (fun _ => SB) ?rest1
         case hy1 => (intro W; go_simp; (try with_reducible rfl))
         try simp only [List.setIfInBounds_toArray, List.set_cons_zero, List.set_cons_succ]
         refine wpAnyR_pure (i := 2) (oi := _) ?v2 rfl rfl (by kernel_rfl) (by decide) (fun _ _ _ h => h) rfl ?hy2 (fun _ => SB) ?rest2
         case hy2 => (intro W; go_simp; (try with_reducible rfl))
         try simp only [List.setIfInBounds_toArray, List.set_cons_zero, List.set_cons_succ]
         refine wpAnyR_take (i := 3) (oi := _) ?v3 rfl rfl (by kernel_rfl) (fun _ _ _ h => h) rfl ?hy3 SB ?rest3
         case hy3 => (intro W hW; obtain ⟨_, c0, c1, c2, c3⟩ := HB.out W hW; go_simp; (try with_reducible rfl))
         try simp only [List.setIfInBounds_toArray, List.set_cons_zero, List.set_cons_succ]
         refine wpAnyR_pure (i := 4) (oi := _) ?v4 rfl rfl (by kernel_rfl) (by decide) (fun _ _ _ h => h) rfl ?hy4 (fun _ => SB) ?rest4
         case hy4 => (intro W; go_simp; (try with_reducible rfl))
         try simp only [List.setIfInBounds_toArray, List.set_cons_zero, List.set_cons_succ]
         refine wpAnyR_take (i := 5) (oi := _) ?v5 rfl rfl (by kernel_rfl) (fun _ _ _ h => h) rfl ?hy5 SB ?rest5
         case hy5 => (intro W hW; obtain ⟨_, c0, c1, c2, c3⟩ := HB.out W hW; go_simp; (try with_reducible rfl))
         try simp only [List.setIfInBounds_toArray, List.set_cons_zero, List.set_cons_succ]
         refine wpAnyR_pure (i := 6) (oi := _) ?v6 rfl rfl (by kernel_rfl) (by decide) (fun _ _ _ h => h) rfl ?hy6 (fun _ => SB) ?rest6
         case hy6 => (intro W; go_simp; (try with_reducible rfl))
         try simp only [List.setIfInBounds_toArray, List.set_cons_zero, List.set_cons_succ]
         refine wpAnyR_pure (i := 7) (oi := _) ?v7 rfl rfl (by kernel_rfl) (by decide) (fun _ _ _ h => h) rfl ?hy7 (fun _ => SB) ?rest7
         case hy7 => (intro W; go_simp; (try with_reducible rfl))
         try simp only [List.setIfInBounds_toArray, List.set_cons_zero, List.set_cons_succ]
         refine wpAnyR_take (i := 8) (oi := _) ?v8 rfl rfl (by kernel_rfl) (fun _ _ _ h => h) rfl ?hy8 SB ?rest8
         case hy8 => (intro W hW; obtain ⟨_, c0, c1, c2, c3⟩ := HB.out W hW; go_simp; (try with_reducible rfl))
         try simp only [List.setIfInBounds_toArray, List.set_cons_zero, List.set_cons_succ]
         refine wpAnyR_pure (i := 9) (oi := _) ?v9 rfl rfl (by kernel_rfl) (by decide) (fun _ _ _ h => h) rfl ?hy9 (fun _ => SB) ?rest9
         case hy9 => (intro W; go_simp; (try with_reducible rfl))
         try simp only [List.setIfInBounds_toArray, List.set_cons_zero, List.set_cons_succ]
         refine wpAnyR_pure (i := 10) (oi := _) ?v10 rfl rfl (by kernel_rfl) (by decide) (fun _ _ _ h => h) rfl ?hy10 (fun _ => SB) ?rest10
         case hy10 => (intro W; go_simp; (try with_reducible rfl))
         try simp only [List.setIfInBounds_toArray, List.set_cons_zero, List.set_cons_succ]
         refine wpAnyR_pure (i := 11) (oi := _) ?v11 rfl rfl (by kernel_rfl) (by decide) (fun _ _ _ h => h) rfl ?hy11 (fun _ => SB) ?rest11
         case hy11 => (intro W; go_simp; (try with_reducible rfl))
         try simp only [List.setIfInBounds_toArray, List.set_cons_zero, List.set_cons_succ]
         refine wpAnyR_take (i := 12) (oi := _) ?v12 rfl rfl (by kernel_rfl) (fun _ _ _ h => h) rfl ?hy12 SB ?rest12
         case hy12 => (intro W hW; obtain ⟨_, c0, c1, c2, c3⟩ := HB.out W hW; go_simp; (try with_reducible rfl))
         try simp only [List.setIfInBounds_toArray, List.set_cons_zero, List.set_cons_succ]
         refine wpAnyR_pure (i := 13) (oi := _) ?v13 rfl rfl (by kernel_rfl) (by decide) (fun _ _ _ h => h) rfl ?hy13 (fun _ => SB) ?rest13
         case hy13 => (intro W; go_simp; (try with_reducible rfl))
         try simp only [List.setIfInBounds_toArray, List.set_cons_zero, List.set_cons_succ]
         refine wpAnyR_take (i := 14) (oi := _) ?v14 rfl rfl (by kernel_rfl) (fun _ _ _ h => h) rfl ?hy14 SB ?rest14
         case hy14 => (intro W hW; obtain ⟨_, c0, c1, c2, c3⟩ := HB.out W hW; go_simp; (try with_reducible rfl))
         try simp only [List.setIfInBounds_toArray, List.set_cons_zero, List.set_cons_succ]
         refine wpAnyR_pure (i := 15) (oi := _) ?v15 rfl rfl (by kernel_rfl) (by decide) (fun _ _ _ h => h) rfl ?hy15 (fun _ => SB) ?rest15
         case hy15 => (intro W; go_simp; (try with_reducible rfl))
         try simp only [List.setIfInBounds_toArray, List.set_cons_zero, List.set_cons_succ]
         refine wpAnyR_pure (i := 16) (oi := _) ?v16 rfl rfl (by kernel_rfl) (by decide) (fun _ _ _ h => h) rfl ?hy16 (fun _ => SB) ?rest16
         case hy16 => (intro W; go_simp; (try with_reducible rfl))
         try simp only [List.setIfInBounds_toArray, List.set_cons_zero, List.set_cons_succ]
         refine wpAnyR_take (i := 17) (oi := _) ?v17 rfl rfl (by kernel_rfl) (fun _ _ _ h => h) rfl ?hy17 SB ?rest17
         case hy17 => (intro W hW; obtain ⟨_, c0, c1, c2, c3⟩ := HB.out W hW; go_simp; (try with_reducible rfl))
         try simp only [List.setIfInBounds_toArray, List.set_cons_zero, List.set_cons_succ]
         refine wpAnyR_pure (i := 18) (oi := _) ?v18 rfl rfl (by kernel_rfl) (by decide) (fun _ _ _ h => h) rfl ?hy18 (fun _ => SB) ?rest18
         case hy18 => (intro W; go_simp; (try with_reducible rfl))
         try simp only [List.setIfInBounds_toArray, List.set_cons_zero, List.set_cons_succ]
         refine wpAnyR_take (i := 19) (oi := _) ?v19 rfl rfl (by kernel_rfl) (fun _ _ _ h => h) rfl ?hy19 SB ?rest19
         case hy19 => (intro W hW; obtain ⟨_, c0, c1, c2, c3⟩ := HB.out W hW; go_simp; (try with_reducible rfl))
         try simp only [List.setIfInBounds_toArray, List.set_cons_zero, List.set_cons_succ]
         refine wpAnyR_pure (i := 20) (oi := _) ?v20 rfl rfl (by kernel_rfl) (by decide) (fun _ _ _ h => h) rfl ?hy20 (fun _ => SB) ?rest20
         case hy20 => (intro W; go_simp; (try with_reducible rfl))
         try simp only [List.setIfInBounds_toArray, List.set_cons_zero, List.set_cons_succ]
         refine wpAnyR_pure (i := 21) (oi := _) ?v21 rfl rfl (by kernel_rfl) (by decide) (fun _ _ _ h => h) rfl ?hy21 (fun _ => SB) ?rest21
         case hy21 => (intro W; go_simp; (try with_reducible rfl))
         try simp only [List.setIfInBounds_toArray, List.set_cons_zero, List.set_cons_succ]
         refine wpAnyR_one (i := 22) (by kernel_rfl) rfl (fun K hK => ?_)
         go_simp
         refine hK.out _ _ (fun hf => absurd hf (by decide)) ?_
         clear hK K
         refine wpAnyR_done (by kernel_rfl) ?_
         go_upto_region 16 with fail
         go_big_region
         go_wp2_with fail
         go_roundw
         case rel => exact ⟨m + 1, by omega, by go_num, by rw [HPS.out]; exact HN.out, HO6.out⟩
         case measure => simp [intOf]; omega
        ·have hT : (((t : Nat) : Int) % 2 == 0) = false := by simp; omega
         have HN := Lib.hid (show GridAt wl g n (cellV (ps ++ [x])) from HAL.out.congr fun a b _ _ => by
          rw [cellV_snoc, HXK.out.1, HXK.out.2.1, HXK.out.2.2]
          by_cases e : (p : Int) = (a : Int) /\ (q : Int) = (b : Int)
          ·obtain ⟨rfl, rfl⟩ : p = a /\ q = b := by omega
           rw [if_pos e, HTE.out, if_neg (by omega), if_neg (by omega)]
          ·rw [if_neg e])
         clear hk0
         go_upto_region 14 with fail
         go_big_region
         go_upto_region 16 with fail
         go_big_region
         go_wp2_with fail
         go_roundw
         case rel => exact ⟨m + 1, by omega, by go_num, by rw [HPS.out]; exact (HN.out.drewn).drewn, HOL.out.drewn.drewn⟩
         case measure => simp [intOf]; omega
       ·have hb0 : (rs[k].2[m].1 == 0) = false := by simp [hk0]
        by_cases hk1 : rs[k].2[m].1 = 1
        ·have hb1 : (rs[k].2[m].1 == 1) = true := by simp [hk1]
         obtain ⟨hx1, hx2⟩ : 0 <= rs[k].2[m].2.1 /\ rs[k].2[m].2.1 < n := by have := HFX.out.2 (.inr (HXE.out.trans hk1)); rw [hxe] at this; exact this
         obtain ⟨q, hqe⟩ : ∃ q : Nat, rs[k].2[m].2.1 = (q : Int) := ⟨rs[k].2[m].2.1.toNat, by omega⟩
         have hqn : q < n := by omega
         have hqi : (q : Int) < n := by omega
         have HXK := Lib.hid (show x.1 = (p : Int) /\ x.2.1 = 1 /\ x.2.2.1 = (q : Int) from ⟨by rw [hxe]; exact hpe, HXE.out.trans hk1, by rw [hxe]; exact hqe⟩)
         have e0 : wl.cell? ⟨wr.heap.size, 0, none⟩ = some (.int .i64 rs[k].2[m].1) := Y.cell 0
         have z1 : wl.cell? ⟨wr.heap.size, 1, none⟩ = some (.int .i64 q) := by rw [<- hqe]; exact Y.cell 1
         obtain ⟨t, ht⟩ : ∃ t, t = cellV ps p q := ⟨_, rfl⟩
         have ht3 : t <= 3 := by rw [ht]; exact cellV_le _ _ _
         have HTE := Lib.hid ht.symm
         have z2 : wl.cell? ⟨g, p, none⟩ = some (.slice (some ⟨g + 1 + p, 0, none⟩) n n) := HAL.out.head hpn
         have z3 : wl.cell? ⟨g + 1 + p, q, none⟩ = some (.int .i64 ((t : Nat) : Int)) := by rw [ht]; exact HAL.out.cell hpn hqn
         have z4 : wl.frozen? ⟨g + 1 + p, q, none⟩ = false := (HAL.out.rows p hpn).frozen q
         have d0 : wl.drew.cell? ⟨wo.heap.size, 0, none⟩ = some (.int .i64 p) := z0
         have d1 : wl.drew.cell? ⟨wr.heap.size, 1, none⟩ = some (.int .i64 q) := z1
         have d2 : wl.drew.cell? ⟨g, p, none⟩ = some (.slice (some ⟨g + 1 + p, 0, none⟩) n n) := z2
         have d3 : wl.drew.cell? ⟨g + 1 + p, q, none⟩ = some (.int .i64 ((t : Nat) : Int)) := z3
         have d4 : wl.drew.frozen? ⟨g + 1 + p, q, none⟩ = false := z4
         have dd0 : wl.drew.drew.cell? ⟨wo.heap.size, 0, none⟩ = some (.int .i64 p) := z0
         have dd1 : wl.drew.drew.cell? ⟨wr.heap.size, 1, none⟩ = some (.int .i64 q) := z1
         have dd2 : wl.drew.drew.cell? ⟨g, p, none⟩ = some (.slice (some ⟨g + 1 + p, 0, none⟩) n n) := z2
         have dd3 : wl.drew.drew.cell? ⟨g + 1 + p, q, none⟩ = some (.int .i64 ((t : Nat) : Int)) := z3
         have dd4 : wl.drew.drew.frozen? ⟨g + 1 + p, q, none⟩ = false := z4
         have de0 : wl.drew.cell? ⟨wr.heap.size, 0, none⟩ = some (.int .i64 rs[k].2[m].1) := e0
         have dde0 : wl.drew.drew.cell? ⟨wr.heap.size, 0, none⟩ = some (.int .i64 rs[k].2[m].1) := e0
         clear ht hx1 hx2 hxe hpe hqe
         by_cases htt : t < 2
         ·have hT : decide (((t : Nat) : Int) < 2) = true := by simp; omega
          have HC0 := Lib.hid (show ∀ a b, cellV (ps ++ [x]) a b = if a = p /\ b = q then t + 2 else cellV ps a b from fun a b => by
           rw [cellV_snoc, HXK.out.1, HXK.out.2.1, HXK.out.2.2]
           by_cases e : a = p /\ b = q
           ·obtain ⟨rfl, rfl⟩ := e
            rw [if_pos (show ((a : Int) = a /\ (b : Int) = b) from ⟨rfl, rfl⟩), HTE.out, if_neg (fun h => absurd h.1 (by decide)), if_pos (show ((1 : Int) = 1 /\ t < 2) from ⟨rfl, htt⟩), if_pos (show a = a /\ b = b from ⟨rfl, rfl⟩)]
           ·rw [if_neg e, if_neg (by omega)])
          clear hk0 hk1
          go_upto_region 14 with fail
          go_big_region
          have HAM := HAL.out.drewn
          have HOM := HOL.out.drewn
          clear z0 z1 z2 z3 z4 e0 dd0 dd1 dd2 dd3 dd4 dde0
          go_upto_region 16 with fail
          generalize wl.drew = wa at *
          have dd0 : wa.drew.cell? ⟨wo.heap.size, 0, none⟩ = some (.int .i64 p) := d0
          have dd1 : wa.drew.cell? ⟨wr.heap.size, 1, none⟩ = some (.int .i64 q) := d1
          have dd2 : wa.drew.cell? ⟨g, p, none⟩ = some (.slice (some ⟨g + 1 + p, 0, none⟩) n n) := d2
          have dd3 : wa.drew.cell? ⟨g + 1 + p, q, none⟩ = some (.int .i64 ((t : Nat) : Int)) := d3
          have dd4 : wa.drew.frozen? ⟨g + 1 + p, q, none⟩ = false := d4
          have dde0 : wa.drew.cell? ⟨wr.heap.size, 0, none⟩ = some (.int .i64 rs[k].2[m].1) := de0
          go_big_region
          have HAM := HAM.drewn
          have HOM := HOM.drewn
          clear d0 d1 d2 d3 d4 de0
          go_upto_region 17 with fail
          generalize wa.drew = wm at *
          have HN := Lib.hid (show GridAt (wm.setCell ⟨g + 1 + p, q, none⟩ (.int .i64 ((t : Int) + 2))).drew g n (cellV (ps ++ [x])) from (GridAt.set (x := t + 2) HAM hpn HC0.out).drewn)
          have HO6 := Lib.hid (show Only g (g + 1 + n) wv (wm.setCell ⟨g + 1 + p, q, none⟩ (.int .i64 ((t : Int) + 2))).drew from (HOM.setCell ⟨by show g <= g + 1 + p; omega, by show g + 1 + p < g + 1 + n; omega⟩ _).drewn)
          have s3 : wm.drew.cell? ⟨g + 1 + p, q, none⟩ = some (.int .i64 ((t : Nat) : Int)) := dd3
          have s4 : wm.drew.frozen? ⟨g + 1 + p, q, none⟩ = false := dd4
          obtain ⟨SS, hSS⟩ : ∃ SS : World -> Prop, SS = (fun W => Below wm.heap.size wm W /\ W.cell? ⟨wo.heap.size, 0, none⟩ = some (.int .i64 p) /\ W.cell? ⟨wr.heap.size, 1, none⟩ = some (.int .i64 q) /\ W.cell? ⟨g, p, none⟩ = some (.slice (some ⟨g + 1 + p, 0, none⟩) n n) /\ W.cell? ⟨g + 1 + p, q, none⟩ = some (.int .i64 ((t : Nat) : Int))) := ⟨_, rfl⟩
          have HB := Lib.hid (show ∀ W, SS W -> (Below wm.heap.size wm W /\ W.cell? ⟨wo.heap.size, 0, none⟩ = some (.int .i64 p) /\ W.cell? ⟨wr.heap.size, 1, none⟩ = some (.int .i64 q) /\ W.cell? ⟨g, p, none⟩ = some (.slice (some ⟨g + 1 + p, 0, none⟩) n n) /\ W.cell? ⟨g + 1 + p, q, none⟩ = some (.int .i64 ((t : Nat) : Int))) from by rw [hSS]; exact fun W hW => hW)
          have HS := Lib.hid (show ∀ W, Below wm.heap.size wm W -> SS W from by
           rw [hSS]
           exact fun W hW => ⟨hW, (hW.cell (World.block_lt_of_cell? _ _ dd0)).trans dd0, (hW.cell (World.block_lt_of_cell? _ _ dd1)).trans dd1, (hW.cell (World.block_lt_of_cell? _ _ dd2)).trans dd2, (hW.cell (World.block_lt_of_cell? _ _ dd3)).trans dd3⟩)
          have BB : Below wm.heap.size wm wm.drew := (Below.refl _ _).drew
          have SB := HS.out _ BB
          clear hSS dd0 dd1 dd2 dd3 dd4 HAM HOM
          refine wp_region_rel SS 22 23 (by kernel_rfl) rfl ?_
          refine wpAnyR_pure (i := 0) (oi := _) ?vb0 rfl rfl (by kernel_rfl) (by decide) (fun _ _ _ h => h) rfl ?hyb0 (fun _ => SB) ?restb0
          case hyb0 => (intro W; go_simp; (try with_reducible rfl))
          try simp only [List.setIfInBounds_toArray, List.set_cons_zero, List.set_cons_succ]
          refine wpAnyR_pure (i := 1) (oi := _) ?vb1 rfl rfl (by kernel_rfl) (by decide) (fun _ _ _ h => h) rfl ?hyb1 (fun _ => SB) ?restb1
          case hyb1 => (intro W; go_simp; (try with_reducible rfl))
          try simp only [List.setIfInBounds_toArray, List.set_cons_zero, List.set_cons_succ]
          refine wpAnyR_pure (i := 2) (oi := _) ?vb2 rfl rfl (by kernel_rfl) (by decide) (fun _ _ _ h => h) rfl ?hyb2 (fun _ => SB) ?restb2
          case hyb2 => (intro W; go_simp; (try with_reducible rfl))
          try simp only [List.setIfInBounds_toArray, List.set_cons_zero, List.set_cons_succ]
          refine wpAnyR_take (i := 3) (oi := _) ?vb3 rfl rfl (by kernel_rfl) (fun _ _ _ h => h) rfl ?hyb3 SB ?restb3
          case hyb3 => (intro W hW; obtain ⟨_, c0, c1, c2, c3⟩ := HB.out W hW; go_simp; (try with_reducible rfl))
          try simp only [List.setIfInBounds_toArray, List.set_cons_zero, List.set_cons_succ]
          refine wpAnyR_pure (i := 4) (oi := _) ?vb4 rfl rfl (by kernel_rfl) (by decide) (fun _ _ _ h => h) rfl ?hyb4 (fun _ => SB) ?restb4
          case hyb4 => (intro W; go_simp; (try with_reducible rfl))
          try simp only [List.setIfInBounds_toArray, List.set_cons_zero, List.set_cons_succ]
          refine wpAnyR_take (i := 5) (oi := _) ?vb5 rfl rfl (by kernel_rfl) (fun _ _ _ h => h) rfl ?hyb5 SB ?restb5
          case hyb5 => (intro W hW; obtain ⟨_, c0, c1, c2, c3⟩ := HB.out W hW; go_simp; (try with_reducible rfl))
          try simp only [List.setIfInBounds_toArray, List.set_cons_zero, List.set_cons_succ]
          refine wpAnyR_pure (i := 6) (oi := _) ?vb6 rfl rfl (by kernel_rfl) (by decide) (fun _ _ _ h => h) rfl ?hyb6 (fun _ => SB) ?restb6
          case hyb6 => (intro W; go_simp; (try with_reducible rfl))
          try simp only [List.setIfInBounds_toArray, List.set_cons_zero, List.set_cons_succ]
          refine wpAnyR_pure (i := 7) (oi := _) ?vb7 rfl rfl (by kernel_rfl) (by decide) (fun _ _ _ h => h) rfl ?hyb7 (fun _ => SB) ?restb7
          case hyb7 => (intro W; go_simp; (try with_reducible rfl))
          try simp only [List.setIfInBounds_toArray, List.set_cons_zero, List.set_cons_succ]
          refine wpAnyR_take (i := 8) (oi := _) ?vb8 rfl rfl (by kernel_rfl) (fun _ _ _ h => h) rfl ?hyb8 SB ?restb8
          case hyb8 => (intro W hW; obtain ⟨_, c0, c1, c2, c3⟩ := HB.out W hW; go_simp; (try with_reducible rfl))
          try simp only [List.setIfInBounds_toArray, List.set_cons_zero, List.set_cons_succ]
          refine wpAnyR_pure (i := 9) (oi := _) ?vb9 rfl rfl (by kernel_rfl) (by decide) (fun _ _ _ h => h) rfl ?hyb9 (fun _ => SB) ?restb9
          case hyb9 => (intro W; go_simp; (try with_reducible rfl))
          try simp only [List.setIfInBounds_toArray, List.set_cons_zero, List.set_cons_succ]
          refine wpAnyR_pure (i := 10) (oi := _) ?vb10 rfl rfl (by kernel_rfl) (by decide) (fun _ _ _ h => h) rfl ?hyb10 (fun _ => SB) ?restb10
          case hyb10 => (intro W; go_simp; (try with_reducible rfl))
          try simp only [List.setIfInBounds_toArray, List.set_cons_zero, List.set_cons_succ]
          refine wpAnyR_pure (i := 11) (oi := _) ?vb11 rfl rfl (by kernel_rfl) (by decide) (fun _ _ _ h => h) rfl ?hyb11 (fun _ => SB) ?restb11
          case hyb11 => (intro W; go_simp; (try with_reducible rfl))
          try simp only [List.setIfInBounds_toArray, List.set_cons_zero, List.set_cons_succ]
          refine wpAnyR_take (i := 12) (oi := _) ?vb12 rfl rfl (by kernel_rfl) (fun _ _ _ h => h) rfl ?hyb12 SB ?restb12
          case hyb12 => (intro W hW; obtain ⟨_, c0, c1, c2, c3⟩ := HB.out W hW; go_simp; (try with_reducible rfl))
          try simp only [List.setIfInBounds_toArray, List.set_cons_zero, List.set_cons_succ]
          refine wpAnyR_pure (i := 13) (oi := _) ?vb13 rfl rfl (by kernel_rfl) (by decide) (fun _ _ _ h => h) rfl ?hyb13 (fun _ => SB) ?restb13
          case hyb13 => (intro W; go_simp; (try with_reducible rfl))
          try simp only [List.setIfInBounds_toArray, List.set_cons_zero, List.set_cons_succ]
          refine wpAnyR_take (i := 14) (oi := _) ?vb14 rfl rfl (by kernel_rfl) (fun _ _ _ h => h) rfl ?hyb14 SB ?restb14
          case hyb14 => (intro W hW; obtain ⟨_, c0, c1, c2, c3⟩ := HB.out W hW; go_simp; (try with_reducible rfl))
          try simp only [List.setIfInBounds_toArray, List.set_cons_zero, List.set_cons_succ]
          refine wpAnyR_pure (i := 15) (oi := _) ?vb15 rfl rfl (by kernel_rfl) (by decide) (fun _ _ _ h => h) rfl ?hyb15 (fun _ => SB) ?restb15
          case hyb15 => (intro W; go_simp; (try with_reducible rfl))
          try simp only [List.setIfInBounds_toArray, List.set_cons_zero, List.set_cons_succ]
          refine wpAnyR_pure (i := 16) (oi := _) ?vb16 rfl rfl (by kernel_rfl) (by decide) (fun _ _ _ h => h) rfl ?hyb16 (fun _ => SB) ?restb16
          case hyb16 => (intro W; go_simp; (try with_reducible rfl))
          try simp only [List.setIfInBounds_toArray, List.set_cons_zero, List.set_cons_succ]
          refine wpAnyR_take (i := 17) (oi := _) ?vb17 rfl rfl (by kernel_rfl) (fun _ _ _ h => h) rfl ?hyb17 SB ?restb17
          case hyb17 => (intro W hW; obtain ⟨_, c0, c1, c2, c3⟩ := HB.out W hW; go_simp; (try with_reducible rfl))
          try simp only [List.setIfInBounds_toArray, List.set_cons_zero, List.set_cons_succ]
          refine wpAnyR_pure (i := 18) (oi := _) ?vb18 rfl rfl (by kernel_rfl) (by decide) (fun _ _ _ h => h) rfl ?hyb18 (fun _ => SB) ?restb18
          case hyb18 => (intro W; go_simp; (try with_reducible rfl))
          try simp only [List.setIfInBounds_toArray, List.set_cons_zero, List.set_cons_succ]
          refine wpAnyR_take (i := 19) (oi := _) ?vb19 rfl rfl (by kernel_rfl) (fun _ _ _ h => h) rfl ?hyb19 SB ?restb19
          case hyb19 => (intro W hW; obtain ⟨_, c0, c1, c2, c3⟩ := HB.out W hW; go_simp; (try with_reducible rfl))
          try simp only [List.setIfInBounds_toArray, List.set_cons_zero, List.set_cons_succ]
          refine wpAnyR_pure (i := 20) (oi := _) ?vb20 rfl rfl (by kernel_rfl) (by decide) (fun _ _ _ h => h) rfl ?hyb20 (fun _ => SB) ?restb20
          case hyb20 => (intro W; go_simp; (try with_reducible rfl))
          try simp only [List.setIfInBounds_toArray, List.set_cons_zero, List.set_cons_succ]
          refine wpAnyR_pure (i := 21) (oi := _) ?vb21 rfl rfl (by kernel_rfl) (by decide) (fun _ _ _ h => h) rfl ?hyb21 (fun _ => SB) ?restb21
          case hyb21 => (intro W; go_simp; (try with_reducible rfl))
          try simp only [List.setIfInBounds_toArray, List.set_cons_zero, List.set_cons_succ]
          refine wpAnyR_one (i := 22) (by kernel_rfl) rfl (fun K hK => ?_)
          go_simp
          refine hK.out _ _ (fun hf => absurd hf (by decide)) ?_
          clear hK K
          refine wpAnyR_done (by kernel_rfl) ?_
          go_wp2_with fail
          go_roundw
          case rel => exact ⟨m + 1, by omega, by go_num, by rw [HPS.out]; exact HN.out, HO6.out⟩
          case measure => simp [intOf]; omega
         ·have hT : decide (((t : Nat) : Int) < 2) = false := by simp; omega
          have HN := Lib.hid (show GridAt wl g n (cellV (ps ++ [x])) from HAL.out.congr fun a b _ _ => by
           rw [cellV_snoc, HXK.out.1, HXK.out.2.1, HXK.out.2.2]
           by_cases e : (p : Int) = (a : Int) /\ (q : Int) = (b : Int)
           ·obtain ⟨rfl, rfl⟩ : p = a /\ q = b := by omega
            rw [if_pos e, HTE.out, if_neg (by omega), if_neg (by omega)]
           ·rw [if_neg e])
          clear hk0 hk1
          go_upto_region 14 with fail
          go_big_region
          go_upto_region 16 with fail
          go_big_region
          go_wp2_with fail
          go_roundw
          case rel => exact ⟨m + 1, by omega, by go_num, by rw [HPS.out]; exact (HN.out.drewn).drewn, HOL.out.drewn.drewn⟩
          case measure => simp [intOf]; omega
        ·have hb1 : (rs[k].2[m].1 == 1) = false := by simp [hk1]
         have e0 : wl.cell? ⟨wr.heap.size, 0, none⟩ = some (.int .i64 rs[k].2[m].1) := Y.cell 0
         clear hxe hpe
         have HN := Lib.hid (show GridAt wl g n (cellV (ps ++ [x])) from HAL.out.congr fun a b _ _ => by
          rw [cellV_snoc]
          by_cases e : x.1 = (a : Int) /\ x.2.2.1 = (b : Int)
          ·rw [if_pos e, if_neg (fun h => hk0 (HXE.out ▸ h.1)), if_neg (fun h => hk1 (HXE.out ▸ h.1))]
          ·rw [if_neg e])
         clear hk0 hk1
         go_upto_region 14 with fail
         go_big_region
         go_upto_region 16 with fail
         go_big_region
         go_wp2_with fail
         go_roundw
         case rel => exact ⟨m + 1, by omega, by go_num, by rw [HPS.out]; exact (HN.out.drewn).drewn, HOL.out.drewn.drewn⟩
         case measure => simp [intOf]; omega
      ·have HE := Lib.hid (show GridAt wr g n (cellV (asksOf (rs.take (k + 1)))) from by
        rw [show m = rs[k].2.length by omega, List.take_length] at hax
        rw [asksOf_snoc rs k hlt]
        exact hax)
       have HO2 := Lib.hid (HON.out.trans ((Only.of_below HBV.out).trans honx))
       clear hax honx Xx
       go_wp2_with fail
       go_roundw
       case rel => exact ⟨k + 1, by omega, by go_num, HE.out, HO2.out⟩
       case measure => simp [intOf]; omega
    ·rw [show k = rs.length by omega, List.take_length] at hat
     have HE := Lib.hid hat
     have HBW := Lib.hid BW
     clear hat hon
     go_wp2_with fail
     go_ret
     exact ⟨g, rfl, HE.out, by omega, by omega, HBW.out⟩
open Go.RowKit
def rowFits (ls : List Int) (ps : List LAsk) (n i : Nat) : Bool := decide (0 <= ls.getD i 0) && (List.range n).all fun k => !fitBad ls ps i k
theorem layersFit_rows (p : LProg) (ls : List Int) : layersFit p ls = ((progOk p && decide (ls.length = p.1.length)) && (List.range p.1.length).all (rowFits ls (asksOf p.2) p.1.length)) := by
 unfold layersFit
 cases h1 : progOk p
 ·rfl
 by_cases h2 : ls.length = p.1.length
 ·simp only [h2, decide_true, Bool.true_and]
  rw [links_bad h1, Bool.eq_iff_iff]
  simp only [Bool.and_eq_true, List.all_eq_true, Bool.not_eq_true', List.any_eq_false, List.mem_range, rowFits, decide_eq_true_eq]
  constructor
  ·rintro ⟨ha, hb⟩ i hi
   refine ⟨?_, fun k hk => ?_⟩
   ·rw [getD_at (by omega)]
    exact ha _ (List.getElem_mem (by omega))
   ·cases e : fitBad ls (asksOf p.2) i k
    ·rfl
    ·exact absurd (List.any_eq_true.2 ⟨k, List.mem_range.2 hk, e⟩) (hb i hi)
  ·intro h
   refine ⟨fun x hx => ?_, fun i hi => ?_⟩
   ·obtain ⟨i, hi, rfl⟩ := List.getElem_of_mem hx
    have := (h i (by omega)).1
    rwa [getD_at hi] at this
   ·intro hany
    obtain ⟨k, hk, hb⟩ := List.any_eq_true.1 hany
    have := (h i hi).2 k (List.mem_range.1 hk)
    rw [this] at hb
    cases hb
 ·simp [h2]
set_option maxHeartbeats 4000000 in
set_option maxRecDepth 100000 in
theorem specLayersFit_any (v v2 : Value) (p : LProg) (ls : List Int) (w : World) (h : RdProg w w.heap.size v p) (h2 : RdInts w w.heap.size v2 ls) (hs : szP p <= 1048576) (hl : ls.length <= 1048576) :
 Calls Tryz.prog 72 #[v, v2] w fun e w' => e = .returned (.bool (layersFit p ls)) /\ Below w.heap.size w w' := by
 have HP := Lib.hid h
 have H2 := Lib.hid h2
 obtain ⟨a, b, rfl, hA, hR⟩ := h
 obtain ⟨A, c, rfl, hcA, _⟩ := hA
 obtain ⟨A2, c2, rfl, hcR, _⟩ := hR
 obtain ⟨A3, c3, rfl, hc3, _⟩ := h2
 obtain ⟨po, hpo⟩ : ∃ po, po = progOk p := ⟨_, rfl⟩
 obtain ⟨R, hRR⟩ : ∃ R, R = layersFit p ls := ⟨_, rfl⟩
 have HRR := Lib.hid (show R = ((po && decide (ls.length = p.1.length)) && (List.range p.1.length).all (rowFits ls (asksOf p.2) p.1.length)) by rw [hRR, hpo, layersFit_rows])
 rw [<- hRR]
 clear hRR
 go_enter Tryz.func72, Tryz.ntmps72
 go_upto_region 1 with fail
 obtain ⟨w1, hw1⟩ : ∃ w1, w1 = w.alloc (Obj.cells #[Value.slice A p.1.length c, Value.slice A2 p.2.length c2] 34) := ⟨_, rfl⟩
 have X1 : Blk w1 w.heap.size 34 #[.slice A p.1.length c, .slice A2 p.2.length c2] := by rw [hw1]; exact Blk.new _ _ _
 have B1 : Below w.heap.size w w1 := by rw [hw1]; exact below1 _ _
 rw [<- hw1]
 clear hw1
 have x0 : w1.cell? ⟨w.heap.size, 0, none⟩ = some (.slice A p.1.length c) := X1.cell 0
 have x1 : w1.cell? ⟨w.heap.size, 1, none⟩ = some (.slice A2 p.2.length c2) := X1.cell 1
 have CP := Lib.hid ((specProgramOk_any _ p w1 (HP.out.on B1) hs).mono fun e w' (hh : e = .returned (.bool (progOk p)) /\ Below w1.heap.size w1 w') => (⟨by rw [hh.1, hpo], hh.2⟩ : e = .returned (.bool po) /\ Below w1.heap.size w1 w'))
 have HPO := Lib.hid hpo
 have HX1 := Lib.hid X1
 clear hpo X1
 cases po
 ·go_wp2_with (go_at_call 106; refine CP.out.mono ?_; rintro e w2 ⟨rfl, b2⟩; have B2 := Lib.hid (bthen B1 b2); clear b2)
  go_ret
  exact ⟨ret_bool (by rw [HRR.out]; rfl), B2.out⟩
 by_cases hll : ls.length = p.1.length
 ·have hne : ((ls.length : Int) != (p.1.length : Int)) = false := by simp [hll]
  have HLL := Lib.hid hll
  obtain ⟨hn24, hfit⟩ := asksOf_fits HPO.out.symm
  have CL := Lib.hid (fun W (hW : Below w.heap.size w W) => l5Links_any _ p W (HP.out.on hW) hs hn24 hfit)
  have HR2 := Lib.hid (show R = (List.range p.1.length).all (rowFits ls (asksOf p.2) p.1.length) by rw [HRR.out, hll]; simp)
  obtain ⟨ps, hps⟩ : ∃ ps, ps = asksOf p.2 := ⟨_, rfl⟩
  rw [<- hps] at CL HR2
  have hcV := fun i k => cellV_le ps i k
  clear hll hfit hps
  go_upto_region 4 with (first
   | (go_at_call 106; refine CP.out.mono ?_; rintro e w2 ⟨rfl, b2⟩; have B2 := Lib.hid (bthen B1 b2)
      have HX2 := Lib.hid (HX1.out.below b2 HX1.out.lt)
      have x20 : w2.cell? ⟨w.heap.size, 0, none⟩ = some (.slice A p.1.length c) := HX2.out.cell 0
      have x21 : w2.cell? ⟨w.heap.size, 1, none⟩ = some (.slice A2 p.2.length c2) := HX2.out.cell 1
      clear b2)
   | (go_at_call 118; refine (CL.out _ B2.out).mono ?_; rintro e w3 ⟨g, rfl, hg, h4, h5, b3⟩; have H3 := Lib.hid (And.intro hg (And.intro h4 (And.intro h5 (bthen B2.out b3)))); clear hg h4 h5 b3))
  obtain ⟨hg, hg1, hg2, B3⟩ := H3.out
  have HG := Lib.hid hg
  have HB3 := Lib.hid B3
  clear hg B3 H3 x0 x1 x20 x21
  go_wp2_with fail
  go_loopw [6] (fun i wr => ∃ k : Nat, k <= p.1.length /\ i = .int .i64 k /\ (∀ j, j < k -> rowFits ls ps p.1.length j = true) /\ Below w3.heap.size w3 wr) (fun i _ => p.1.length - (intOf i).toNat)
  case atStart => exact ⟨0, Nat.zero_le _, rfl, fun j h => absurd h (Nat.not_lt_zero _), Below.refl _ _⟩
  case round =>
   obtain ⟨k, hk, rfl, hrows, hbe⟩ := hrel
   have HBE := Lib.hid hbe
   by_cases hlt : k < p.1.length
   ·have hkl : k < ls.length := by rw [HLL.out]; exact hlt
    obtain ⟨A7, c7, e7, _, hx⟩ := H2.out
    injection e7 with e7 e9 e8
    clear e9
    subst e7 e8
    obtain ⟨b7, o7, rfl, hb7, hx⟩ := hx (by omega)
    have HCELL := Lib.hid (show ∀ W, Below w3.heap.size w3 W -> ∀ j (hj : j < ls.length), W.cell? ⟨b7, o7 + j, none⟩ = some (.int .i64 ls[j]) from fun W hW j hj => ((bthen HB3.out hW).cell (p := ⟨b7, o7 + j, none⟩) hb7).trans (hx j hj))
    have hck : wr.cell? ⟨b7, o7 + k, none⟩ = some (.int .i64 ls[k]) := HCELL.out wr hbe k hkl
    have HROW := Lib.hid hrows
    clear hx hrows hbe
    by_cases hneg : ls[k] < 0
    ·have HE := Lib.hid (show R = false by
      rw [HR2.out, List.all_eq_false]
      refine ⟨k, List.mem_range.2 hlt, ?_⟩
      unfold rowFits
      rw [getD_at hkl, decide_eq_false (by omega), Bool.false_and]
      decide)
     go_wp2_with fail
     go_ret
     exact ⟨ret_bool HE.out.symm, bthen HB3.out HBE.out⟩
    ·have hng : decide (ls[k] < 0) = false := by simpa using hneg
     go_upto_region 10 with fail
     rename World => wk
     go_loopw [7] (fun i wr => ∃ m : Nat, m <= p.1.length /\ i = .int .i64 m /\ (∀ j, j < m -> fitBad ls ps k j = false) /\ Below w3.heap.size w3 wr) (fun i _ => p.1.length - (intOf i).toNat)
     case atStart => exact ⟨0, Nat.zero_le _, rfl, fun j h => absurd h (Nat.not_lt_zero _), HBE.out⟩
     case round =>
      obtain ⟨m, hm, rfl, hcs, hbe⟩ := hrel
      have HBE2 := Lib.hid hbe
      by_cases hltm : m < p.1.length
      ·have hml : m < ls.length := by rw [HLL.out]; exact hltm
       have hbk : Below w3.heap.size w3 wr := hbe
       have hcm : wr.cell? ⟨b7, o7 + m, none⟩ = some (.int .i64 ls[m]) := HCELL.out wr hbk m hml
       have hck2 : wr.cell? ⟨b7, o7 + k, none⟩ = some (.int .i64 ls[k]) := HCELL.out wr hbk k hkl
       obtain ⟨t, ht⟩ : ∃ t, t = cellV ps k m := ⟨_, rfl⟩
       have hgr := HG.out.below hbe hg2
       have z0 : wr.cell? ⟨g, k, none⟩ = some (.slice (some ⟨g + 1 + k, 0, none⟩) p.1.length p.1.length) := hgr.head hlt
       have z1 : wr.cell? ⟨g + 1 + k, m, none⟩ = some (.int .i64 ((t : Nat) : Int)) := by rw [ht]; exact hgr.cell hlt hltm
       have ht3 : t <= 3 := by rw [ht]; exact hcV k m
       have HFB := Lib.hid (show fitBad ls ps k m = ((decide (0 < t) && decide (ls[k] < ls[m])) || (decide (1 < t) && decide (ls[m] = ls[k]))) by
        unfold fitBad
        rw [<- ht, getD_at hkl, getD_at hml])
       obtain ⟨x, hxe⟩ : ∃ x, x = ls[k] := ⟨_, rfl⟩
       obtain ⟨y, hye⟩ : ∃ y, y = ls[m] := ⟨_, rfl⟩
       rw [<- hxe] at hck2
       rw [<- hye] at hcm
       rw [<- hxe, <- hye] at HFB
       have d0 : wr.drew.cell? ⟨g, k, none⟩ = some (.slice (some ⟨g + 1 + k, 0, none⟩) p.1.length p.1.length) := z0
       have d1 : wr.drew.cell? ⟨g + 1 + k, m, none⟩ = some (.int .i64 ((t : Nat) : Int)) := z1
       have d2 : wr.drew.cell? ⟨b7, o7 + m, none⟩ = some (.int .i64 y) := hcm
       have d3 : wr.drew.cell? ⟨b7, o7 + k, none⟩ = some (.int .i64 x) := hck2
       have HCS := Lib.hid hcs
       have hx0 := ht
       clear ht hgr hxe hye hbk hck
       by_cases t0 : 0 < t
       ·have c1 : decide ((0 : Int) < (t : Int)) = true := by simp; omega
        by_cases xy : x < y
        ·have c2 : decide (x < y) = true := by simp [xy]
         clear hx0 hcs hbe
         have HE := Lib.hid (show R = false by
          rw [HR2.out, List.all_eq_false]
          refine ⟨k, List.mem_range.2 hlt, ?_⟩
          unfold rowFits
          rw [Bool.not_eq_true, Bool.and_eq_false_iff]
          right
          rw [List.all_eq_false]
          exact ⟨m, List.mem_range.2 hltm, by rw [HFB.out]; simp [t0, xy]⟩)
         go_upto_region 12 with fail
         go_big_region
         go_wp2_with fail
         go_ret
         exact ⟨ret_bool HE.out.symm, bthen HB3.out HBE2.out.drew⟩
        ·have c2 : decide (x < y) = false := by simp [xy]
         by_cases t1 : 1 < t
         ·have c3 : decide ((1 : Int) < (t : Int)) = true := by simp; omega
          by_cases ye : y = x
          ·have c4 : (y == x) = true := by simp [ye]
           clear hx0 hcs hbe
           have HE := Lib.hid (show R = false by
            rw [HR2.out, List.all_eq_false]
            refine ⟨k, List.mem_range.2 hlt, ?_⟩
            unfold rowFits
            rw [Bool.not_eq_true, Bool.and_eq_false_iff]
            right
            rw [List.all_eq_false]
            exact ⟨m, List.mem_range.2 hltm, by rw [HFB.out]; simp [t0, t1, ye]⟩)
           go_upto_region 12 with fail
           go_big_region
           go_wp2_with fail
           go_ret
           exact ⟨ret_bool HE.out.symm, bthen HB3.out HBE2.out.drew⟩
          ·have c4 : (y == x) = false := by simp [ye]
           clear hx0 hcs hbe
           have HE := Lib.hid (show fitBad ls ps k m = false by rw [HFB.out]; simp [xy, t1, ye])
           go_upto_region 12 with fail
           go_big_region
           go_wp2_with fail
           go_roundw
           case rel => exact ⟨m + 1, by omega, by go_num, fun j hj => by
            by_cases e : j = m
            ·subst e; exact HE.out
            ·exact HCS.out j (by omega), HBE2.out.drew⟩
           case measure => simp [intOf]; omega
         ·have c3 : decide ((1 : Int) < (t : Int)) = false := by simp; omega
          clear hx0 hcs hbe
          have HE := Lib.hid (show fitBad ls ps k m = false by rw [HFB.out]; simp [xy, t1])
          go_upto_region 12 with fail
          go_big_region
          go_wp2_with fail
          go_roundw
          case rel => exact ⟨m + 1, by omega, by go_num, fun j hj => by
           by_cases e : j = m
           ·subst e; exact HE.out
           ·exact HCS.out j (by omega), HBE2.out.drew⟩
          case measure => simp [intOf]; omega
       ·have c1 : decide ((0 : Int) < (t : Int)) = false := by simp; omega
        have c3 : decide ((1 : Int) < (t : Int)) = false := by simp; omega
        have t1 : ¬ 1 < t := by omega
        clear hx0 hcs hbe
        have HE := Lib.hid (show fitBad ls ps k m = false by rw [HFB.out]; simp [t0, t1])
        go_upto_region 12 with fail
        go_big_region
        go_wp2_with fail
        go_roundw
        case rel => exact ⟨m + 1, by omega, by go_num, fun j hj => by
         by_cases e : j = m
         ·subst e; exact HE.out
         ·exact HCS.out j (by omega), HBE2.out.drew⟩
        case measure => simp [intOf]; omega
      ·have HE := Lib.hid (show rowFits ls ps p.1.length k = true by
        unfold rowFits
        rw [getD_at hkl, Bool.and_eq_true, decide_eq_true_eq, List.all_eq_true]
        refine ⟨by omega, fun j hj => ?_⟩
        rw [hcs j (by have := List.mem_range.1 hj; omega)]
        rfl)
       clear hcs hbe
       go_wp2_with fail
       go_roundw
       case rel => exact ⟨k + 1, by omega, by go_num, fun j hj => by
        by_cases e : j = k
        ·subst e; exact HE.out
        ·exact HROW.out j (by omega), HBE2.out⟩
       case measure => simp [intOf]; omega
   ·have HE := Lib.hid (show R = true by
     rw [HR2.out, List.all_eq_true]
     exact fun j hj => hrows j (by have := List.mem_range.1 hj; omega))
    clear hrows hbe
    go_wp2_with fail
    go_ret
    exact ⟨ret_bool HE.out.symm, bthen HB3.out HBE.out⟩
 ·have hne : ((ls.length : Int) != (p.1.length : Int)) = true := by simp; omega
  have HE := Lib.hid (show R = false by rw [HRR.out, decide_eq_false hll]; rfl)
  clear hll
  go_wp2_with (go_at_call 106; refine CP.out.mono ?_; rintro e w2 ⟨rfl, b2⟩; have B2 := Lib.hid (bthen B1 b2)
               have HX2 := Lib.hid (HX1.out.below b2 HX1.out.lt)
               have x20 : w2.cell? ⟨w.heap.size, 0, none⟩ = some (.slice A p.1.length c) := HX2.out.cell 0
               clear b2)
  go_ret
  exact ⟨ret_bool HE.out.symm, B2.out⟩
open Go.RowKit
def mostTo (ls : List Int) (k : Nat) : Int := (ls.take k).foldl (fun m x => if m < x then x else m) 0
def mostOf (ls : List Int) : Int := ls.foldl (fun m x => if m < x then x else m) 0
theorem mostTo_succ {s : List Int} {k : Nat} (h : k < s.length) : mostTo s (k + 1) = if mostTo s k < s[k] then s[k] else mostTo s k := by
 unfold mostTo
 rw [take_snoc s k h, List.foldl_append]
 rfl
set_option maxHeartbeats 1000000 in
set_option maxRecDepth 100000 in
theorem l6Most_any (v : Value) (ls : List Int) (w : World) (h : RdInts w w.heap.size v ls) (hn : ls.length <= 1048576) :
 Calls Tryz.prog 74 #[v] w fun e w' => e = .returned (.int .i64 (mostOf ls)) /\ w = w' := by
 have H := Lib.hid h
 obtain ⟨A, c, rfl, _, _⟩ := h
 go_enter Tryz.func74, Tryz.ntmps74
 go_wp2_with fail
 go_loopw [3, 4] (fun lo i wr => ∃ k : Nat, k <= ls.length /\ i = .int .i64 k /\ lo = .int .i64 (mostTo ls k) /\ w = wr) (fun _ i _ => ls.length - (intOf i).toNat)
 case atStart => exact ⟨0, Nat.zero_le _, rfl, by simp [mostTo], by first | trivial | rfl⟩
 case round =>
  obtain ⟨k, hk, rfl, rfl, rfl⟩ := hrel
  by_cases hlt : k < ls.length
  ·obtain ⟨_, _, e3, _, hx⟩ := id H.out
   injection e3 with e3 _ e4
   subst e3 e4
   obtain ⟨b, o, rfl, hbB, hx⟩ := hx (by omega)
   have hck : w.cell? ⟨b, o + k, none⟩ = some (.int .i64 ls[k]) := hx k hlt
   have hkz : (0 : Int) <= (k : Int) := by omega
   have hki : (k : Int) < (ls.length : Int) := by omega
   have HS := Lib.hid (mostTo_succ hlt)
   obtain ⟨x, hx2⟩ : ∃ x, x = ls[k] := ⟨_, rfl⟩
   obtain ⟨L, hL⟩ : ∃ L, L = mostTo ls k := ⟨_, rfl⟩
   rw [<- hx2] at hck HS
   rw [<- hL] at HS ⊢
   clear hx hx2 hL
   by_cases hc : L < x
   ·have HN := Lib.hid (show mostTo ls (k + 1) = x by rw [HS.out, if_pos hc])
    have d1 : decide (L < x) = true := decide_eq_true hc
    clear hc
    go_wp2_with fail
    go_roundw
    case rel => exact ⟨k + 1, by omega, by go_num, by rw [HN.out], by first | trivial | rfl⟩
    case measure => simp [intOf]; omega
   ·have HN := Lib.hid (show mostTo ls (k + 1) = L by rw [HS.out, if_neg hc])
    have d1 : decide (L < x) = false := decide_eq_false hc
    clear hc
    go_wp2_with fail
    go_roundw
    case rel => exact ⟨k + 1, by omega, by go_num, by rw [HN.out], by first | trivial | rfl⟩
    case measure => simp [intOf]; omega
  ·have HE := Lib.hid (show mostTo ls k = mostOf ls by unfold mostTo mostOf; rw [show k = ls.length by omega, List.take_length])
   go_wp2_with fail
   go_ret
   exact ⟨ret_int HE.out, rfl⟩
open Classical in
noncomputable def byR (p : LProg) (db : List LFact) (ls : List Int) : List LFact := if layersFit p ls = true /\ factsOk p.1 db = true then modelS p.2 ls (mostOf ls) (ls.length + 1) ls (setOf db) else []
def byK (p : LProg) (db : List LFact) (ls : List Int) : Bool := layersFit p ls && factsOk p.1 db
theorem byR_yes {p : LProg} {db : List LFact} {ls : List Int} (h : layersFit p ls = true) (h2 : factsOk p.1 db = true) : byR p db ls = modelS p.2 ls (mostOf ls) (ls.length + 1) ls (setOf db) /\ byK p db ls = true := by
 unfold byR byK
 rw [if_pos ⟨h, h2⟩, h, h2]
 exact ⟨rfl, rfl⟩
theorem byR_fit {p : LProg} {db : List LFact} {ls : List Int} (h : layersFit p ls = false) : byR p db ls = [] /\ byK p db ls = false := by
 unfold byR byK
 rw [if_neg (by rintro ⟨h1, _⟩; rw [h1] at h; cases h), h]
 exact ⟨rfl, rfl⟩
theorem byR_facts {p : LProg} {db : List LFact} {ls : List Int} (h : factsOk p.1 db = false) : byR p db ls = [] /\ byK p db ls = false := by
 unfold byR byK
 rw [if_neg (by rintro ⟨_, h1⟩; rw [h1] at h; cases h), h, Bool.and_false]
 exact ⟨rfl, rfl⟩
theorem fit_parts {p : LProg} {ls : List Int} (h : layersFit p ls = true) : progOk p = true /\ ls.length = p.1.length /\ ∀ x ∈ ls, 0 <= x := by
 unfold layersFit at h
 rw [Bool.and_eq_true, Bool.and_eq_true, Bool.and_eq_true] at h
 refine ⟨h.1.1, of_decide_eq_true h.1.2, fun x hx => ?_⟩
 exact of_decide_eq_true (List.all_eq_true.1 h.2.1 x hx)
theorem rule_pred {ar : List Int} {r : LRule} (h : ruleFits ar r = true) : 0 <= r.1.1 /\ r.1.1 < ar.length := by
 unfold ruleFits atomFits at h
 rw [Bool.and_eq_true, Bool.and_eq_true] at h
 have := of_decide_eq_true h.1.1
 exact ⟨this.1, this.2.1⟩
theorem ownFacts_nil (w : World) (p q : Nat) : OwnFacts w p q (.slice none 0 0) [] := ⟨_, .nil, World.ownsRow_nil _ _ _ _, fun g hg => by cases hg⟩
set_option maxHeartbeats 4000000 in
set_option maxRecDepth 100000 in
theorem specModelBy_any (v v1 v2 : Value) (p : LProg) (db : List LFact) (ls : List Int) (R : List LFact) (hR : R = byR p db ls) (okR : Bool) (hok : okR = byK p db ls) (w : World) (h : RdProg w w.heap.size v p) (h1 : RdFacts w w.heap.size v1 db) (h2 : RdInts w w.heap.size v2 ls)
 (hs : szP p <= 1048576) (hn : db.length <= 1048576) (ht : tot db <= 1048576) (hll : ls.length <= 1048576) :
 Calls Tryz.prog 25 #[v, v1, v2] w fun e w' => ∃ A c, e = .returned (.tuple #[.slice A R.length c, .bool okR]) /\ OwnFacts w' w.heap.size w'.heap.size (.slice A R.length c) R /\ Below w.heap.size w w' := by
 have HP := Lib.hid h
 have H1 := Lib.hid h1
 have H2 := Lib.hid h2
 have HR := Lib.hid (And.intro hR hok)
 have hs' := hs
 unfold szP at hs'
 obtain ⟨a, b, rfl, hA, hB⟩ := h
 have HA := Lib.hid hA
 obtain ⟨A, c, rfl, hcA, _⟩ := hA
 obtain ⟨Ab, cb, rfl, hcB, _⟩ := hB
 obtain ⟨A1, c1, rfl, _, _⟩ := h1
 obtain ⟨A2, c2, rfl, _, _⟩ := h2
 clear hR hok
 obtain ⟨fb, hfb⟩ : ∃ fb, fb = layersFit p ls := ⟨_, rfl⟩
 obtain ⟨kb, hkb⟩ : ∃ kb, kb = factsOk p.1 db := ⟨_, rfl⟩
 go_enter Tryz.func25, Tryz.ntmps25
 go_upto_region 1 with fail
 obtain ⟨w1, hw1⟩ : ∃ w1, w1 = w.alloc (Obj.cells #[Value.slice A p.1.length c, Value.slice Ab p.2.length cb] 34) := ⟨_, rfl⟩
 have X1 : Blk w1 w.heap.size 34 #[.slice A p.1.length c, .slice Ab p.2.length cb] := by rw [hw1]; exact Blk.new _ _ _
 have B1 : Below w.heap.size w w1 := by rw [hw1]; exact below1 _ _
 rw [<- hw1]
 clear hw1
 have x0 : w1.cell? ⟨w.heap.size, 0, none⟩ = some (.slice A p.1.length c) := X1.cell 0
 have x1 : w1.cell? ⟨w.heap.size, 1, none⟩ = some (.slice Ab p.2.length cb) := X1.cell 1
 have LF := specLayersFit_any (.agg #[.slice A p.1.length c, .slice Ab p.2.length cb]) (.slice A2 ls.length c2) p ls w1 (HP.out.on B1) (H2.out.on B1) hs hll
 rw [<- hfb] at LF
 have HFB := Lib.hid hfb
 have HKB := Lib.hid hkb
 clear hfb
 go_wp2_with fail
 refine LF.mono ?_
 rintro e w2 ⟨rfl, b2⟩
 have B2 := bthen B1 b2
 have X2 := X1.below b2 X1.lt
 clear x0 x1 LF
 have x0 : w2.cell? ⟨w.heap.size, 0, none⟩ = some (.slice A p.1.length c) := X2.cell 0
 have x1 : w2.cell? ⟨w.heap.size, 1, none⟩ = some (.slice Ab p.2.length cb) := X2.cell 1
 cases fb
 ·have HE := Lib.hid (byR_fit (p := p) (db := db) (ls := ls) HFB.out.symm)
  go_wp2_with fail
  refine bodyPost_ret (v := .tuple #[.slice none 0 0, .bool false]) (by simp [results, Tryz.results25, go_sem]) rfl ?_
  rw [HR.out.1, HR.out.2, HE.out.1, HE.out.2]
  exact ⟨none, 0, rfl, ownFacts_nil _ _ _, B2⟩
 have FO := specFactsOk_any (.slice A p.1.length c) (.slice A1 db.length c1) p.1 db w2 (HA.out.on B2) (H1.out.on B2) (by omega) hn ht
 rw [<- hkb] at FO
 clear hkb
 go_wp2_with fail
 refine FO.mono ?_
 rintro e w3 ⟨rfl, b3⟩
 have B3 := bthen B2 b3
 have X3 := X2.below b3 X2.lt
 clear x0 x1 FO
 have x0 : w3.cell? ⟨w.heap.size, 0, none⟩ = some (.slice A p.1.length c) := X3.cell 0
 have x1 : w3.cell? ⟨w.heap.size, 1, none⟩ = some (.slice Ab p.2.length cb) := X3.cell 1
 cases kb
 ·have HE := Lib.hid (byR_facts (p := p) (db := db) (ls := ls) HKB.out.symm)
  go_wp2_with fail
  refine bodyPost_ret (v := .tuple #[.slice none 0 0, .bool false]) (by simp [results, Tryz.results25, go_sem]) rfl ?_
  rw [HR.out.1, HR.out.2, HE.out.1, HE.out.2]
  exact ⟨none, 0, rfl, ownFacts_nil _ _ _, B3⟩
 have HE := Lib.hid (byR_yes (p := p) (db := db) (ls := ls) HFB.out.symm HKB.out.symm)
 have hfp := fit_parts HFB.out.symm
 have hpp := prog_parts hfp.1
 have hfo := factsOk_parts HKB.out.symm
 have HM := Lib.hid (fun W (hW : Below w3.heap.size w3 W) => l6Model_any (.agg #[.slice A p.1.length c, .slice Ab p.2.length cb]) (.slice A1 db.length c1) (.slice A2 ls.length c2) p db ls (mostOf ls) R (HR.out.1.trans HE.out.1) W (HP.out.on (bthen B3 hW)) (H1.out.on (bthen B3 hW)) (H2.out.on (bthen B3 hW)) hpp.1 hpp.2.2 (by omega) (by omega) (fun r hr => by have := rule_pred (hpp.2.2 r hr); rw [hfp.2.1]; exact this) hfo.2.1 hn ht hll)
 have HO := Lib.hid (l6Most_any (.slice A2 ls.length c2) ls)
 have HOK := Lib.hid (HR.out.2.trans HE.out.2)
 obtain ⟨mo, hmo⟩ : ∃ mo, mo = mostOf ls := ⟨_, rfl⟩
 rw [<- hmo] at HM HO
 clear hfp hpp hfo hmo
 go_upto_region 3 with fail
 obtain ⟨SS, hSS⟩ : ∃ SS : World -> Prop, SS = (fun W => W.cell? ⟨w.heap.size, 0, none⟩ = some (.slice A p.1.length c) /\ W.cell? ⟨w.heap.size, 1, none⟩ = some (.slice Ab p.2.length cb)) := ⟨_, rfl⟩
 have HSS := Lib.hid (show ∀ W, Below w3.heap.size w3 W -> SS W from by
  rw [hSS]
  exact fun W hW => ⟨(X3.below hW X3.lt).cell 0, (X3.below hW X3.lt).cell 1⟩)
 have HB := Lib.hid (show ∀ W, SS W -> (W.cell? ⟨w.heap.size, 0, none⟩ = some (.slice A p.1.length c) /\ W.cell? ⟨w.heap.size, 1, none⟩ = some (.slice Ab p.2.length cb)) from by rw [hSS]; exact fun W hW => hW)
 clear hSS x0 x1
 refine wp_region_rel SS 5 8 (by kernel_rfl) rfl ?_
 obtain ⟨wy, hwy⟩ : ∃ wy, wy = w3.drew := ⟨_, rfl⟩
 have HBY := Lib.hid (show Below w3.heap.size w3 wy by rw [hwy]; exact (Below.refl _ _).drew)
 rw [<- hwy]
 clear hwy
 have S0 := Lib.hid (HSS.out _ HBY.out)
 refine wpAnyR_take (i := 0) (oi := _) ?va0 rfl rfl (by kernel_rfl) (fun _ _ _ h => h) rfl ?hya0 S0.out ?resta0
 case hya0 => (intro W hW; obtain ⟨E0, E1⟩ := HB.out W hW; go_simp; (try with_reducible rfl))
 try simp only [List.setIfInBounds_toArray, List.set_cons_zero, List.set_cons_succ]
 refine wpAnyR_pure (i := 1) (oi := _) ?va1 rfl rfl (by kernel_rfl) (by decide) (fun _ _ _ h => h) rfl ?hya1 (fun _ => S0.out) ?resta1
 case hya1 => (intro W; go_simp; (try with_reducible rfl))
 try simp only [List.setIfInBounds_toArray, List.set_cons_zero, List.set_cons_succ]
 refine wpAnyR_pure (i := 2) (oi := _) ?va2 rfl rfl (by kernel_rfl) (by decide) (fun _ _ _ h => h) rfl ?hya2 (fun _ => S0.out) ?resta2
 case hya2 => (intro W; go_simp; (try with_reducible rfl))
 try simp only [List.setIfInBounds_toArray, List.set_cons_zero, List.set_cons_succ]
 refine wpAnyR_pure (i := 3) (oi := _) ?va3 rfl rfl (by kernel_rfl) (by decide) (fun _ _ _ h => h) rfl ?hya3 (fun _ => S0.out) ?resta3
 case hya3 => (intro W; go_simp; (try with_reducible rfl))
 try simp only [List.setIfInBounds_toArray, List.set_cons_zero, List.set_cons_succ]
 refine wpAnyR_one (i := 4) (by kernel_rfl) rfl (fun K hK => ?_)
 try rw [if_pos (show Region.wanted _ _ = true from rfl)]
 go_simp
 refine (HO.out wy ((H2.out.on (bthen B3 HBY.out))) hll).mono ?_
 rintro e w4 ⟨rfl, rfl⟩
 refine hK.out _ _ (fun _ => S0.out) ?_
 clear hK K
 try simp only [List.setIfInBounds_toArray, List.set_cons_zero, List.set_cons_succ, Act.put]
 refine wpAnyR_one (i := 5) (by kernel_rfl) rfl (fun K hK => ?_)
 try rw [if_pos (show Region.wanted _ _ = true from rfl)]
 go_simp
 refine (HM.out wy HBY.out).mono ?_
 rintro e w5 ⟨A5, c5, rfl, o5, b5⟩
 have HO5 := Lib.hid o5
 have HB5 := Lib.hid (bthen B3 (bthen HBY.out b5))
 have hsz := (bthen B3 HBY.out).size
 clear o5 b5
 refine hK.out _ _ (fun hf => absurd hf (by decide)) ?_
 clear hK K
 try simp only [List.setIfInBounds_toArray, List.set_cons_zero, List.set_cons_succ, Act.put]
 refine wpAnyR_one (i := 6) (by kernel_rfl) rfl (fun K hK => ?_)
 go_simp
 refine hK.out _ _ (fun hf => absurd hf (by decide)) ?_
 clear hK K
 try simp only [List.setIfInBounds_toArray, List.set_cons_zero, List.set_cons_succ, Act.put]
 refine wpAnyR_one (i := 7) (by kernel_rfl) rfl (fun K hK => ?_)
 go_simp
 refine hK.out _ _ (fun hf => absurd hf (by decide)) ?_
 clear hK K
 refine wpAnyR_done (by kernel_rfl) ?_
 go_wp2_with fail
 refine bodyPost_ret (v := .tuple #[.slice A5 R.length c5, .bool true]) (by simp [results, Tryz.results25, go_sem]) rfl ?_
 rw [HOK.out]
 exact ⟨A5, c5, rfl, HO5.out.mono hsz (Nat.le_refl _), HB5.out⟩
open Go.RowKit
section
variable {B base g n g2 cap : Nat} {wr w2 w4 w' : World} {E : Nat -> List REnt} {uv : Nat -> Value} {es : List REnt} {A : Option Addr} {c j : Nat} {e : REnt} {o : Obj}
theorem ViewR.keep (h : ViewR B base wr es A c) (hb : ∀ b, (Value.slice A es.length c).ownBlock = some b -> w'.heap[b]? = wr.heap[b]?) (hl : Below B wr w') : ViewR B base w' es A c :=
 ⟨ownsRow_only h.row hb, fun k hk => ⟨(h.rd k hk).1.below hl (Nat.le_refl _), (h.rd k hk).2.below hl (Nat.le_refl _)⟩⟩
theorem rowIs_on {w w' : World} {g n : Nat} {t : TypeId} {D : Nat -> Value} (h : w.rowIs g t n D) (e : w'.heap[g]? = w.heap[g]?) : w'.rowIs g t n D := by
 obtain ⟨c, hb, r⟩ := h
 exact ⟨c, e.trans hb, r⟩
structure GroupsAt (B base g n : Nat) (wr : World) (E : Nat -> List REnt) (uv : Nat -> Value) : Prop where
 row : wr.rowIs g 32 n uv
 rows : ∀ j, j < n -> ∃ A c, uv j = .slice A (E j).length c /\ ViewR B base wr (E j) A c
 dis : ∀ i j, i < n -> j < n -> i ≠ j -> ∀ b, (uv i).ownBlock = some b -> (uv j).ownBlock ≠ some b
 low : B <= base
 ge : base <= g
theorem GroupsAt.start (hr : wr.rowIs g 32 n (fun _ => .slice .none 0 0)) (h1 : B <= base) (h2 : base <= g) : GroupsAt B base g n wr (fun _ => []) (fun _ => .slice .none 0 0) :=
 ⟨hr, fun j _ => ⟨.none, 0, rfl, ViewR.nil _ _ _⟩, fun i j _ _ _ b hb => (by cases hb), h1, h2⟩
theorem GroupsAt.on (h : GroupsAt B base g n wr E uv) (hb : Below wr.heap.size wr w2) : GroupsAt B base g n w2 E uv :=
 ⟨rowIs_on h.row (hb.block g h.row.lt), fun j hj => by
   obtain ⟨A, c, e, hv⟩ := h.rows j hj
   exact ⟨A, c, e, hv.below hb (Nat.le_trans h.low (Nat.le_trans h.ge (Nat.le_of_lt h.row.lt)))⟩, h.dis, h.low, h.ge⟩
theorem GroupsAt.apart (h : GroupsAt B base g n wr E uv) (hj : j < n) : (uv j).ownBlock ≠ some g := fun e => by
 obtain ⟨A, c, e1, hv⟩ := h.rows j hj
 rw [e1] at e
 obtain ⟨cs, hg, _⟩ := h.row
 rcases hv.row.2 with ⟨e2, _⟩ | ⟨g', cp, cur, e2, _, hgg, _⟩
 ·rw [e2] at e; cases e
 ·rw [e2] at e
  have e3 : g' = g := by simpa [Value.ownBlock] using e
  subst e3
  have h3 := hg.symm.trans hgg
  simp at h3
def updE (E : Nat -> List REnt) (j : Nat) (x : List REnt) : Nat -> List REnt := fun i => if i = j then x else E i
def updV (uv : Nat -> Value) (j : Nat) (x : Value) : Nat -> Value := fun i => if i = j then x else uv i
theorem GroupsAt.push (h : GroupsAt B base g n wr E uv) (hj : j < n) (hv : uv j = .slice A (E j).length c) (hb : Below wr.heap.size wr w2) (q1 : RdInts w2 B e.2.1 e.1.1.2) (q2 : RdLits w2 B e.2.2 e.1.2)
 (hg : (w2.alloc o).grownBy w4 (Value.slice A (E j).length c).ownBlock)
 (hat : (Value.slice A (E j).length c).ownBlock = some g2 \/ g2 = (w2.alloc o).heap.size)
 (hown : w4.ownsRow base 138 3 (.slice (some ⟨g2, 0, .none⟩) ((E j).length + 1) cap) ((E j).length + 1) (flatG (E j) ++ [.int .i64 e.1.1.1, e.2.1, e.2.2])) :
 GroupsAt B base g n (w4.setCell ⟨g, j, .none⟩ (.slice (some ⟨g2, 0, .none⟩) ((E j).length + 1) cap)) (updE E j (E j ++ [e])) (updV uv j (.slice (some ⟨g2, 0, .none⟩) ((E j).length + 1) cap)) /\
 Below base wr (w4.setCell ⟨g, j, .none⟩ (.slice (some ⟨g2, 0, .none⟩) ((E j).length + 1) cap)) := by
 obtain ⟨A', c', e1, hvj⟩ := h.rows j hj
 rw [hv] at e1
 injection e1 with e1 _ e2
 subst e1 e2
 have hlow := h.low
 have hge := h.ge
 have hlt := h.row.lt
 have hle : base <= wr.heap.size := Nat.le_trans hge (Nat.le_of_lt hlt)
 obtain ⟨hpu, hpb⟩ := hvj.push hlow hle hb q1 q2 hg hown
 have hg' := grown_from_alloc hg
 have hs := hb.size
 have hgne : (Value.slice A (E j).length c).ownBlock ≠ some g := by rw [<- hv]; exact h.apart hj
 have hgk : w4.heap[g]? = wr.heap[g]? := (hg'.block g (by omega) (fun e => hgne e.symm)).trans (hb.block g hlt)
 have hbset : Below base w4 (w4.setCell ⟨g, j, .none⟩ (.slice (some ⟨g2, 0, .none⟩) ((E j).length + 1) cap)) := (Below.refl base w4).setCell hge _
 have hg2 : g2 ≠ g := by
  rcases hat with hat | hat
  ·exact fun e => hgne (by rw [hat, e])
  ·have h5 : (w2.alloc o).heap.size = w2.heap.size + 1 := by simp
   omega
 refine ⟨⟨?_, fun i hi => ?_, fun i k hi hk hne b hbi => ?_, hlow, hge⟩, hpb.trans hbset⟩
 ·have h1 := (rowIs_on h.row hgk).set j (.slice (some ⟨g2, 0, .none⟩) ((E j).length + 1) cap)
  exact h1.congr fun i hi => by
   unfold updV
   by_cases e3 : i = j
   ·simp [e3]
   ·simp [e3]
 ·by_cases e3 : i = j
  ·subst e3
   have hl : (E i ++ [e]).length = (E i).length + 1 := by simp
   refine ⟨some ⟨g2, 0, .none⟩, cap, by simp [updV, updE], ?_⟩
   simp only [updE, if_true]
   refine hpu.keep (fun b hb' => ?_) (hbset.mono hlow)
   have hb2 : g2 = b := by simpa [Value.ownBlock] using hb'
   exact Below.heap_setCell _ _ _ _ (by show b ≠ g; omega)
  ·obtain ⟨A1, c1, e4, hv1⟩ := h.rows i hi
   refine ⟨A1, c1, by simp [updV, updE, e3, e4], ?_⟩
   simp only [updE, if_neg e3]
   refine hv1.keep (fun b hb' => ?_) ((hpb.trans hbset).mono hlow)
   have hbi : (uv i).ownBlock = some b := by rw [e4]; exact hb'
   have hbg : b ≠ g := fun e5 => h.apart hi (by rw [hbi, e5])
   have hbj : (Value.slice A (E j).length c).ownBlock ≠ some b := by rw [<- hv]; exact h.dis i j hi hj e3 b hbi
   have hbl : b < wr.heap.size := (hv1.row.lt b hb').2
   exact (Below.heap_setCell _ _ _ _ (by show b ≠ g; exact hbg)).trans ((hg'.block b (by omega) (fun e5 => hbj e5.symm)).trans (hb.block b hbl))
 ·unfold updV at hbi ⊢
  have hnew : ∀ q, q < n -> q ≠ j -> ∀ b, (uv q).ownBlock = some b -> b ≠ g2 := fun q hq hqj b hbq e5 => by
   obtain ⟨A1, c1, e4, hv1⟩ := h.rows q hq
   have hbl : b < wr.heap.size := (hv1.row.lt b (by rw [<- e4]; exact hbq)).2
   rcases hat with hat | hat
   ·exact h.dis q j hq hj hqj b hbq (by rw [hv, hat, e5])
   ·have h5 : (w2.alloc o).heap.size = w2.heap.size + 1 := by simp
    omega
  by_cases e3 : i = j
  ·rw [if_pos e3] at hbi
   have hb2 : g2 = b := by simpa [Value.ownBlock] using hbi
   rw [if_neg (by omega)]
   exact fun e6 => hnew k hk (by omega) b e6 hb2.symm
  ·rw [if_neg e3] at hbi
   by_cases e4 : k = j
   ·rw [if_pos e4]
    have := hnew i hi e3 b hbi
    intro e6
    have e7 : g2 = b := by simpa [Value.ownBlock] using e6
    exact this e7.symm
   ·rw [if_neg e4]
    exact h.dis i k hi hk hne b hbi
end
end Go.Proofs.YtmnolnmpglanfaaGreatDoor
namespace Go.Proofs
open Go.Shelf
def Tryz.cloneI_ren : Go.Shelf.Ren := ⟨fun | 15 => 114 | n => n, fun | 22 => 22 | 3 => 3 | 4 => 4 | n => n, fun | n => n⟩
theorem Tryz.cloneI : Go.Proofs.Lays2.n15 Tryz.prog Tryz.cloneI_ren := {
 mixed := by kernel_rfl
 f15 := Tryz.func114.trans (congrArg some (by kernel_rfl))
 t3 := Tryz.underlying3
 a3 := Tryz.isAgg3
 z3 := Tryz.sizeOf3
 v3 := Tryz.zeroValue3
 t4 := Tryz.underlying4
 a4 := Tryz.isAgg4
 z4 := Tryz.sizeOf4
 v4 := Tryz.zeroValue4
 t22 := Tryz.underlying22
 a22 := Tryz.isAgg22
 z22 := Tryz.sizeOf22
 v22 := Tryz.zeroValue22
 i3 := by kernel_rfl }
end Go.Proofs
namespace Go.Proofs.YtmnolnmpglanfaaGreatDoor
open Go.RowKit
set_option maxRecDepth 100000 in
theorem cloneI_any (v : Value) (xs : List Int) (w : World) (h : RdInts w w.heap.size v xs) (hn : xs.length <= 1048576) :
 Calls Tryz.prog 114 #[v] w fun e w' => ∃ A c, e = .returned (.slice A xs.length c) /\ OwnInts w' w.heap.size w'.heap.size (.slice A xs.length c) xs /\ Below w.heap.size w w' := by
 obtain ⟨A, c, rfl, hc, hx⟩ := h
 have fin : ∀ (v' : Value) (w' : World), w'.ownsRow w.heap.size 3 1 v' xs.length (xs.map (Value.int .i64)) -> Below w.heap.size w w' -> ∃ A c, Ending.returned v' = .returned (.slice A xs.length c) /\ OwnInts w' w.heap.size w'.heap.size (.slice A xs.length c) xs /\ Below w.heap.size w w' := fun v' w' ho hb => by
  have ho2 : OwnInts w' w.heap.size w'.heap.size v' xs := ⟨ho, fun g hg => (ho.lt g hg).2⟩
  obtain ⟨A', c', rfl⟩ := ho2.form
  exact ⟨A', c', rfl, ho2, hb⟩
 by_cases hp : 0 < xs.length
 ·obtain ⟨b, o, rfl, hb, hk⟩ := hx hp
  have hcon := Any.slices_Clone_int Tryz.cloneI b o xs.length c xs w (Nat.le_refl _) (by omega) (fun j hj => by rw [hk j hj]; simp [hj])
  refine Calls.mono hcon ?_
  rintro e w' ⟨v', rfl, ho, _, hb'⟩
  exact fin v' w' (by rw [List.take_length] at ho; exact ho) hb'
 ·have h0 : xs = [] := List.eq_nil_of_length_eq_zero (by omega)
  subst h0
  rcases A with _ | a
  ·have hcon := Any.slices_Clone_int_nil Tryz.cloneI 0 c w
   refine Calls.mono hcon ?_
   rintro e w' ⟨rfl, rfl⟩
   exact ⟨none, 0, rfl, ⟨World.ownsRow_nil _ _ _ _, fun g hg => by cases hg⟩, Below.refl _ _⟩
  ·have hcon := Any.slices_Clone_int_zero Tryz.cloneI a c w
   refine Calls.mono hcon ?_
   rintro e w' ⟨v', rfl, ho, _, hb'⟩
   exact fin v' w' ho hb'
end Go.Proofs.YtmnolnmpglanfaaGreatDoor
namespace Go.Proofs
open Go.Shelf
def Tryz.sortI_ren : Go.Shelf.Ren := ⟨fun | 189 => 115 | 125 => 168 | 257 => 167 | 128 => 219 | 129 => 220 | 294 => 211 | 295 => 212 | 296 => 213 | 297 => 214 | 298 => 215 | 299 => 216 | 216 => 169 | 300 => 217 | 301 => 218 | 328 => 253 | 329 => 254 | 330 => 255 | 331 => 256 | 332 => 257 | 215 => 221 | 343 => 273 | n => n, fun | 28 => 22 | 3 => 3 | 46 => 153 | 0 => 0 | 51 => 179 | 53 => 86 | 4 => 4 | 183 => 259 | 182 => 258 | 131 => 163 | 5 => 5 | 9 => 9 | 218 => 284 | 222 => 287 | 228 => 303 | 229 => 304 | n => n, fun | n => n⟩
theorem Tryz.sortI : Go.Proofs.Lays.n189 Tryz.prog Tryz.sortI_ren := {
 mixed := by kernel_rfl
 f125 := Tryz.func168.trans (congrArg some (by kernel_rfl))
 f128 := Tryz.func219.trans (congrArg some (by kernel_rfl))
 f129 := Tryz.func220.trans (congrArg some (by kernel_rfl))
 f189 := Tryz.func115.trans (congrArg some (by kernel_rfl))
 f215 := Tryz.func221.trans (congrArg some (by kernel_rfl))
 f216 := Tryz.func169.trans (congrArg some (by kernel_rfl))
 f257 := Tryz.func167.trans (congrArg some (by kernel_rfl))
 f294 := Tryz.func211.trans (congrArg some (by kernel_rfl))
 f295 := Tryz.func212.trans (congrArg some (by kernel_rfl))
 f296 := Tryz.func213.trans (congrArg some (by kernel_rfl))
 f297 := Tryz.func214.trans (congrArg some (by kernel_rfl))
 f298 := Tryz.func215.trans (congrArg some (by kernel_rfl))
 f299 := Tryz.func216.trans (congrArg some (by kernel_rfl))
 f300 := Tryz.func217.trans (congrArg some (by kernel_rfl))
 f301 := Tryz.func218.trans (congrArg some (by kernel_rfl))
 f328 := Tryz.func253.trans (congrArg some (by kernel_rfl))
 f329 := Tryz.func254.trans (congrArg some (by kernel_rfl))
 f330 := Tryz.func255.trans (congrArg some (by kernel_rfl))
 f331 := Tryz.func256.trans (congrArg some (by kernel_rfl))
 f332 := Tryz.func257.trans (congrArg some (by kernel_rfl))
 f343 := Tryz.func273.trans (congrArg some (by kernel_rfl))
 t0 := Tryz.underlying0
 a0 := Tryz.isAgg0
 z0 := Tryz.sizeOf0
 v0 := Tryz.zeroValue0
 t3 := Tryz.underlying3
 a3 := Tryz.isAgg3
 z3 := Tryz.sizeOf3
 v3 := Tryz.zeroValue3
 t4 := Tryz.underlying4
 a4 := Tryz.isAgg4
 z4 := Tryz.sizeOf4
 v4 := Tryz.zeroValue4
 t5 := Tryz.underlying5
 a5 := Tryz.isAgg5
 z5 := Tryz.sizeOf5
 v5 := Tryz.zeroValue5
 t9 := Tryz.underlying9
 a9 := Tryz.isAgg9
 z9 := Tryz.sizeOf9
 v9 := Tryz.zeroValue9
 t28 := Tryz.underlying22
 a28 := Tryz.isAgg22
 z28 := Tryz.sizeOf22
 v28 := Tryz.zeroValue22
 t46 := Tryz.underlying153
 a46 := Tryz.isAgg153
 z46 := Tryz.sizeOf153
 v46 := Tryz.zeroValue153
 t51 := Tryz.underlying179
 a51 := Tryz.isAgg179
 z51 := Tryz.sizeOf179
 v51 := Tryz.zeroValue179
 t53 := Tryz.underlying86
 a53 := Tryz.isAgg86
 z53 := Tryz.sizeOf86
 v53 := Tryz.zeroValue86
 t131 := Tryz.underlying163
 a131 := Tryz.isAgg163
 z131 := Tryz.sizeOf163
 v131 := Tryz.zeroValue163
 t182 := Tryz.underlying258
 a182 := Tryz.isAgg258
 z182 := Tryz.sizeOf258
 v182 := Tryz.zeroValue258
 t183 := Tryz.underlying259
 a183 := Tryz.isAgg259
 z183 := Tryz.sizeOf259
 v183 := Tryz.zeroValue259
 t218 := Tryz.underlying284
 a218 := Tryz.isAgg284
 z218 := Tryz.sizeOf284
 v218 := Tryz.zeroValue284
 t222 := Tryz.underlying287
 a222 := Tryz.isAgg287
 z222 := Tryz.sizeOf287
 v222 := Tryz.zeroValue287
 t228 := Tryz.underlying303
 a228 := Tryz.isAgg303
 z228 := Tryz.sizeOf303
 v228 := Tryz.zeroValue303
 t229 := Tryz.underlying304
 a229 := Tryz.isAgg304
 z229 := Tryz.sizeOf304
 v229 := Tryz.zeroValue304 }
def Tryz.compactI_ren : Go.Shelf.Ren := ⟨fun | 20 => 116 | n => n, fun | 22 => 22 | 3 => 3 | 4 => 4 | 0 => 0 | n => n, fun | n => n⟩
theorem Tryz.compactI : Go.Proofs.Lays2.n20 Tryz.prog Tryz.compactI_ren := {
 mixed := by kernel_rfl
 f20 := Tryz.func116.trans (congrArg some (by kernel_rfl))
 t0 := Tryz.underlying0
 a0 := Tryz.isAgg0
 z0 := Tryz.sizeOf0
 v0 := Tryz.zeroValue0
 t3 := Tryz.underlying3
 a3 := Tryz.isAgg3
 z3 := Tryz.sizeOf3
 v3 := Tryz.zeroValue3
 t4 := Tryz.underlying4
 a4 := Tryz.isAgg4
 z4 := Tryz.sizeOf4
 v4 := Tryz.zeroValue4
 t22 := Tryz.underlying22
 a22 := Tryz.isAgg22
 z22 := Tryz.sizeOf22
 v22 := Tryz.zeroValue22
 i3 := by kernel_rfl }
end Go.Proofs
namespace Go.Proofs.YtmnolnmpglanfaaGreatDoor
open Go.RowKit Go.Sort
section
variable {w : World} {g c lo hi : Nat}
theorem heap_putI (w : World) (g q : Nat) (d : Array Int) (os : Array Obj) {cur : Array Value} {t : TypeId} (hg : w.heap[g]? = some (.cells cur t (0, 0))) :
 (Sort.grow (putRow (Value.int .i64) (Sort.ahead w q) g 0 d) os).heap[g]? = some (.cells (putCells (Value.int .i64) 0 d cur) t (0, 0)) := by
 have hlt : g < w.heap.size := Blk.lt (w := w) (t := t) (cs := cur) hg
 simp only [putRow, mapBlock, Sort.grow, Sort.ahead, Array.getElem?_append, Array.size_modify]
 rw [if_pos hlt, Array.getElem?_modify, if_pos rfl, hg]
 rfl
theorem Only.putI (w : World) (g q : Nat) (d : Array Int) (os : Array Obj) : Only g (g + 1) w (Sort.grow (putRow (Value.int .i64) (Sort.ahead w q) g 0 d) os) := by
 refine ⟨rfl, rfl, rfl, ?_, fun k hk ho => ?_⟩
 ·simp [putRow, mapBlock, Sort.grow, Sort.ahead]
 ·have hne : ¬ g = k := by omega
  simp only [putRow, mapBlock, Sort.grow, Sort.ahead, Array.getElem?_append, Array.size_modify, Array.getElem?_modify, hne, if_false]
  rw [if_pos hk]
theorem growI_none (w : World) : Sort.grow w #[] = w := by simp [Sort.grow]
theorem OnlyI.wide {w w' : World} (h : Only g (g + 1) w w') (h1 : lo <= g) (h2 : g < hi) : Only lo hi w w' := ⟨h.os, h.tape, h.output, h.size, fun k hk ho => h.block k hk (by omega)⟩
theorem OwnInts.nilI (w : World) (lo hi : Nat) : OwnInts w lo hi (.slice Option.none 0 0) [] := ⟨by simpa using World.ownsRow_nil w lo 3 1, fun g hg => by cases hg⟩
theorem OwnInts.rowI {v : Value} {zs : List Int} (h : OwnInts w lo hi v zs) : (v = .slice Option.none 0 0 /\ zs = []) \/ ∃ g c cur, v = .slice (some ⟨g, 0, Option.none⟩) zs.length c /\ lo <= g /\ g < hi /\ g < w.heap.size /\ w.heap[g]? = some (.cells cur 3 (0, 0)) /\ zs.length <= c /\ c <= maxLen /\ cur.size = c /\ cur.toList.take zs.length = zs.map (Value.int .i64) := by
 obtain ⟨⟨hl, h⟩, hlt⟩ := h
 rcases h with ⟨rfl, h0⟩ | ⟨g, cap, cur, rfl, hb, hg, h1, h2, h3, h4⟩
 ·exact .inl ⟨rfl, List.eq_nil_of_length_eq_zero h0⟩
 ·exact .inr ⟨g, cap, cur, rfl, hb, hlt g rfl, Blk.lt (w := w) (t := 3) (cs := cur) hg, hg, h1, h2, by simpa using h3, by simpa using h4⟩
theorem OwnInts.holdsI {zs : List Int} (h : OwnInts w lo hi (.slice (some ⟨g, 0, Option.none⟩) zs.length c) zs) : Holds (Value.int .i64) w g 0 zs.toArray := fun j hj => by
 have hj2 : j < zs.length := by simpa using hj
 rcases h.rowI with ⟨e, _⟩ | ⟨g', c', cur, e, _, _, _, hg, _⟩
 ·cases e
 ·injection e with e1 _ _
  injection e1 with e1
  injection e1 with e1
  subst e1
  refine ⟨?_, by simp [World.frozen?, hg]⟩
  obtain ⟨A, cc, e2, _, hx⟩ := h.rd
  injection e2 with e2 _ _
  obtain ⟨b, o, e3, _, hk⟩ := hx (by omega)
  rw [e3] at e2
  injection e2 with e2
  injection e2 with e4 e5
  subst e4 e5
  rw [hk j hj2, getElem!_pos zs.toArray j hj]
  simp
theorem OwnInts.putI {zs : List Int} (h : OwnInts w lo hi (.slice (some ⟨g, 0, Option.none⟩) zs.length c) zs) (q : Nat) (d : List Int) (hs : d.length = zs.length) (os : Array Obj) :
 OwnInts (Sort.grow (putRow (Value.int .i64) (Sort.ahead w q) g 0 d.toArray) os) lo hi (.slice (some ⟨g, 0, Option.none⟩) d.length c) d := by
 rcases h.rowI with ⟨e, _⟩ | ⟨g', c', cur, e, h1, h2, h3, hg, h4, h5, h6, h7⟩
 ·cases e
 ·injection e with e1 _ e2
  injection e1 with e1
  injection e1 with e1
  subst e1 e2
  refine ⟨⟨by simp, .inr ⟨g, c, _, rfl, h1, heap_putI w g q d.toArray os hg, by omega, h5, by simp [putCells, h6], ?_⟩⟩, fun g2 hg2 => by simp [Value.ownBlock] at hg2; omega⟩
  apply List.ext_getElem?
  intro j
  by_cases hj : j < d.length
  ·have hjc : j < cur.size := by omega
   rw [List.getElem?_take_of_lt (by omega), Array.getElem?_toList]
   simp only [putCells, Array.getElem?_mapIdx]
   rw [Array.getElem?_eq_getElem hjc, Option.map_some, if_pos ⟨Nat.zero_le _, by simpa using hj⟩, Nat.sub_zero]
   rw [getElem!_pos d.toArray j (by simpa using hj)]
   simp [hj]
  ·rw [List.getElem?_eq_none (by simp; omega), List.getElem?_eq_none (by simp; omega)]
theorem OwnInts.takeI {xs ys : List Int} (h : OwnInts w lo hi (.slice (some ⟨g, 0, Option.none⟩) (xs ++ ys).length c) (xs ++ ys)) : OwnInts w lo hi (.slice (some ⟨g, 0, Option.none⟩) xs.length c) xs := by
 rcases h.rowI with ⟨e, _⟩ | ⟨g', c', cur, e, h1, h2, h3, hg, h4, h5, h6, h7⟩
 ·cases e
 ·injection e with e1 _ e2
  injection e1 with e1
  injection e1 with e1
  subst e1 e2
  rw [List.length_append] at h4
  refine ⟨⟨by simp, .inr ⟨g, c, cur, rfl, h1, hg, by omega, h5, by simpa using h6, ?_⟩⟩, fun g2 hg2 => by simp [Value.ownBlock] at hg2; omega⟩
  have h8 := congrArg (List.take xs.length) h7
  rw [List.take_take, List.length_append, Nat.min_eq_left (by omega)] at h8
  rw [Nat.mul_one, h8]
  simp
end
def sortI (zs : List Int) : List Int := zs.mergeSort fun x y => decide (x <= y)
theorem sortI_length (zs : List Int) : (sortI zs).length = zs.length := by simp [sortI, List.length_mergeSort]
theorem sortI_mem {zs : List Int} {x : Int} : x ∈ sortI zs <-> x ∈ zs := by simp [sortI, List.mem_mergeSort]
theorem sortI_up (zs : List Int) : (sortI zs).Pairwise (· <= ·) := by
 have h := List.pairwise_mergeSort (le := fun x y : Int => decide (x <= y)) (fun a b c h1 h2 => by simp at h1 h2 ⊢; omega) (fun a b => by simp; omega) zs
 exact h.imp fun h => by simpa using h
set_option maxRecDepth 100000 in
theorem sortI_any (v : Value) (zs : List Int) (lo hi : Nat) (w : World) (h : OwnInts w lo hi v zs) (hn : zs.length <= 1048576) :
 Calls Tryz.prog 115 #[v] w fun e w' => e = .returned (.tuple #[]) /\ OwnInts w' lo hi v (sortI zs) /\ Only lo hi w w' := by
 rcases h.rowI with ⟨rfl, rfl⟩ | ⟨g, c, cur, rfl, h1, h2, h3, hg, h4, h5, h6, h7⟩
 ·have hcon := Any.slices_Sort_int_none Tryz.sortI none 0 w
  refine Calls.mono hcon ?_
  rintro e w' ⟨rfl, rfl⟩
  exact ⟨rfl, by simpa [sortI] using OwnInts.nilI _ lo hi, Only.refl _ _ _⟩
 ·have hcon := Any.slices_Sort_int Tryz.sortI g 0 c zs w h.holdsI h3 (by omega)
  refine Calls.mono hcon ?_
  rintro e w' ⟨rfl, n, os, rfl⟩
  have hp := h.putI n (sortI zs) (sortI_length zs) os
  rw [sortI_length] at hp
  exact ⟨rfl, hp, OnlyI.wide (Only.putI w g n (sortI zs).toArray os) h1 h2⟩
theorem compact_len (zs : List Int) : (Lib.compact zs).length <= zs.length := by
 unfold Lib.compact Lib.compactUpTo
 rw [List.length_map]
 exact Nat.le_trans (List.length_filter_le _ _) (by simp)
theorem arrI_at (zs : List Int) {i : Nat} (h : i < zs.length) : zs.toArray[i]! = zs[i] := by rw [getElem!_pos zs.toArray i (by simpa using h)]; simp
theorem compact_up {zs : List Int} (h : zs.Pairwise (· <= ·)) : (Lib.compact zs).Pairwise (· < ·) := by
 unfold Lib.compact Lib.compactUpTo
 rw [List.pairwise_map]
 have hr : ((List.range zs.length).filter (Lib.keeps zs.toArray)).Pairwise (· < ·) := List.Pairwise.sublist List.filter_sublist List.pairwise_lt_range
 refine hr.imp_of_mem fun {i j} hi hj hij => ?_
 have hil : i < zs.length := List.mem_range.1 (List.mem_filter.1 hi).1
 obtain ⟨hjl, hk⟩ := List.mem_filter.1 hj
 have hjl : j < zs.length := List.mem_range.1 hjl
 have hne : zs.toArray[j]! ≠ zs.toArray[j - 1]! := by
  intro e
  rw [Lib.keeps_neg (by omega) e] at hk
  cases hk
 rw [arrI_at zs hjl, arrI_at zs (show j - 1 < zs.length by omega)] at hne
 have h1 := List.pairwise_iff_getElem.1 h (j - 1) j (by omega) hjl (by omega)
 have h2 : zs[i] <= zs[j - 1]'(by omega) := by
  rcases Nat.lt_or_ge i (j - 1) with hlt | hge
  ·exact List.pairwise_iff_getElem.1 h i (j - 1) hil (by omega) hlt
  ·have : i = j - 1 := by omega
   subst this
   exact Int.le_refl _
 rw [arrI_at zs hil, arrI_at zs hjl]
 omega
theorem compact_mem {zs : List Int} {b : Int} : b ∈ Lib.compact zs <-> b ∈ zs := by
 unfold Lib.compact Lib.compactUpTo
 constructor
 ·intro h
  obtain ⟨i, hi, rfl⟩ := List.mem_map.1 h
  have hil : i < zs.length := List.mem_range.1 (List.mem_filter.1 hi).1
  rw [arrI_at zs hil]
  exact List.getElem_mem hil
 ·intro h
  obtain ⟨i, hi, rfl⟩ := List.getElem_of_mem h
  clear h
  induction i with
  | zero => exact List.mem_map.2 ⟨0, List.mem_filter.2 ⟨List.mem_range.2 hi, Lib.keeps_lt_one _ 0 (by omega)⟩, arrI_at zs hi⟩
  | succ i ih =>
   by_cases e : zs.toArray[i + 1]! = zs.toArray[i + 1 - 1]!
   ·rw [Nat.add_sub_cancel, arrI_at zs hi, arrI_at zs (show i < zs.length by omega)] at e
    rw [e]
    exact ih (by omega)
   ·exact List.mem_map.2 ⟨i + 1, List.mem_filter.2 ⟨List.mem_range.2 hi, Lib.keeps_pos e⟩, arrI_at zs hi⟩
set_option maxRecDepth 100000 in
theorem compactI_any (v : Value) (zs : List Int) (lo hi : Nat) (w : World) (h : OwnInts w lo hi v zs) (hn : zs.length <= 1048576) :
 Calls Tryz.prog 116 #[v] w fun e w' => ∃ A c, e = .returned (.slice A (Lib.compact zs).length c) /\ OwnInts w' lo hi (.slice A (Lib.compact zs).length c) (Lib.compact zs) /\ Only lo hi w w' := by
 rcases h.rowI with ⟨rfl, rfl⟩ | ⟨g, c, cur, rfl, h1, h2, h3, hg, h4, h5, h6, h7⟩
 ·have hcon := Any.slices_Compact_int_empty Tryz.compactI none 0 w
  refine Calls.mono hcon ?_
  rintro e w' ⟨rfl, rfl⟩
  exact ⟨none, 0, rfl, by simpa [Lib.compact, Lib.compactUpTo] using OwnInts.nilI _ lo hi, Only.refl _ _ _⟩
 ·have hcon := Any.slices_Compact_int Tryz.compactI g 0 c zs w h.holdsI (by omega) h4
  refine Calls.mono hcon ?_
  rintro e w' ⟨rfl, q, rfl⟩
  have hcl := compact_len zs
  have hp := h.putI q (Lib.compact zs ++ List.replicate (zs.length - (Lib.compact zs).length) 0) (by simp; omega) #[]
  have ho := Only.putI w g q (Lib.compact zs ++ List.replicate (zs.length - (Lib.compact zs).length) 0).toArray #[]
  rw [growI_none] at hp ho
  exact ⟨_, c, rfl, hp.takeI, OnlyI.wide ho h1 h2⟩
open Go.RowKit
theorem cmpLessI_any (x y : Int) (w : World) :
 Calls Tryz.prog 169 #[.int .i64 x, .int .i64 y] w fun e w' => e = .returned (.bool (decide (x < y))) /\ w' = w := by
 go_enter Tryz.func169, Tryz.ntmps169
 go_wp2
 go_ret
 simp
theorem cmpLessI_is {x y : Int} {b : Bool} (h : decide (x < y) = b) (w : World) :
 Calls Tryz.prog 169 #[.int .i64 x, .int .i64 y] w fun e w' => e = .returned (.bool b) /\ w' = w := h ▸ cmpLessI_any x y w
def LessI (T : List Int) (m : Int) (i : Nat) : Prop := ∀ k (h : k < T.length), k < i -> T[k] < m
def FromI (T : List Int) (m : Int) (j : Nat) : Prop := ∀ k (h : k < T.length), j <= k -> m <= T[k]
theorem lessI_mid {T : List Int} {m : Int} {h : Nat} (hup : T.Pairwise (· <= ·)) (hh : h < T.length) (e : T[h] < m) : LessI T m (h + 1) := fun k hk hlt => by
 by_cases e2 : k = h
 ·subst e2
  exact e
 ·have := List.pairwise_iff_getElem.1 hup k h hk hh (by omega)
  omega
theorem fromI_mid {T : List Int} {m : Int} {h : Nat} (hup : T.Pairwise (· <= ·)) (hh : h < T.length) (e : ¬ T[h] < m) : FromI T m h := fun k hk hle => by
 by_cases e2 : k = h
 ·subst e2
  omega
 ·have := List.pairwise_iff_getElem.1 hup h k hh hk (by omega)
  omega
set_option maxHeartbeats 2000000 in
set_option maxRecDepth 100000 in
theorem searchI_any (v : Value) (T : List Int) (m : Int) (B : Nat) (w : World) (h : RdInts w B v T) (hup : T.Pairwise (· <= ·)) (hn : T.length <= 1048576) :
 Calls Tryz.prog 117 #[v, .int .i64 m] w fun e w' =>
  (∃ (i : Nat) (R : Bool), e = .returned (.tuple #[.int .i64 i, .bool R]) /\ i <= T.length /\ LessI T m i /\ FromI T m i) /\ w' = w := by
 have HU := Lib.hid hup
 have H := Lib.hid h
 obtain ⟨A, c, rfl, hc, hcell⟩ := h
 have HC := Lib.hid hcell
 clear hup hcell
 go_enter Tryz.func117, Tryz.ntmps117
 go_wp2_with fail
 go_loopg [7, 8] T.length (fun q vi vj wr => ∃ i j : Nat, vi = .int .i64 i /\ vj = .int .i64 j /\ i <= j /\ j <= T.length /\ j - i <= q /\ wr = w /\ Hid (LessI T m i /\ FromI T m j))
 case atStart => exact ⟨0, T.length, rfl, rfl, Nat.zero_le _, Nat.le_refl _, Nat.sub_le _ _, rfl, fun k _ hk => absurd hk (by omega), fun k hk hle => absurd hk (by omega)⟩
 case round =>
  obtain ⟨i, j, rfl, rfl, hij, hj, hq, rfl, HI⟩ := hrel
  by_cases hlt : i < j
  ·obtain ⟨p, hp⟩ : ∃ p, p = (i + j) / 2 := ⟨_, rfl⟩
   have hp1 : i <= p := by omega
   have hp2 : p < j := by omega
   have hpl : p < T.length := by omega
   have HM := Lib.hid (show ((i : Int) + (j : Int)) / 2 = (p : Int) by omega)
   obtain ⟨b, o, rfl, hbB, kk⟩ := HC.out (by omega)
   have k1 := kk p hpl
   obtain ⟨K, hK⟩ : ∃ K, K = T[p] := ⟨_, rfl⟩
   rw [<- hK] at k1
   have HK := Lib.hid hK
   clear hK hp kk
   go_upto_region 5 with fail
   rw [HM.out]
   by_cases hl : K < m
   ·have hl2 : decide (K < m) = true := decide_eq_true hl
    have HN := Lib.hid (lessI_mid HU.out hpl (by rw [<- HK.out]; exact hl))
    have HL := Lib.hid hl2
    clear hl2 hl
    go_wp2_with (go_at_call 169; refine (cmpLessI_is HL.out _).mono ?_; rintro e w' ⟨rfl, rfl⟩)
    go_roundg (j - (p + 1))
    case measure => omega
    case rel => exact ⟨p + 1, j, by go_num, rfl, by omega, hj, Nat.le_refl _, rfl, HN.out, HI.out.2⟩
   ·have hl2 : decide (K < m) = false := decide_eq_false hl
    have HN := Lib.hid (fromI_mid HU.out hpl (by rw [<- HK.out]; exact hl))
    have HL := Lib.hid hl2
    clear hl2 hl
    go_wp2_with (go_at_call 169; refine (cmpLessI_is HL.out _).mono ?_; rintro e w' ⟨rfl, rfl⟩)
    go_roundg (p - i)
    case measure => omega
    case rel => exact ⟨i, p, rfl, rfl, hp1, by omega, Nat.le_refl _, rfl, HI.out.1, HN.out⟩
  ·obtain rfl : i = j := by omega
   have HNN : ∀ W (x : Int), Calls Tryz.prog 170 #[.int .i64 x] W fun e w' => e = .returned (.bool false) /\ w' = W := by
    intro W x
    go_enter Tryz.func170, Tryz.ntmps170
    go_wp2
    go_ret
    exact ⟨rfl, rfl⟩
   by_cases hpl : i < T.length
   ·obtain ⟨b, o, rfl, hbB, kk⟩ := HC.out (by omega)
    have k1 := kk i hpl
    obtain ⟨K, hK⟩ : ∃ K, K = T[i] := ⟨_, rfl⟩
    rw [<- hK] at k1
    clear hK kk
    by_cases e : K = m
    ·subst e
     go_wp2_with (go_at_call 170; refine (HNN _ _).mono ?_; rintro e w' ⟨rfl, rfl⟩)
     go_ret2
     exact ⟨⟨i, _, rfl, hj, HI.out.1, HI.out.2⟩, rfl⟩
    ·have hne : (K == m) = false := by simpa using e
     go_wp2_with (go_at_call 170; refine (HNN _ _).mono ?_; rintro e w' ⟨rfl, rfl⟩)
     go_ret2
     exact ⟨⟨i, _, rfl, hj, HI.out.1, HI.out.2⟩, rfl⟩
   ·go_wp2_with (go_at_call 170; refine (HNN _ _).mono ?_; rintro e w' ⟨rfl, rfl⟩)
    go_ret2
    exact ⟨⟨i, _, rfl, hj, HI.out.1, HI.out.2⟩, rfl⟩
end Go.Proofs.YtmnolnmpglanfaaGreatDoor
