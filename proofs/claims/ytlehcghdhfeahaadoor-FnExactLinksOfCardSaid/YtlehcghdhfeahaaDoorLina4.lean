/-
  Texts that the claim's last one imports, laid together: part 4 of 5. No condition of its own.
-/
import Derived.Deep.RegionHeld3
import Derived.Deep.DeepCutAuto
import Derived.StillTailTactics
import Derived.Deep.QuietTactic
import Derived.BigQuiet
import Derived.Test.YtlehcghdhfeahaaDoorLina2
import Derived.Test.YtlehcghdhfeahaaDoorLina3
/-
  The specification's table of links: the walk of l5Links.
-/
namespace Go.Proofs.YtlehcghdhfeahaaDoor
open Go.RowKit

/-- A square table of numbers: its rows lie behind its head, in their order. -/
structure GridAt (w : World) (g n : Nat) (T : Nat → Nat → Nat) : Prop where
  heads : w.rowIs g 23 n (fun i => .slice (some ⟨g + 1 + i, 0, none⟩) n n)
  rows : ∀ i, i < n → w.rowIs (g + 1 + i) 3 n (fun k => .int .i64 ((T i k : Nat) : Int))
section
variable {w w' : World} {g n lo hi B : Nat} {T T' : Nat → Nat → Nat}
theorem GridAt.cell (h : GridAt w g n T) {i k : Nat} (hi : i < n) (hk : k < n) : w.cell? ⟨g + 1 + i, k, none⟩ = some (.int .i64 ((T i k : Nat) : Int)) := (h.rows i hi).cell hk
theorem GridAt.head (h : GridAt w g n T) {i : Nat} (hi : i < n) : w.cell? ⟨g, i, none⟩ = some (.slice (some ⟨g + 1 + i, 0, none⟩) n n) := h.heads.cell hi
theorem GridAt.below (h : GridAt w g n T) (hb : Below B w w') (hg : g + 1 + n ≤ B) : GridAt w' g n T :=
  ⟨h.heads.of_block (hb.block g (by omega)), fun i hi => (h.rows i hi).of_block (hb.block _ (by omega))⟩
theorem GridAt.drewn (h : GridAt w g n T) : GridAt w.drew g n T := ⟨h.heads, h.rows⟩
theorem GridAt.set (h : GridAt w g n T) {i k x : Nat} (hi : i < n) (hT : ∀ a b, T' a b = if a = i ∧ b = k then x else T a b) : GridAt (w.setCell ⟨g + 1 + i, k, none⟩ (.int .i64 ((x : Nat) : Int))) g n T' := by
  refine ⟨h.heads.setOther (by show g ≠ g + 1 + i; omega) _, fun j hj => ?_⟩
  by_cases e : j = i
  · subst e
    refine ((h.rows j hj).set k (.int .i64 ((x : Nat) : Int))).congr fun b _ => ?_
    rw [hT]
    by_cases e2 : b = k <;> simp [e2]
  · refine ((h.rows j hj).setOther (by show g + 1 + j ≠ g + 1 + i; omega) _).congr fun b _ => ?_
    rw [hT, if_neg (fun h => e h.1)]
theorem GridAt.congr (h : GridAt w g n T) (e : ∀ i k, i < n → k < n → T i k = T' i k) : GridAt w g n T' := ⟨h.heads, fun i hi => (h.rows i hi).congr fun k hk => by rw [e i k hi hk]⟩
theorem GridAt.lt (h : GridAt w g n T) : g < w.heap.size := h.heads.lt
end

set_option maxHeartbeats 4000000 in
set_option maxRecDepth 100000 in
theorem l5Links_any (v : Value) (p : LProg) (w : World) (h : RdProg w w.heap.size v p) (hs : szP p ≤ 1048576) (hn : p.1.length ≤ 24) (hf : ∀ x ∈ asksOf p.2, AskFits p.1.length x) :
    Calls Tryd.prog 64 #[v] w fun e w' => ∃ g, e = .returned (.slice (some ⟨g, 0, none⟩) p.1.length p.1.length) ∧ GridAt w' g p.1.length (cellV (asksOf p.2)) ∧ w.heap.size ≤ g ∧ g + 1 + p.1.length ≤ w'.heap.size ∧ Below w.heap.size w w' := by
  have HP := Lib.hid h
  have HF := Lib.hid hf
  have hs' := hs
  unfold szP at hs'
  have HBL := Lib.hid (show ∀ r ∈ p.2, r.2.length ≤ 1048576 from fun r hr => by
    obtain ⟨k, hk, rfl⟩ := List.getElem_of_mem hr
    have := sz_le_totR p.2 k hk
    unfold szR at this
    omega)
  obtain ⟨a, b, rfl, hA, hR⟩ := h
  have HR := Lib.hid hR
  obtain ⟨A, c, rfl, hcA, _⟩ := hA
  obtain ⟨A2, c2, rfl, hcR, _⟩ := hR
  have hmk1 := fun W => run_make_row' (P := Tryd.prog) 86 23 (.slice none 0 0) 24 Tryd.underlying86 Tryd.infoIntS rfl .i64 .i64 p.1.length (by omega) (by omega) W
  have hmk2 := fun W => run_make_row' (P := Tryd.prog) 23 3 (.int .i64 0) 8 Tryd.underlying23 Tryd.infoInt rfl .i64 .i64 p.1.length (by omega) (by omega) W
  clear hf
  obtain ⟨n, hne⟩ : ∃ n, n = p.1.length := ⟨_, rfl⟩
  rw [← hne] at hmk1 hmk2 hn HF hs' hcA ⊢
  obtain ⟨rs, hrs⟩ : ∃ rs, rs = p.2 := ⟨_, rfl⟩
  rw [← hrs] at HF HBL HR hs' hcR ⊢
  clear hne hrs
  go_enter Tryd.func64, Tryd.ntmps64
  go_upto_region 1 with fail
  obtain ⟨w1, hw1⟩ : ∃ w1, w1 = w.alloc (Obj.cells #[Value.slice A n c, Value.slice A2 rs.length c2] 40) := ⟨_, rfl⟩
  have X1 : Blk w1 w.heap.size 40 #[.slice A n c, .slice A2 rs.length c2] := by rw [hw1]; exact Blk.new _ _ _
  have B1 : Below w.heap.size w w1 := by rw [hw1]; exact below1 _ _
  have hs1 : w1.heap.size = w.heap.size + 1 := by rw [hw1]; simp
  rw [← hw1]
  have x0 : w1.cell? ⟨w.heap.size, 0, none⟩ = some (.slice A n c) := X1.cell 0
  clear hw1
  go_upto_region 2 with fail
  obtain ⟨g, hg⟩ : ∃ g, g = w.heap.size + 1 := ⟨_, rfl⟩
  obtain ⟨w2, hw2⟩ : ∃ w2, w2 = w1.alloc (Obj.cells (madeCells #[Value.slice none 0 0] n) 23) := ⟨_, rfl⟩
  have R2 : w2.rowIs g 23 n (fun _ => .slice none 0 0) := by rw [hw2, hg, ← hs1]; exact World.rowIs_made _ _ _ _
  have B2 : Below w.heap.size w w2 := by rw [hw2]; exact bthen B1 (below1 _ _)
  have hs2 : w2.heap.size = g + 1 := by rw [hw2, hg]; simp [hs1]
  have X2 : Blk w2 w.heap.size 40 #[.slice A n c, .slice A2 rs.length c2] := by rw [hw2]; exact X1.alloc _
  rw [← hw2, show w.heap.size + 1 = g from hg.symm]
  have hgw : w.heap.size < g := by omega
  have HS2 := Lib.hid hs2
  have HR2 := Lib.hid R2
  have HX2 := Lib.hid X2
  have HB2 := Lib.hid B2
  clear hw2 hg hs1 R2 X2 B2 X1 B1 hs2 hmk1 x0
  go_wp2_with fail
  go_loopw [4] (fun i wr => ∃ k : Nat, k ≤ n ∧ i = .int .i64 k ∧ wr.rowIs g 23 n (fun j => if j < k then .slice (some ⟨g + 1 + j, 0, none⟩) n n else .slice none 0 0) ∧ (∀ j, j < k → wr.rowIs (g + 1 + j) 3 n (fun _ => .int .i64 0)) ∧ wr.heap.size = g + 1 + k ∧ Below w.heap.size w wr ∧ Blk wr w.heap.size 40 #[.slice A n c, .slice A2 rs.length c2]) (fun i _ => n - (intOf i).toNat)
  case atStart => exact ⟨0, Nat.zero_le _, rfl, HR2.out.congr (fun j _ => by simp), fun j h => absurd h (Nat.not_lt_zero _), HS2.out, HB2.out, HX2.out⟩
  case round =>
    obtain ⟨k, hk, rfl, hr, hrows, hsz, hbe, hX⟩ := hrel
    have q0 : wr.cell? ⟨w.heap.size, 0, none⟩ = some (.slice A n c) := hX.cell 0
    by_cases hlt : k < n
    · have hck := hr.cell hlt
      rw [if_neg (Nat.lt_irrefl k)] at hck
      have hfk := hr.frozen k
      have hck3 : (wr.alloc (Obj.cells (madeCells #[Value.int .i64 0] n) 3)).cell? ⟨g, k, none⟩ = some (.slice none 0 0) := ((below1 wr _).cell (p := ⟨g, k, none⟩) (by show g < _; omega)).trans hck
      have hfk3 : (wr.alloc (Obj.cells (madeCells #[Value.int .i64 0] n) 3)).frozen? ⟨g, k, none⟩ = false := (hr.alloc _).frozen k
      have HN := Lib.hid (show ((wr.alloc (Obj.cells (madeCells #[Value.int .i64 0] n) 3)).setCell ⟨g, k, none⟩ (.slice (some ⟨g + 1 + k, 0, none⟩) n n)).rowIs g 23 n (fun j => if j < k + 1 then .slice (some ⟨g + 1 + j, 0, none⟩) n n else .slice none 0 0) ∧ (∀ j, j < k + 1 → ((wr.alloc (Obj.cells (madeCells #[Value.int .i64 0] n) 3)).setCell ⟨g, k, none⟩ (.slice (some ⟨g + 1 + k, 0, none⟩) n n)).rowIs (g + 1 + j) 3 n (fun _ => .int .i64 0)) ∧ ((wr.alloc (Obj.cells (madeCells #[Value.int .i64 0] n) 3)).setCell ⟨g, k, none⟩ (.slice (some ⟨g + 1 + k, 0, none⟩) n n)).heap.size = g + 1 + (k + 1) ∧ Below w.heap.size w ((wr.alloc (Obj.cells (madeCells #[Value.int .i64 0] n) 3)).setCell ⟨g, k, none⟩ (.slice (some ⟨g + 1 + k, 0, none⟩) n n)) ∧ Blk ((wr.alloc (Obj.cells (madeCells #[Value.int .i64 0] n) 3)).setCell ⟨g, k, none⟩ (.slice (some ⟨g + 1 + k, 0, none⟩) n n)) w.heap.size 40 #[.slice A n c, .slice A2 rs.length c2] from by
        refine ⟨((hr.alloc _).set k _).congr fun j hj => ?_, fun j hj => ?_, by simp [hsz]; omega, (hbe.alloc hbe.size _).setCell (by show w.heap.size ≤ g; omega) _, (hX.alloc _).far (by show w.heap.size ≠ g; omega) _⟩
        · by_cases e : j = k
          · subst e
            simp
          · rw [if_neg e]
            by_cases e2 : j < k
            · rw [if_pos e2, if_pos (by omega)]
            · rw [if_neg e2, if_neg (by omega)]
        · by_cases e : j = k
          · subst e
            have h1 := World.rowIs_made wr (.int .i64 0) n 3
            rw [hsz] at h1
            exact h1.setOther (by show g + 1 + j ≠ g; omega) _
          · exact ((hrows j (by omega)).alloc _).setOther (by show g + 1 + j ≠ g; omega) _)
      have hwsz : wr.heap.size = g + 1 + k := hsz
      clear hr hrows hbe hX hck hfk
      go_wp2_with fail
      go_roundw
      case rel => exact ⟨k + 1, by omega, by go_num, HN.out⟩
      case measure => simp [intOf]; omega
    · have HG := Lib.hid (show GridAt wr g n (cellV []) ∧ wr.heap.size = g + 1 + n ∧ Below w.heap.size w wr ∧ Blk wr w.heap.size 40 #[.slice A n c, .slice A2 rs.length c2] from by
        obtain rfl : k = n := by omega
        exact ⟨⟨hr.congr fun j hj => by rw [if_pos hj], fun j hj => hrows j hj⟩, hsz, hbe, hX⟩)
      clear hr hrows hbe hX hsz q0
      go_upto_region 6 with fail
      obtain ⟨G3, hsz3, BW3, X3⟩ := HG.out
      obtain ⟨w3, rfl⟩ : ∃ w3, w3 = wr := ⟨_, rfl⟩
      have HX3 := Lib.hid X3
      have HBW3 := Lib.hid BW3
      have HSZ3 := Lib.hid hsz3
      clear X3 BW3 hsz3 HG
      have HG3 := Lib.hid G3
      clear G3
      go_wp2_with fail
      go_loopw [5] (fun i wr => ∃ k : Nat, k ≤ rs.length ∧ i = .int .i64 k ∧ GridAt wr g n (cellV (asksOf (rs.take k))) ∧ Only g (g + 1 + n) w3 wr) (fun i _ => rs.length - (intOf i).toNat)
      case atStart => exact ⟨0, Nat.zero_le _, rfl, by simpa [asksOf] using HG3.out, Only.refl _ _ _⟩
      case round =>
        obtain ⟨k, hk, rfl, hat, hon⟩ := hrel
        have hs3 := HSZ3.out
        have BW : Below w.heap.size w wr := Only.then_ HBW3.out hon (by omega)
        have HON := Lib.hid hon
        have hsz0 := hon.size
        have q1 : wr.cell? ⟨w.heap.size, 1, none⟩ = some (.slice A2 rs.length c2) := (HX3.out.only hon (.inl hgw)).cell 1
        by_cases hlt : k < rs.length
        · obtain ⟨b, o, u0, u1, u2, rfl, hbB, k0, k1, k2, rfl, q3, q2⟩ := (HR.out.below BW (Nat.le_refl _)).get hlt
          have hwr : w.heap.size ≤ wr.heap.size := BW.size
          have Q2 := Lib.hid q2
          obtain ⟨A3, c3, rfl, _⟩ := q3
          obtain ⟨A4, c4, rfl, _⟩ := q2
          have hbl := HBL.out _ (List.getElem_mem hlt)
          clear hon
          go_upto_region 10 with fail
          obtain ⟨wv, hwv⟩ : ∃ wv, wv = wr.alloc (Obj.cells #[Value.int .i64 rs[k].1.1, Value.slice A3 rs[k].1.2.length c3, Value.slice A4 rs[k].2.length c4] 28) := ⟨_, rfl⟩
          have bv : Below wr.heap.size wr wv := by rw [hwv]; exact below1 _ _
          have X : Blk wv wr.heap.size 28 #[.int .i64 rs[k].1.1, .slice A3 rs[k].1.2.length c3, .slice A4 rs[k].2.length c4] := by rw [hwv]; exact Blk.new _ _ _
          rw [← hwv]
          have hvl := X.lt
          clear hwv k0 k1 k2 q1
          have hgr : g + 1 + n ≤ wr.heap.size := by omega
          have HATV := Lib.hid (hat.below bv hgr)
          have HX := Lib.hid X
          have HBV := Lib.hid bv
          clear hat X bv
          go_wp2_with fail
          obtain ⟨wo, rfl⟩ : ∃ wo, wo = wr := ⟨_, rfl⟩
          go_loopw [7] (fun i wr => ∃ m : Nat, m ≤ rs[k].2.length ∧ i = .int .i64 m ∧ GridAt wr g n (cellV (asksOf (rs.take k) ++ (rs[k].2.take m).map fun l => (rs[k].1.1, l))) ∧ Only g (g + 1 + n) wv wr) (fun i _ => rs[k].2.length - (intOf i).toNat)
          case atStart => exact ⟨0, Nat.zero_le _, rfl, by simpa using HATV.out, Only.refl _ _ _⟩
          case round =>
            obtain ⟨m, hm, rfl, hax, honx⟩ := hrel
            have hsx := honx.size
            have Xx := HX.out.only honx (.inr hgr)
            have q2 : wr.cell? ⟨wo.heap.size, 2, none⟩ = some (.slice A4 rs[k].2.length c4) := Xx.cell 2
            by_cases hltm : m < rs[k].2.length
            · obtain ⟨b5, o5, y0, y1, y2, rfl, hb5, l0, l1, l2, rfl, rfl, q5⟩ := (Q2.out.below ((HBV.out.mono hwr).trans (honx.below (by omega) (by omega))) (Nat.le_refl _)).get hltm
              obtain ⟨A5, c5, rfl, _⟩ := q5
              obtain ⟨x, hxe⟩ : ∃ x : LAsk, x = (rs[k].1.1, rs[k].2[m]) := ⟨_, rfl⟩
              have HXE := Lib.hid (show x.2.1 = rs[k].2[m].1 by rw [hxe])
              have HFX := Lib.hid (show AskFits n x by rw [hxe]; exact HF.out _ (asksOf_mem hlt hltm))
              obtain ⟨ps, hps⟩ : ∃ ps, ps = asksOf (rs.take k) ++ (rs[k].2.take m).map fun l => (rs[k].1.1, l) := ⟨_, rfl⟩
              have HPS := Lib.hid (show asksOf (rs.take k) ++ (rs[k].2.take (m + 1)).map (fun l => (rs[k].1.1, l)) = ps ++ [x] from by
                rw [take_snoc _ _ hltm, List.map_append, ← List.append_assoc, ← hps, hxe]; rfl)
              rw [← hps] at hax
              obtain ⟨p, hpe⟩ : ∃ p : Nat, rs[k].1.1 = (p : Int) := ⟨rs[k].1.1.toNat, by have := HFX.out.1; rw [hxe] at this; have := this.1; omega⟩
              have hpn : p < n := by have := HFX.out.1.2; rw [hxe] at this; have : rs[k].1.1 < (n : Int) := this; omega
              have x0 : wr.cell? ⟨wo.heap.size, 0, none⟩ = some (.int .i64 p) := by rw [← hpe]; exact Xx.cell 0
              clear hps
              go_upto_region 14 with fail
              obtain ⟨wl, hwl⟩ : ∃ wl, wl = wr.alloc (Obj.cells #[Value.int .i64 rs[k].2[m].1, Value.int .i64 rs[k].2[m].2.1, Value.slice A5 rs[k].2[m].2.2.length c5] 67) := ⟨_, rfl⟩
              have bl : Below wr.heap.size wr wl := by rw [hwl]; exact below1 _ _
              have Y : Blk wl wr.heap.size 67 #[.int .i64 rs[k].2[m].1, .int .i64 rs[k].2[m].2.1, .slice A5 rs[k].2[m].2.2.length c5] := by rw [hwl]; exact Blk.new _ _ _
              rw [← hwl]
              clear hwl l0 l1 l2 q2
              have z0 : wl.cell? ⟨wo.heap.size, 0, none⟩ = some (.int .i64 p) := (bl.cell (World.block_lt_of_cell? _ _ x0)).trans x0
              have HAL := Lib.hid (hax.below bl (by omega))
              have HOL := Lib.hid (honx.trans (Only.of_below bl))
              have hpi : (p : Int) < n := by omega
              have hlt1 : g + 1 + n ≤ wr.heap.size := by omega
              clear x0 hax honx Xx
              by_cases hk0 : rs[k].2[m].1 = 0
              · have hb0 : (rs[k].2[m].1 == 0) = true := by simp [hk0]
                have hb1 : (rs[k].2[m].1 == 1) = false := by simp; omega
                obtain ⟨hx1, hx2⟩ : 0 ≤ rs[k].2[m].2.1 ∧ rs[k].2[m].2.1 < n := by have := HFX.out.2 (.inl (HXE.out.trans hk0)); rw [hxe] at this; exact this
                obtain ⟨q, hqe⟩ : ∃ q : Nat, rs[k].2[m].2.1 = (q : Int) := ⟨rs[k].2[m].2.1.toNat, by omega⟩
                have hqn : q < n := by omega
                have hqi : (q : Int) < n := by omega
                have HXK := Lib.hid (show x.1 = (p : Int) ∧ x.2.1 = 0 ∧ x.2.2.1 = (q : Int) from ⟨by rw [hxe]; exact hpe, HXE.out.trans hk0, by rw [hxe]; exact hqe⟩)
                have e0 : wl.cell? ⟨wr.heap.size, 0, none⟩ = some (.int .i64 rs[k].2[m].1) := Y.cell 0
                have z1 : wl.cell? ⟨wr.heap.size, 1, none⟩ = some (.int .i64 q) := by rw [← hqe]; exact Y.cell 1
                obtain ⟨t, ht⟩ : ∃ t, t = cellV ps p q := ⟨_, rfl⟩
                have ht3 : t ≤ 3 := by rw [ht]; exact cellV_le _ _ _
                have HTE := Lib.hid ht.symm
                have z2 : wl.cell? ⟨g, p, none⟩ = some (.slice (some ⟨g + 1 + p, 0, none⟩) n n) := HAL.out.head hpn
                have z3 : wl.cell? ⟨g + 1 + p, q, none⟩ = some (.int .i64 ((t : Nat) : Int)) := by rw [ht]; exact HAL.out.cell hpn hqn
                have z4 : wl.frozen? ⟨g + 1 + p, q, none⟩ = false := (HAL.out.rows p hpn).frozen q
                have d0 : wl.drew.cell? ⟨wo.heap.size, 0, none⟩ = some (.int .i64 p) := z0
                have d1 : wl.drew.cell? ⟨wr.heap.size, 1, none⟩ = some (.int .i64 q) := z1
                have d2 : wl.drew.cell? ⟨g, p, none⟩ = some (.slice (some ⟨g + 1 + p, 0, none⟩) n n) := z2
                have d3 : wl.drew.cell? ⟨g + 1 + p, q, none⟩ = some (.int .i64 ((t : Nat) : Int)) := z3
                have d4 : wl.drew.frozen? ⟨g + 1 + p, q, none⟩ = false := z4
                have dd0 : wl.drew.drew.cell? ⟨wo.heap.size, 0, none⟩ = some (.int .i64 p) := z0
                have dd1 : wl.drew.drew.cell? ⟨wr.heap.size, 1, none⟩ = some (.int .i64 q) := z1
                have dd2 : wl.drew.drew.cell? ⟨g, p, none⟩ = some (.slice (some ⟨g + 1 + p, 0, none⟩) n n) := z2
                have dd3 : wl.drew.drew.cell? ⟨g + 1 + p, q, none⟩ = some (.int .i64 ((t : Nat) : Int)) := z3
                have dd4 : wl.drew.drew.frozen? ⟨g + 1 + p, q, none⟩ = false := z4
                have de0 : wl.drew.cell? ⟨wr.heap.size, 0, none⟩ = some (.int .i64 rs[k].2[m].1) := e0
                have dde0 : wl.drew.drew.cell? ⟨wr.heap.size, 0, none⟩ = some (.int .i64 rs[k].2[m].1) := e0
                clear ht hx1 hx2 hxe hpe hqe
                by_cases htt : t % 2 = 0
                · have hT : (((t : Nat) : Int) % 2 == 0) = true := by simp; omega
                  have HC0 := Lib.hid (show ∀ a b, cellV (ps ++ [x]) a b = if a = p ∧ b = q then t + 1 else cellV ps a b from fun a b => by
                    rw [cellV_snoc, HXK.out.1, HXK.out.2.1, HXK.out.2.2]
                    by_cases e : a = p ∧ b = q
                    · obtain ⟨rfl, rfl⟩ := e
                      rw [if_pos (show ((a : Int) = a ∧ (b : Int) = b) from ⟨rfl, rfl⟩), HTE.out, if_pos (show ((0 : Int) = 0 ∧ t % 2 = 0) from ⟨rfl, htt⟩), if_pos (show a = a ∧ b = b from ⟨rfl, rfl⟩)]
                    · rw [if_neg e, if_neg (by omega)])
                  clear hk0
                  go_upto_region 14 with fail
                  go_big_region
                  have HAM := HAL.out.drewn
                  have HOM := HOL.out.drewn
                  clear z0 z1 z2 z3 z4 e0 dd0 dd1 dd2 dd3 dd4 dde0
                  go_upto_region 15 with fail
                  generalize wl.drew = wm at *
                  have HN := Lib.hid (show GridAt (wm.setCell ⟨g + 1 + p, q, none⟩ (.int .i64 ((t : Int) + 1))).drew.drew g n (cellV (ps ++ [x])) from (GridAt.set (x := t + 1) HAM hpn HC0.out).drewn.drewn)
                  have HO6 := Lib.hid (show Only g (g + 1 + n) wv (wm.setCell ⟨g + 1 + p, q, none⟩ (.int .i64 ((t : Int) + 1))).drew.drew from (HOM.setCell ⟨by show g ≤ g + 1 + p; omega, by show g + 1 + p < g + 1 + n; omega⟩ _).drewn.drewn)
                  have s3 : wm.drew.cell? ⟨g + 1 + p, q, none⟩ = some (.int .i64 ((t : Nat) : Int)) := d3
                  have s4 : wm.drew.frozen? ⟨g + 1 + p, q, none⟩ = false := d4
                  obtain ⟨SS, hSS⟩ : ∃ SS : World → Prop, SS = (fun W => Below wm.heap.size wm W ∧ W.cell? ⟨wo.heap.size, 0, none⟩ = some (.int .i64 p) ∧ W.cell? ⟨wr.heap.size, 1, none⟩ = some (.int .i64 q) ∧ W.cell? ⟨g, p, none⟩ = some (.slice (some ⟨g + 1 + p, 0, none⟩) n n) ∧ W.cell? ⟨g + 1 + p, q, none⟩ = some (.int .i64 ((t : Nat) : Int))) := ⟨_, rfl⟩
                  have HB := Lib.hid (show ∀ W, SS W → (Below wm.heap.size wm W ∧ W.cell? ⟨wo.heap.size, 0, none⟩ = some (.int .i64 p) ∧ W.cell? ⟨wr.heap.size, 1, none⟩ = some (.int .i64 q) ∧ W.cell? ⟨g, p, none⟩ = some (.slice (some ⟨g + 1 + p, 0, none⟩) n n) ∧ W.cell? ⟨g + 1 + p, q, none⟩ = some (.int .i64 ((t : Nat) : Int))) from by rw [hSS]; exact fun W hW => hW)
                  have HS := Lib.hid (show ∀ W, Below wm.heap.size wm W → SS W from by
                    rw [hSS]
                    exact fun W hW => ⟨hW, (hW.cell (World.block_lt_of_cell? _ _ d0)).trans d0, (hW.cell (World.block_lt_of_cell? _ _ d1)).trans d1, (hW.cell (World.block_lt_of_cell? _ _ d2)).trans d2, (hW.cell (World.block_lt_of_cell? _ _ d3)).trans d3⟩)
                  have BB : Below wm.heap.size wm wm.drew := (Below.refl _ _).drew
                  have SB := HS.out _ BB
                  clear hSS d0 d1 d2 d3 d4 HAM HOM
                  refine wp_region_rel SS 22 23 (by kernel_rfl) rfl ?_
                  refine wpAnyR_pure (i := 0) (oi := _) ?v0 rfl rfl (by kernel_rfl) (by decide) (fun _ _ _ h => h) rfl ?hy0 (fun _ => SB) ?rest0
                  case hy0 => (intro W; go_simp; (try with_reducible rfl))
                  try simp only [List.setIfInBounds_toArray, List.set_cons_zero, List.set_cons_succ]
                  refine wpAnyR_pure (i := 1) (oi := _) ?v1 rfl rfl (by kernel_rfl) (by decide) (fun _ _ _ h => h) rfl ?hy1 (fun _ => SB) ?rest1
                  case hy1 => (intro W; go_simp; (try with_reducible rfl))
                  try simp only [List.setIfInBounds_toArray, List.set_cons_zero, List.set_cons_succ]
                  refine wpAnyR_pure (i := 2) (oi := _) ?v2 rfl rfl (by kernel_rfl) (by decide) (fun _ _ _ h => h) rfl ?hy2 (fun _ => SB) ?rest2
                  case hy2 => (intro W; go_simp; (try with_reducible rfl))
                  try simp only [List.setIfInBounds_toArray, List.set_cons_zero, List.set_cons_succ]
                  refine wpAnyR_take (i := 3) (oi := _) ?v3 rfl rfl (by kernel_rfl) (fun _ _ _ h => h) rfl ?hy3 SB ?rest3
                  case hy3 => (intro W hW; obtain ⟨_, c0, c1, c2, c3⟩ := HB.out W hW; go_simp; (try with_reducible rfl))
                  try simp only [List.setIfInBounds_toArray, List.set_cons_zero, List.set_cons_succ]
                  refine wpAnyR_pure (i := 4) (oi := _) ?v4 rfl rfl (by kernel_rfl) (by decide) (fun _ _ _ h => h) rfl ?hy4 (fun _ => SB) ?rest4
                  case hy4 => (intro W; go_simp; (try with_reducible rfl))
                  try simp only [List.setIfInBounds_toArray, List.set_cons_zero, List.set_cons_succ]
                  refine wpAnyR_take (i := 5) (oi := _) ?v5 rfl rfl (by kernel_rfl) (fun _ _ _ h => h) rfl ?hy5 SB ?rest5
                  case hy5 => (intro W hW; obtain ⟨_, c0, c1, c2, c3⟩ := HB.out W hW; go_simp; (try with_reducible rfl))
                  try simp only [List.setIfInBounds_toArray, List.set_cons_zero, List.set_cons_succ]
                  refine wpAnyR_pure (i := 6) (oi := _) ?v6 rfl rfl (by kernel_rfl) (by decide) (fun _ _ _ h => h) rfl ?hy6 (fun _ => SB) ?rest6
                  case hy6 => (intro W; go_simp; (try with_reducible rfl))
                  try simp only [List.setIfInBounds_toArray, List.set_cons_zero, List.set_cons_succ]
                  refine wpAnyR_pure (i := 7) (oi := _) ?v7 rfl rfl (by kernel_rfl) (by decide) (fun _ _ _ h => h) rfl ?hy7 (fun _ => SB) ?rest7
                  case hy7 => (intro W; go_simp; (try with_reducible rfl))
                  try simp only [List.setIfInBounds_toArray, List.set_cons_zero, List.set_cons_succ]
                  refine wpAnyR_take (i := 8) (oi := _) ?v8 rfl rfl (by kernel_rfl) (fun _ _ _ h => h) rfl ?hy8 SB ?rest8
                  case hy8 => (intro W hW; obtain ⟨_, c0, c1, c2, c3⟩ := HB.out W hW; go_simp; (try with_reducible rfl))
                  try simp only [List.setIfInBounds_toArray, List.set_cons_zero, List.set_cons_succ]
                  refine wpAnyR_pure (i := 9) (oi := _) ?v9 rfl rfl (by kernel_rfl) (by decide) (fun _ _ _ h => h) rfl ?hy9 (fun _ => SB) ?rest9
                  case hy9 => (intro W; go_simp; (try with_reducible rfl))
                  try simp only [List.setIfInBounds_toArray, List.set_cons_zero, List.set_cons_succ]
                  refine wpAnyR_pure (i := 10) (oi := _) ?v10 rfl rfl (by kernel_rfl) (by decide) (fun _ _ _ h => h) rfl ?hy10 (fun _ => SB) ?rest10
                  case hy10 => (intro W; go_simp; (try with_reducible rfl))
                  try simp only [List.setIfInBounds_toArray, List.set_cons_zero, List.set_cons_succ]
                  refine wpAnyR_pure (i := 11) (oi := _) ?v11 rfl rfl (by kernel_rfl) (by decide) (fun _ _ _ h => h) rfl ?hy11 (fun _ => SB) ?rest11
                  case hy11 => (intro W; go_simp; (try with_reducible rfl))
                  try simp only [List.setIfInBounds_toArray, List.set_cons_zero, List.set_cons_succ]
                  refine wpAnyR_take (i := 12) (oi := _) ?v12 rfl rfl (by kernel_rfl) (fun _ _ _ h => h) rfl ?hy12 SB ?rest12
                  case hy12 => (intro W hW; obtain ⟨_, c0, c1, c2, c3⟩ := HB.out W hW; go_simp; (try with_reducible rfl))
                  try simp only [List.setIfInBounds_toArray, List.set_cons_zero, List.set_cons_succ]
                  refine wpAnyR_pure (i := 13) (oi := _) ?v13 rfl rfl (by kernel_rfl) (by decide) (fun _ _ _ h => h) rfl ?hy13 (fun _ => SB) ?rest13
                  case hy13 => (intro W; go_simp; (try with_reducible rfl))
                  try simp only [List.setIfInBounds_toArray, List.set_cons_zero, List.set_cons_succ]
                  refine wpAnyR_take (i := 14) (oi := _) ?v14 rfl rfl (by kernel_rfl) (fun _ _ _ h => h) rfl ?hy14 SB ?rest14
                  case hy14 => (intro W hW; obtain ⟨_, c0, c1, c2, c3⟩ := HB.out W hW; go_simp; (try with_reducible rfl))
                  try simp only [List.setIfInBounds_toArray, List.set_cons_zero, List.set_cons_succ]
                  refine wpAnyR_pure (i := 15) (oi := _) ?v15 rfl rfl (by kernel_rfl) (by decide) (fun _ _ _ h => h) rfl ?hy15 (fun _ => SB) ?rest15
                  case hy15 => (intro W; go_simp; (try with_reducible rfl))
                  try simp only [List.setIfInBounds_toArray, List.set_cons_zero, List.set_cons_succ]
                  refine wpAnyR_pure (i := 16) (oi := _) ?v16 rfl rfl (by kernel_rfl) (by decide) (fun _ _ _ h => h) rfl ?hy16 (fun _ => SB) ?rest16
                  case hy16 => (intro W; go_simp; (try with_reducible rfl))
                  try simp only [List.setIfInBounds_toArray, List.set_cons_zero, List.set_cons_succ]
                  refine wpAnyR_take (i := 17) (oi := _) ?v17 rfl rfl (by kernel_rfl) (fun _ _ _ h => h) rfl ?hy17 SB ?rest17
                  case hy17 => (intro W hW; obtain ⟨_, c0, c1, c2, c3⟩ := HB.out W hW; go_simp; (try with_reducible rfl))
                  try simp only [List.setIfInBounds_toArray, List.set_cons_zero, List.set_cons_succ]
                  refine wpAnyR_pure (i := 18) (oi := _) ?v18 rfl rfl (by kernel_rfl) (by decide) (fun _ _ _ h => h) rfl ?hy18 (fun _ => SB) ?rest18
                  case hy18 => (intro W; go_simp; (try with_reducible rfl))
                  try simp only [List.setIfInBounds_toArray, List.set_cons_zero, List.set_cons_succ]
                  refine wpAnyR_take (i := 19) (oi := _) ?v19 rfl rfl (by kernel_rfl) (fun _ _ _ h => h) rfl ?hy19 SB ?rest19
                  case hy19 => (intro W hW; obtain ⟨_, c0, c1, c2, c3⟩ := HB.out W hW; go_simp; (try with_reducible rfl))
                  try simp only [List.setIfInBounds_toArray, List.set_cons_zero, List.set_cons_succ]
                  refine wpAnyR_pure (i := 20) (oi := _) ?v20 rfl rfl (by kernel_rfl) (by decide) (fun _ _ _ h => h) rfl ?hy20 (fun _ => SB) ?rest20
                  case hy20 => (intro W; go_simp; (try with_reducible rfl))
                  try simp only [List.setIfInBounds_toArray, List.set_cons_zero, List.set_cons_succ]
                  refine wpAnyR_pure (i := 21) (oi := _) ?v21 rfl rfl (by kernel_rfl) (by decide) (fun _ _ _ h => h) rfl ?hy21 (fun _ => SB) ?rest21
                  case hy21 => (intro W; go_simp; (try with_reducible rfl))
                  try simp only [List.setIfInBounds_toArray, List.set_cons_zero, List.set_cons_succ]
                  refine wpAnyR_one (i := 22) (by kernel_rfl) rfl (fun K hK => ?_)
                  go_simp
                  refine hK.out _ _ (fun hf => absurd hf (by decide)) ?_
                  clear hK K
                  refine wpAnyR_done (by kernel_rfl) ?_
                  go_upto_region 16 with fail
                  go_big_region
                  go_wp2_with fail
                  go_roundw
                  case rel => exact ⟨m + 1, by omega, by go_num, by rw [HPS.out]; exact HN.out, HO6.out⟩
                  case measure => simp [intOf]; omega
                · have hT : (((t : Nat) : Int) % 2 == 0) = false := by simp; omega
                  have HN := Lib.hid (show GridAt wl g n (cellV (ps ++ [x])) from HAL.out.congr fun a b _ _ => by
                    rw [cellV_snoc, HXK.out.1, HXK.out.2.1, HXK.out.2.2]
                    by_cases e : (p : Int) = (a : Int) ∧ (q : Int) = (b : Int)
                    · obtain ⟨rfl, rfl⟩ : p = a ∧ q = b := by omega
                      rw [if_pos e, HTE.out, if_neg (by omega), if_neg (by omega)]
                    · rw [if_neg e])
                  clear hk0
                  go_upto_region 14 with fail
                  go_big_region
                  go_upto_region 16 with fail
                  go_big_region
                  go_wp2_with fail
                  go_roundw
                  case rel => exact ⟨m + 1, by omega, by go_num, by rw [HPS.out]; exact (HN.out.drewn).drewn, HOL.out.drewn.drewn⟩
                  case measure => simp [intOf]; omega
              · have hb0 : (rs[k].2[m].1 == 0) = false := by simp [hk0]
                by_cases hk1 : rs[k].2[m].1 = 1
                · have hb1 : (rs[k].2[m].1 == 1) = true := by simp [hk1]
                  obtain ⟨hx1, hx2⟩ : 0 ≤ rs[k].2[m].2.1 ∧ rs[k].2[m].2.1 < n := by have := HFX.out.2 (.inr (HXE.out.trans hk1)); rw [hxe] at this; exact this
                  obtain ⟨q, hqe⟩ : ∃ q : Nat, rs[k].2[m].2.1 = (q : Int) := ⟨rs[k].2[m].2.1.toNat, by omega⟩
                  have hqn : q < n := by omega
                  have hqi : (q : Int) < n := by omega
                  have HXK := Lib.hid (show x.1 = (p : Int) ∧ x.2.1 = 1 ∧ x.2.2.1 = (q : Int) from ⟨by rw [hxe]; exact hpe, HXE.out.trans hk1, by rw [hxe]; exact hqe⟩)
                  have e0 : wl.cell? ⟨wr.heap.size, 0, none⟩ = some (.int .i64 rs[k].2[m].1) := Y.cell 0
                  have z1 : wl.cell? ⟨wr.heap.size, 1, none⟩ = some (.int .i64 q) := by rw [← hqe]; exact Y.cell 1
                  obtain ⟨t, ht⟩ : ∃ t, t = cellV ps p q := ⟨_, rfl⟩
                  have ht3 : t ≤ 3 := by rw [ht]; exact cellV_le _ _ _
                  have HTE := Lib.hid ht.symm
                  have z2 : wl.cell? ⟨g, p, none⟩ = some (.slice (some ⟨g + 1 + p, 0, none⟩) n n) := HAL.out.head hpn
                  have z3 : wl.cell? ⟨g + 1 + p, q, none⟩ = some (.int .i64 ((t : Nat) : Int)) := by rw [ht]; exact HAL.out.cell hpn hqn
                  have z4 : wl.frozen? ⟨g + 1 + p, q, none⟩ = false := (HAL.out.rows p hpn).frozen q
                  have d0 : wl.drew.cell? ⟨wo.heap.size, 0, none⟩ = some (.int .i64 p) := z0
                  have d1 : wl.drew.cell? ⟨wr.heap.size, 1, none⟩ = some (.int .i64 q) := z1
                  have d2 : wl.drew.cell? ⟨g, p, none⟩ = some (.slice (some ⟨g + 1 + p, 0, none⟩) n n) := z2
                  have d3 : wl.drew.cell? ⟨g + 1 + p, q, none⟩ = some (.int .i64 ((t : Nat) : Int)) := z3
                  have d4 : wl.drew.frozen? ⟨g + 1 + p, q, none⟩ = false := z4
                  have dd0 : wl.drew.drew.cell? ⟨wo.heap.size, 0, none⟩ = some (.int .i64 p) := z0
                  have dd1 : wl.drew.drew.cell? ⟨wr.heap.size, 1, none⟩ = some (.int .i64 q) := z1
                  have dd2 : wl.drew.drew.cell? ⟨g, p, none⟩ = some (.slice (some ⟨g + 1 + p, 0, none⟩) n n) := z2
                  have dd3 : wl.drew.drew.cell? ⟨g + 1 + p, q, none⟩ = some (.int .i64 ((t : Nat) : Int)) := z3
                  have dd4 : wl.drew.drew.frozen? ⟨g + 1 + p, q, none⟩ = false := z4
                  have de0 : wl.drew.cell? ⟨wr.heap.size, 0, none⟩ = some (.int .i64 rs[k].2[m].1) := e0
                  have dde0 : wl.drew.drew.cell? ⟨wr.heap.size, 0, none⟩ = some (.int .i64 rs[k].2[m].1) := e0
                  clear ht hx1 hx2 hxe hpe hqe
                  by_cases htt : t < 2
                  · have hT : decide (((t : Nat) : Int) < 2) = true := by simp; omega
                    have HC0 := Lib.hid (show ∀ a b, cellV (ps ++ [x]) a b = if a = p ∧ b = q then t + 2 else cellV ps a b from fun a b => by
                      rw [cellV_snoc, HXK.out.1, HXK.out.2.1, HXK.out.2.2]
                      by_cases e : a = p ∧ b = q
                      · obtain ⟨rfl, rfl⟩ := e
                        rw [if_pos (show ((a : Int) = a ∧ (b : Int) = b) from ⟨rfl, rfl⟩), HTE.out, if_neg (fun h => absurd h.1 (by decide)), if_pos (show ((1 : Int) = 1 ∧ t < 2) from ⟨rfl, htt⟩), if_pos (show a = a ∧ b = b from ⟨rfl, rfl⟩)]
                      · rw [if_neg e, if_neg (by omega)])
                    clear hk0 hk1
                    go_upto_region 14 with fail
                    go_big_region
                    have HAM := HAL.out.drewn
                    have HOM := HOL.out.drewn
                    clear z0 z1 z2 z3 z4 e0 dd0 dd1 dd2 dd3 dd4 dde0
                    go_upto_region 16 with fail
                    generalize wl.drew = wa at *
                    have dd0 : wa.drew.cell? ⟨wo.heap.size, 0, none⟩ = some (.int .i64 p) := d0
                    have dd1 : wa.drew.cell? ⟨wr.heap.size, 1, none⟩ = some (.int .i64 q) := d1
                    have dd2 : wa.drew.cell? ⟨g, p, none⟩ = some (.slice (some ⟨g + 1 + p, 0, none⟩) n n) := d2
                    have dd3 : wa.drew.cell? ⟨g + 1 + p, q, none⟩ = some (.int .i64 ((t : Nat) : Int)) := d3
                    have dd4 : wa.drew.frozen? ⟨g + 1 + p, q, none⟩ = false := d4
                    have dde0 : wa.drew.cell? ⟨wr.heap.size, 0, none⟩ = some (.int .i64 rs[k].2[m].1) := de0
                    go_big_region
                    have HAM := HAM.drewn
                    have HOM := HOM.drewn
                    clear d0 d1 d2 d3 d4 de0
                    go_upto_region 17 with fail
                    generalize wa.drew = wm at *
                    have HN := Lib.hid (show GridAt (wm.setCell ⟨g + 1 + p, q, none⟩ (.int .i64 ((t : Int) + 2))).drew g n (cellV (ps ++ [x])) from (GridAt.set (x := t + 2) HAM hpn HC0.out).drewn)
                    have HO6 := Lib.hid (show Only g (g + 1 + n) wv (wm.setCell ⟨g + 1 + p, q, none⟩ (.int .i64 ((t : Int) + 2))).drew from (HOM.setCell ⟨by show g ≤ g + 1 + p; omega, by show g + 1 + p < g + 1 + n; omega⟩ _).drewn)
                    have s3 : wm.drew.cell? ⟨g + 1 + p, q, none⟩ = some (.int .i64 ((t : Nat) : Int)) := dd3
                    have s4 : wm.drew.frozen? ⟨g + 1 + p, q, none⟩ = false := dd4
                    obtain ⟨SS, hSS⟩ : ∃ SS : World → Prop, SS = (fun W => Below wm.heap.size wm W ∧ W.cell? ⟨wo.heap.size, 0, none⟩ = some (.int .i64 p) ∧ W.cell? ⟨wr.heap.size, 1, none⟩ = some (.int .i64 q) ∧ W.cell? ⟨g, p, none⟩ = some (.slice (some ⟨g + 1 + p, 0, none⟩) n n) ∧ W.cell? ⟨g + 1 + p, q, none⟩ = some (.int .i64 ((t : Nat) : Int))) := ⟨_, rfl⟩
                    have HB := Lib.hid (show ∀ W, SS W → (Below wm.heap.size wm W ∧ W.cell? ⟨wo.heap.size, 0, none⟩ = some (.int .i64 p) ∧ W.cell? ⟨wr.heap.size, 1, none⟩ = some (.int .i64 q) ∧ W.cell? ⟨g, p, none⟩ = some (.slice (some ⟨g + 1 + p, 0, none⟩) n n) ∧ W.cell? ⟨g + 1 + p, q, none⟩ = some (.int .i64 ((t : Nat) : Int))) from by rw [hSS]; exact fun W hW => hW)
                    have HS := Lib.hid (show ∀ W, Below wm.heap.size wm W → SS W from by
                      rw [hSS]
                      exact fun W hW => ⟨hW, (hW.cell (World.block_lt_of_cell? _ _ dd0)).trans dd0, (hW.cell (World.block_lt_of_cell? _ _ dd1)).trans dd1, (hW.cell (World.block_lt_of_cell? _ _ dd2)).trans dd2, (hW.cell (World.block_lt_of_cell? _ _ dd3)).trans dd3⟩)
                    have BB : Below wm.heap.size wm wm.drew := (Below.refl _ _).drew
                    have SB := HS.out _ BB
                    clear hSS dd0 dd1 dd2 dd3 dd4 HAM HOM
                    refine wp_region_rel SS 22 23 (by kernel_rfl) rfl ?_
                    refine wpAnyR_pure (i := 0) (oi := _) ?vb0 rfl rfl (by kernel_rfl) (by decide) (fun _ _ _ h => h) rfl ?hyb0 (fun _ => SB) ?restb0
                    case hyb0 => (intro W; go_simp; (try with_reducible rfl))
                    try simp only [List.setIfInBounds_toArray, List.set_cons_zero, List.set_cons_succ]
                    refine wpAnyR_pure (i := 1) (oi := _) ?vb1 rfl rfl (by kernel_rfl) (by decide) (fun _ _ _ h => h) rfl ?hyb1 (fun _ => SB) ?restb1
                    case hyb1 => (intro W; go_simp; (try with_reducible rfl))
                    try simp only [List.setIfInBounds_toArray, List.set_cons_zero, List.set_cons_succ]
                    refine wpAnyR_pure (i := 2) (oi := _) ?vb2 rfl rfl (by kernel_rfl) (by decide) (fun _ _ _ h => h) rfl ?hyb2 (fun _ => SB) ?restb2
                    case hyb2 => (intro W; go_simp; (try with_reducible rfl))
                    try simp only [List.setIfInBounds_toArray, List.set_cons_zero, List.set_cons_succ]
                    refine wpAnyR_take (i := 3) (oi := _) ?vb3 rfl rfl (by kernel_rfl) (fun _ _ _ h => h) rfl ?hyb3 SB ?restb3
                    case hyb3 => (intro W hW; obtain ⟨_, c0, c1, c2, c3⟩ := HB.out W hW; go_simp; (try with_reducible rfl))
                    try simp only [List.setIfInBounds_toArray, List.set_cons_zero, List.set_cons_succ]
                    refine wpAnyR_pure (i := 4) (oi := _) ?vb4 rfl rfl (by kernel_rfl) (by decide) (fun _ _ _ h => h) rfl ?hyb4 (fun _ => SB) ?restb4
                    case hyb4 => (intro W; go_simp; (try with_reducible rfl))
                    try simp only [List.setIfInBounds_toArray, List.set_cons_zero, List.set_cons_succ]
                    refine wpAnyR_take (i := 5) (oi := _) ?vb5 rfl rfl (by kernel_rfl) (fun _ _ _ h => h) rfl ?hyb5 SB ?restb5
                    case hyb5 => (intro W hW; obtain ⟨_, c0, c1, c2, c3⟩ := HB.out W hW; go_simp; (try with_reducible rfl))
                    try simp only [List.setIfInBounds_toArray, List.set_cons_zero, List.set_cons_succ]
                    refine wpAnyR_pure (i := 6) (oi := _) ?vb6 rfl rfl (by kernel_rfl) (by decide) (fun _ _ _ h => h) rfl ?hyb6 (fun _ => SB) ?restb6
                    case hyb6 => (intro W; go_simp; (try with_reducible rfl))
                    try simp only [List.setIfInBounds_toArray, List.set_cons_zero, List.set_cons_succ]
                    refine wpAnyR_pure (i := 7) (oi := _) ?vb7 rfl rfl (by kernel_rfl) (by decide) (fun _ _ _ h => h) rfl ?hyb7 (fun _ => SB) ?restb7
                    case hyb7 => (intro W; go_simp; (try with_reducible rfl))
                    try simp only [List.setIfInBounds_toArray, List.set_cons_zero, List.set_cons_succ]
                    refine wpAnyR_take (i := 8) (oi := _) ?vb8 rfl rfl (by kernel_rfl) (fun _ _ _ h => h) rfl ?hyb8 SB ?restb8
                    case hyb8 => (intro W hW; obtain ⟨_, c0, c1, c2, c3⟩ := HB.out W hW; go_simp; (try with_reducible rfl))
                    try simp only [List.setIfInBounds_toArray, List.set_cons_zero, List.set_cons_succ]
                    refine wpAnyR_pure (i := 9) (oi := _) ?vb9 rfl rfl (by kernel_rfl) (by decide) (fun _ _ _ h => h) rfl ?hyb9 (fun _ => SB) ?restb9
                    case hyb9 => (intro W; go_simp; (try with_reducible rfl))
                    try simp only [List.setIfInBounds_toArray, List.set_cons_zero, List.set_cons_succ]
                    refine wpAnyR_pure (i := 10) (oi := _) ?vb10 rfl rfl (by kernel_rfl) (by decide) (fun _ _ _ h => h) rfl ?hyb10 (fun _ => SB) ?restb10
                    case hyb10 => (intro W; go_simp; (try with_reducible rfl))
                    try simp only [List.setIfInBounds_toArray, List.set_cons_zero, List.set_cons_succ]
                    refine wpAnyR_pure (i := 11) (oi := _) ?vb11 rfl rfl (by kernel_rfl) (by decide) (fun _ _ _ h => h) rfl ?hyb11 (fun _ => SB) ?restb11
                    case hyb11 => (intro W; go_simp; (try with_reducible rfl))
                    try simp only [List.setIfInBounds_toArray, List.set_cons_zero, List.set_cons_succ]
                    refine wpAnyR_take (i := 12) (oi := _) ?vb12 rfl rfl (by kernel_rfl) (fun _ _ _ h => h) rfl ?hyb12 SB ?restb12
                    case hyb12 => (intro W hW; obtain ⟨_, c0, c1, c2, c3⟩ := HB.out W hW; go_simp; (try with_reducible rfl))
                    try simp only [List.setIfInBounds_toArray, List.set_cons_zero, List.set_cons_succ]
                    refine wpAnyR_pure (i := 13) (oi := _) ?vb13 rfl rfl (by kernel_rfl) (by decide) (fun _ _ _ h => h) rfl ?hyb13 (fun _ => SB) ?restb13
                    case hyb13 => (intro W; go_simp; (try with_reducible rfl))
                    try simp only [List.setIfInBounds_toArray, List.set_cons_zero, List.set_cons_succ]
                    refine wpAnyR_take (i := 14) (oi := _) ?vb14 rfl rfl (by kernel_rfl) (fun _ _ _ h => h) rfl ?hyb14 SB ?restb14
                    case hyb14 => (intro W hW; obtain ⟨_, c0, c1, c2, c3⟩ := HB.out W hW; go_simp; (try with_reducible rfl))
                    try simp only [List.setIfInBounds_toArray, List.set_cons_zero, List.set_cons_succ]
                    refine wpAnyR_pure (i := 15) (oi := _) ?vb15 rfl rfl (by kernel_rfl) (by decide) (fun _ _ _ h => h) rfl ?hyb15 (fun _ => SB) ?restb15
                    case hyb15 => (intro W; go_simp; (try with_reducible rfl))
                    try simp only [List.setIfInBounds_toArray, List.set_cons_zero, List.set_cons_succ]
                    refine wpAnyR_pure (i := 16) (oi := _) ?vb16 rfl rfl (by kernel_rfl) (by decide) (fun _ _ _ h => h) rfl ?hyb16 (fun _ => SB) ?restb16
                    case hyb16 => (intro W; go_simp; (try with_reducible rfl))
                    try simp only [List.setIfInBounds_toArray, List.set_cons_zero, List.set_cons_succ]
                    refine wpAnyR_take (i := 17) (oi := _) ?vb17 rfl rfl (by kernel_rfl) (fun _ _ _ h => h) rfl ?hyb17 SB ?restb17
                    case hyb17 => (intro W hW; obtain ⟨_, c0, c1, c2, c3⟩ := HB.out W hW; go_simp; (try with_reducible rfl))
                    try simp only [List.setIfInBounds_toArray, List.set_cons_zero, List.set_cons_succ]
                    refine wpAnyR_pure (i := 18) (oi := _) ?vb18 rfl rfl (by kernel_rfl) (by decide) (fun _ _ _ h => h) rfl ?hyb18 (fun _ => SB) ?restb18
                    case hyb18 => (intro W; go_simp; (try with_reducible rfl))
                    try simp only [List.setIfInBounds_toArray, List.set_cons_zero, List.set_cons_succ]
                    refine wpAnyR_take (i := 19) (oi := _) ?vb19 rfl rfl (by kernel_rfl) (fun _ _ _ h => h) rfl ?hyb19 SB ?restb19
                    case hyb19 => (intro W hW; obtain ⟨_, c0, c1, c2, c3⟩ := HB.out W hW; go_simp; (try with_reducible rfl))
                    try simp only [List.setIfInBounds_toArray, List.set_cons_zero, List.set_cons_succ]
                    refine wpAnyR_pure (i := 20) (oi := _) ?vb20 rfl rfl (by kernel_rfl) (by decide) (fun _ _ _ h => h) rfl ?hyb20 (fun _ => SB) ?restb20
                    case hyb20 => (intro W; go_simp; (try with_reducible rfl))
                    try simp only [List.setIfInBounds_toArray, List.set_cons_zero, List.set_cons_succ]
                    refine wpAnyR_pure (i := 21) (oi := _) ?vb21 rfl rfl (by kernel_rfl) (by decide) (fun _ _ _ h => h) rfl ?hyb21 (fun _ => SB) ?restb21
                    case hyb21 => (intro W; go_simp; (try with_reducible rfl))
                    try simp only [List.setIfInBounds_toArray, List.set_cons_zero, List.set_cons_succ]
                    refine wpAnyR_one (i := 22) (by kernel_rfl) rfl (fun K hK => ?_)
                    go_simp
                    refine hK.out _ _ (fun hf => absurd hf (by decide)) ?_
                    clear hK K
                    refine wpAnyR_done (by kernel_rfl) ?_
                    go_wp2_with fail
                    go_roundw
                    case rel => exact ⟨m + 1, by omega, by go_num, by rw [HPS.out]; exact HN.out, HO6.out⟩
                    case measure => simp [intOf]; omega
                  · have hT : decide (((t : Nat) : Int) < 2) = false := by simp; omega
                    have HN := Lib.hid (show GridAt wl g n (cellV (ps ++ [x])) from HAL.out.congr fun a b _ _ => by
                      rw [cellV_snoc, HXK.out.1, HXK.out.2.1, HXK.out.2.2]
                      by_cases e : (p : Int) = (a : Int) ∧ (q : Int) = (b : Int)
                      · obtain ⟨rfl, rfl⟩ : p = a ∧ q = b := by omega
                        rw [if_pos e, HTE.out, if_neg (by omega), if_neg (by omega)]
                      · rw [if_neg e])
                    clear hk0 hk1
                    go_upto_region 14 with fail
                    go_big_region
                    go_upto_region 16 with fail
                    go_big_region
                    go_wp2_with fail
                    go_roundw
                    case rel => exact ⟨m + 1, by omega, by go_num, by rw [HPS.out]; exact (HN.out.drewn).drewn, HOL.out.drewn.drewn⟩
                    case measure => simp [intOf]; omega
                · have hb1 : (rs[k].2[m].1 == 1) = false := by simp [hk1]
                  have e0 : wl.cell? ⟨wr.heap.size, 0, none⟩ = some (.int .i64 rs[k].2[m].1) := Y.cell 0
                  clear hxe hpe
                  have HN := Lib.hid (show GridAt wl g n (cellV (ps ++ [x])) from HAL.out.congr fun a b _ _ => by
                    rw [cellV_snoc]
                    by_cases e : x.1 = (a : Int) ∧ x.2.2.1 = (b : Int)
                    · rw [if_pos e, if_neg (fun h => hk0 (HXE.out ▸ h.1)), if_neg (fun h => hk1 (HXE.out ▸ h.1))]
                    · rw [if_neg e])
                  clear hk0 hk1
                  go_upto_region 14 with fail
                  go_big_region
                  go_upto_region 16 with fail
                  go_big_region
                  go_wp2_with fail
                  go_roundw
                  case rel => exact ⟨m + 1, by omega, by go_num, by rw [HPS.out]; exact (HN.out.drewn).drewn, HOL.out.drewn.drewn⟩
                  case measure => simp [intOf]; omega
            · have HE := Lib.hid (show GridAt wr g n (cellV (asksOf (rs.take (k + 1)))) from by
                rw [show m = rs[k].2.length by omega, List.take_length] at hax
                rw [asksOf_snoc rs k hlt]
                exact hax)
              have HO2 := Lib.hid (HON.out.trans ((Only.of_below HBV.out).trans honx))
              clear hax honx Xx
              go_wp2_with fail
              go_roundw
              case rel => exact ⟨k + 1, by omega, by go_num, HE.out, HO2.out⟩
              case measure => simp [intOf]; omega
        · rw [show k = rs.length by omega, List.take_length] at hat
          have HE := Lib.hid hat
          have HBW := Lib.hid BW
          clear hat hon
          go_wp2_with fail
          go_ret
          exact ⟨g, rfl, HE.out, by omega, by omega, HBW.out⟩

end Go.Proofs.YtlehcghdhfeahaaDoor
/-
  The walk of the specification's LinksOf.
-/
namespace Go.Proofs.YtlehcghdhfeahaaDoor
open Go.RowKit

theorem link_ne_row {w : World} {base n b m : Nat} {v : Value} {zs : List Value} {t : TypeId} {f : Nat → Value} (hr : w.ownsRow base 89 3 v n zs) (hv : v.ownBlock = some b) (h : w.rowIs b t m f) (ht : t ≠ 89) : False := by
  rcases hr.2 with ⟨rfl, _⟩ | ⟨g1, c1, cur1, rfl, _, h1, _⟩
  · cases hv
  · have e : g1 = b := by simpa [Value.ownBlock] using hv
    subst e
    obtain ⟨c, h2, _⟩ := h
    rw [h1] at h2
    injection h2 with h2
    injection h2 with _ h2
    exact ht h2.symm
theorem GridAt.grown {lo g n c : Nat} {w w4 : World} {T : Nat → Nat → Nat} {ls : List LLink} {A : Option Addr} (h : GridAt w g n T) (hc : ColK lo w ls A c) (hg : w.grownBy w4 (Value.slice A ls.length c).ownBlock) : GridAt w4 g n T :=
  ⟨h.heads.of_block (hg.block g h.heads.lt fun e => link_ne_row hc.own.1 e.symm h.heads (by decide)), fun i hi => (h.rows i hi).of_block (hg.block _ (h.rows i hi).lt fun e => link_ne_row hc.own.1 e.symm (h.rows i hi) (by decide))⟩
theorem ColK.moreG {lo g n : Nat} {w2 wr w4 : World} {T : Nat → Nat → Nat} {ls : List LLink} {A : Option Addr} {c g2 cap : Nat} {l : LLink} {o : Obj} (h : ColK lo wr ls A c) (hbe : Below lo w2 wr) (hlo : lo ≤ wr.heap.size) (hx : GridAt wr g n T)
    (hg : (wr.alloc o).grownBy w4 (Value.slice A ls.length c).ownBlock)
    (hown : w4.ownsRow lo 89 3 (.slice (some ⟨g2, 0, none⟩) (ls.length + 1) cap) (ls.length + 1) (flatK ls ++ [.int .i64 l.1, .int .i64 l.2.1, .bool l.2.2])) :
    ColK lo w4 (ls ++ [l]) (some ⟨g2, 0, none⟩) cap ∧ Below lo w2 w4 ∧ GridAt w4 g n T ∧ lo ≤ w4.heap.size := by
  have hg2 := grown_from_alloc hg
  exact ⟨ColK.push hown, hbe.grown hg2 hlo (fun k hk => (h.own.1.lt k hk).1), hx.grown h hg2, Nat.le_trans hlo hg2.size⟩
theorem cellV_odd (ps : List LAsk) (i k : Nat) : (((cellV ps i k : Nat) : Int) % 2 == 1) = asked 0 ps i k := by
  unfold cellV
  cases asked 0 ps i k <;> cases asked 1 ps i k <;> rfl
theorem cellV_more (ps : List LAsk) (i k : Nat) : decide ((1 : Int) < ((cellV ps i k : Nat) : Int)) = asked 1 ps i k := by
  unfold cellV
  cases asked 0 ps i k <;> cases asked 1 ps i k <;> rfl

set_option maxHeartbeats 4000000 in
set_option maxRecDepth 100000 in
theorem specLinksOf_any (v : Value) (p : LProg) (w : World) (h : RdProg w w.heap.size v p) (hs : szP p ≤ 1048576) :
    Calls Tryd.prog 30 #[v] w fun e w' => ∃ A' c', e = .returned (.slice A' (linksOf p).length c') ∧ OwnLinks w' w.heap.size w'.heap.size (.slice A' (linksOf p).length c') (linksOf p) ∧ Below w.heap.size w w' := by
  obtain ⟨i0, hi0, hz0, hz1, hz2⟩ := info_parts Tryd.infoLink
  have HP := Lib.hid h
  obtain ⟨a, b, rfl, hA, hR⟩ := h
  obtain ⟨A, c, rfl, hcA, _⟩ := hA
  obtain ⟨A2, c2, rfl, hcR, _⟩ := hR
  obtain ⟨po, hpo⟩ : ∃ po, po = progOk p := ⟨_, rfl⟩
  go_enter Tryd.func30, Tryd.ntmps30
  go_upto_region 2 with fail
  obtain ⟨lo, hlo⟩ : ∃ lo, lo = w.heap.size := ⟨_, rfl⟩
  obtain ⟨w1, hw1⟩ : ∃ w1, w1 = (w.alloc (Obj.cells #[Value.slice A p.1.length c, Value.slice A2 p.2.length c2] 40)).alloc (Obj.cells #[] 89) := ⟨_, rfl⟩
  have X1 : Blk w1 w.heap.size 40 #[.slice A p.1.length c, .slice A2 p.2.length c2] := by rw [hw1]; exact (Blk.new _ _ _).alloc _
  have B1 : Below w.heap.size w w1 := by rw [hw1]; exact below2 _ _ _
  have C1 : ColK lo w1 [] (some ⟨w.heap.size + 1, 0, none⟩) 0 := by
    rw [hw1, hlo]
    have := ColK.empty (lo := w.heap.size) (w := w.alloc (Obj.cells #[Value.slice A p.1.length c, Value.slice A2 p.2.length c2] 40)) (by simp)
    simpa using this
  rw [← hw1]
  clear hw1
  have x0 : w1.cell? ⟨w.heap.size, 0, none⟩ = some (.slice A p.1.length c) := X1.cell 0
  have x1 : w1.cell? ⟨w.heap.size, 1, none⟩ = some (.slice A2 p.2.length c2) := X1.cell 1
  have CP := Lib.hid ((specProgramOk_any _ p w1 (HP.out.on B1) hs).mono fun e w' (hh : e = .returned (.bool (progOk p)) ∧ Below w1.heap.size w1 w') => (⟨by rw [hh.1, hpo], hh.2⟩ : e = .returned (.bool po) ∧ Below w1.heap.size w1 w'))
  have HPO := Lib.hid hpo
  have HX1 := Lib.hid X1
  have HC1 := Lib.hid C1
  have HLO := Lib.hid hlo
  clear hpo X1 C1 hlo
  cases po
  · go_wp2_with (go_at_call 23; refine CP.out.mono ?_; rintro e w2 ⟨rfl, b2⟩; have B2 := Lib.hid (And.intro (bthen B1 b2) (HC1.out.on b2)); clear b2)
    go_ret
    have e : linksOf p = [] := by unfold linksOf; rw [← HPO.out]; rfl
    rw [e]
    exact ⟨_, 0, rfl, by have := B2.out.2.own; rwa [HLO.out] at this, B2.out.1⟩
  obtain ⟨hn24, hfit⟩ := asksOf_fits HPO.out.symm
  have CL := Lib.hid (fun W (hW : Below w.heap.size w W) => l5Links_any _ p W (HP.out.on hW) hs hn24 hfit)
  obtain ⟨ps, hps⟩ : ∃ ps, ps = asksOf p.2 := ⟨_, rfl⟩
  have HLK := Lib.hid (show linksOf p = linksL p.1.length p.1.length ps by unfold linksOf; rw [if_pos HPO.out.symm, hps])
  rw [← hps] at CL
  clear hfit hps
  go_upto_region 5 with (first
    | (go_at_call 23; refine CP.out.mono ?_; rintro e w2 ⟨rfl, b2⟩; have B2 := Lib.hid (bthen B1 b2)
       have HX2 := Lib.hid (HX1.out.below b2 HX1.out.lt)
       have HC2 := Lib.hid (HC1.out.on b2)
       have x20 : w2.cell? ⟨w.heap.size, 0, none⟩ = some (.slice A p.1.length c) := HX2.out.cell 0
       have x21 : w2.cell? ⟨w.heap.size, 1, none⟩ = some (.slice A2 p.2.length c2) := HX2.out.cell 1
       clear b2)
    | (go_at_call 64; refine (CL.out _ B2.out).mono ?_; rintro e w3 ⟨g, rfl, hg, h4, h5, b3⟩; have H3 := Lib.hid (And.intro hg (And.intro (HC2.out.on b3) (bthen B2.out b3))); clear hg h4 h5 b3))
  obtain ⟨hg, hc3, B3⟩ := H3.out
  have HC3 := Lib.hid (show ColK lo w3 [] (some ⟨w.heap.size + 1, 0, none⟩) 0 ∧ Below lo w w3 ∧ GridAt w3 g p.1.length (cellV ps) ∧ lo ≤ w3.heap.size from ⟨hc3, by rw [HLO.out]; exact B3, hg, by rw [HLO.out]; exact B3.size⟩)
  clear hg hc3 B3 H3 x0 x1 x20 x21
  go_wp2_with fail
  go_loopw [3, 5] (fun o i wr => ∃ (k : Nat) (A' : Option Addr) (c' : Nat), k ≤ p.1.length ∧ i = .int .i64 k ∧ o = .slice A' (linksL p.1.length k ps).length c' ∧ ColK lo wr (linksL p.1.length k ps) A' c' ∧ Below lo w wr ∧ GridAt wr g p.1.length (cellV ps) ∧ lo ≤ wr.heap.size) (fun _ i _ => p.1.length - (intOf i).toNat)
  case atStart => exact ⟨0, _, 0, Nat.zero_le _, rfl, rfl, HC3.out⟩
  case round =>
    obtain ⟨k, A', c', hk, rfl, rfl, hC⟩ := hrel
    have hll := linksL_len p.1.length k ps
    by_cases hlt : k < p.1.length
    · have HC0 := Lib.hid hC
      clear hC
      go_upto_region 9 with fail
      rename World => wk
      go_loopw [3, 6] (fun o i wr => ∃ (m : Nat) (X0 : List LLink) (A' : Option Addr) (c' : Nat), m ≤ p.1.length ∧ i = .int .i64 m ∧ o = .slice A' X0.length c' ∧ X0 = linksL p.1.length k ps ++ linksFrom m ps k ∧ ColK lo wr X0 A' c' ∧ Below lo w wr ∧ GridAt wr g p.1.length (cellV ps) ∧ lo ≤ wr.heap.size) (fun _ i _ => p.1.length - (intOf i).toNat)
      case atStart => exact ⟨0, linksL p.1.length k ps, A', c', Nat.zero_le _, rfl, rfl, by simp [linksFrom], HC0.out⟩
      case round =>
        obtain ⟨m, X0, A', c', hm, rfl, rfl, hX0, hC⟩ := hrel
        have HC := Lib.hid hC
        have hlX2 : X0.length ≤ 1280 := by
          have h1 := linksFrom_len m ps k
          have h2 : k * (p.1.length * 2) ≤ 24 * 48 := Nat.mul_le_mul (by omega) (by omega)
          rw [hX0, List.length_append]
          omega
        by_cases hltm : m < p.1.length
        · obtain ⟨t, ht⟩ : ∃ t, t = cellV ps k m := ⟨_, rfl⟩
          have HTE := Lib.hid ht
          have ht3 : t ≤ 3 := by rw [ht]; exact cellV_le _ _ _
          have HT := Lib.hid (show linksL p.1.length k ps ++ linksFrom (m + 1) ps k = X0 ++ linkAt ps k m from by
            rw [linksFrom_snoc, ← List.append_assoc, ← hX0])
          have hq0 : wr.cell? ⟨g, k, none⟩ = some (.slice (some ⟨g + 1 + k, 0, none⟩) p.1.length p.1.length) := hC.2.2.1.head hlt
          have hs0 : wr.cell? ⟨g + 1 + k, m, none⟩ = some (.int .i64 ((t : Nat) : Int)) := by rw [ht]; exact hC.2.2.1.cell hlt hltm
          obtain ⟨a0, ha0⟩ : ∃ a, a = asked 0 ps k m := ⟨_, rfl⟩
          obtain ⟨a1, ha1⟩ : ∃ a, a = asked 1 ps k m := ⟨_, rfl⟩
          have c1 : (((t : Nat) : Int) % 2 == 1) = a0 := by rw [ht, ha0]; exact cellV_odd _ _ _
          have c2 : decide ((1 : Int) < ((t : Nat) : Int)) = a1 := by rw [ht, ha1]; exact cellV_more _ _ _
          have HA0 := Lib.hid ha0.symm
          have HA1 := Lib.hid ha1.symm
          clear ha0 ha1 ht hX0 hC
          cases a0 <;> cases a1
          · go_wp2_with fail
            go_roundw
            case rel => exact ⟨m + 1, X0, A', c', by omega, by go_num, rfl, by rw [HT.out, linkAt, HA0.out, HA1.out]; simp, HC.out⟩
            case measure => simp [intOf]; omega
          · go_wp2_with (at_builtin; refine wpList_append_lies _ rfl (.tmp 49) (.tmp 53) 49 rfl lo 89 i0 (.agg #[.int .i64 0, .int .i64 0, .bool false]) 3 24 Tryd.underlying49 hi0 hz0 hz1 hz2 rfl (by decide) (.slice A' X0.length c') X0.length (flatK X0) rfl ?c1 ⟨_, 0, none⟩ 1 1 [.int .i64 k, .int .i64 m, .bool true] rfl rfl (news3 _ _ _ _ _ _ (by simp)) ?c2 (by omega) (by unfold maxLen; omega) (by omega) ?c3 _ rfl ?_)
            case c1 => exact HC.out.1.own.1.alloc _
            case c2 => intro u hu; simp at hu; rcases hu with rfl | rfl | rfl <;> rfl
            case c3 => have := HC.out.2.2.2; simp; omega
            intro g1 cap1 v1 hown1 hg1 _ _
            have HC1 := Lib.hid (ColK.moreG (l := ((k : Int), (m : Int), true)) HC.out.1 HC.out.2.1 HC.out.2.2.2 HC.out.2.2.1 hg1 hown1)
            have hq1 : v1.cell? ⟨g, k, none⟩ = some (.slice (some ⟨g + 1 + k, 0, none⟩) p.1.length p.1.length) := HC1.out.2.2.1.head hlt
            have hs1 : v1.cell? ⟨g + 1 + k, m, none⟩ = some (.int .i64 ((t : Nat) : Int)) := by rw [HTE.out]; exact HC1.out.2.2.1.cell hlt hltm
            obtain ⟨X1, hX1⟩ : ∃ X, X = X0 ++ [((k : Int), (m : Int), true)] := ⟨_, rfl⟩
            have hl1 : X0.length + 1 = X1.length := by rw [hX1]; simp
            rw [← hX1] at HC1
            rw [hl1]
            have hz1' : X1.length ≤ X0.length + 1 := by omega
            have HX1 := Lib.hid hX1
            clear hl1 hX1 hown1 hg1
            go_wp2_with fail
            go_roundw
            case rel => exact ⟨m + 1, X1, (some ⟨g1, 0, none⟩), cap1, by omega, by go_num, rfl, by rw [HT.out, HX1.out, linkAt, HA0.out, HA1.out]; simp, HC1.out⟩
            case measure => simp [intOf]; omega
          · go_wp2_with (at_builtin; refine wpList_append_lies _ rfl (.tmp 35) (.tmp 39) 49 rfl lo 89 i0 (.agg #[.int .i64 0, .int .i64 0, .bool false]) 3 24 Tryd.underlying49 hi0 hz0 hz1 hz2 rfl (by decide) (.slice A' X0.length c') X0.length (flatK X0) rfl ?c1 ⟨_, 0, none⟩ 1 1 [.int .i64 k, .int .i64 m, .bool false] rfl rfl (news3 _ _ _ _ _ _ (by simp)) ?c2 (by omega) (by unfold maxLen; omega) (by omega) ?c3 _ rfl ?_)
            case c1 => exact HC.out.1.own.1.alloc _
            case c2 => intro u hu; simp at hu; rcases hu with rfl | rfl | rfl <;> rfl
            case c3 => have := HC.out.2.2.2; simp; omega
            intro g1 cap1 v1 hown1 hg1 _ _
            have HC1 := Lib.hid (ColK.moreG (l := ((k : Int), (m : Int), false)) HC.out.1 HC.out.2.1 HC.out.2.2.2 HC.out.2.2.1 hg1 hown1)
            have hq1 : v1.cell? ⟨g, k, none⟩ = some (.slice (some ⟨g + 1 + k, 0, none⟩) p.1.length p.1.length) := HC1.out.2.2.1.head hlt
            have hs1 : v1.cell? ⟨g + 1 + k, m, none⟩ = some (.int .i64 ((t : Nat) : Int)) := by rw [HTE.out]; exact HC1.out.2.2.1.cell hlt hltm
            obtain ⟨X1, hX1⟩ : ∃ X, X = X0 ++ [((k : Int), (m : Int), false)] := ⟨_, rfl⟩
            have hl1 : X0.length + 1 = X1.length := by rw [hX1]; simp
            rw [← hX1] at HC1
            rw [hl1]
            have hz1' : X1.length ≤ X0.length + 1 := by omega
            have HX1 := Lib.hid hX1
            clear hl1 hX1 hown1 hg1
            go_wp2_with fail
            go_roundw
            case rel => exact ⟨m + 1, X1, (some ⟨g1, 0, none⟩), cap1, by omega, by go_num, rfl, by rw [HT.out, HX1.out, linkAt, HA0.out, HA1.out]; simp, HC1.out⟩
            case measure => simp [intOf]; omega
          · go_wp2_with (at_builtin; refine wpList_append_lies _ rfl (.tmp 35) (.tmp 39) 49 rfl lo 89 i0 (.agg #[.int .i64 0, .int .i64 0, .bool false]) 3 24 Tryd.underlying49 hi0 hz0 hz1 hz2 rfl (by decide) (.slice A' X0.length c') X0.length (flatK X0) rfl ?c1 ⟨_, 0, none⟩ 1 1 [.int .i64 k, .int .i64 m, .bool false] rfl rfl (news3 _ _ _ _ _ _ (by simp)) ?c2 (by omega) (by unfold maxLen; omega) (by omega) ?c3 _ rfl ?_)
            case c1 => exact HC.out.1.own.1.alloc _
            case c2 => intro u hu; simp at hu; rcases hu with rfl | rfl | rfl <;> rfl
            case c3 => have := HC.out.2.2.2; simp; omega
            intro g1 cap1 v1 hown1 hg1 _ _
            have HC1 := Lib.hid (ColK.moreG (l := ((k : Int), (m : Int), false)) HC.out.1 HC.out.2.1 HC.out.2.2.2 HC.out.2.2.1 hg1 hown1)
            have hq1 : v1.cell? ⟨g, k, none⟩ = some (.slice (some ⟨g + 1 + k, 0, none⟩) p.1.length p.1.length) := HC1.out.2.2.1.head hlt
            have hs1 : v1.cell? ⟨g + 1 + k, m, none⟩ = some (.int .i64 ((t : Nat) : Int)) := by rw [HTE.out]; exact HC1.out.2.2.1.cell hlt hltm
            obtain ⟨X1, hX1⟩ : ∃ X, X = X0 ++ [((k : Int), (m : Int), false)] := ⟨_, rfl⟩
            have hl1 : X0.length + 1 = X1.length := by rw [hX1]; simp
            rw [← hX1] at HC1
            rw [hl1]
            have hz1' : X1.length ≤ X0.length + 1 := by omega
            have HX1 := Lib.hid hX1
            clear hl1 hX1 hown1 hg1
            go_wp2_with (at_builtin; refine wpList_append_lies _ rfl (.tmp 49) (.tmp 53) 49 rfl lo 89 i0 (.agg #[.int .i64 0, .int .i64 0, .bool false]) 3 24 Tryd.underlying49 hi0 hz0 hz1 hz2 rfl (by decide) (.slice (some ⟨g1, 0, none⟩) X1.length cap1) X1.length (flatK X1) rfl ?c1 ⟨_, 0, none⟩ 1 1 [.int .i64 k, .int .i64 m, .bool true] rfl rfl (news3 _ _ _ _ _ _ (by simp)) ?c2 (by omega) (by unfold maxLen; omega) (by omega) ?c3 _ rfl ?_)
            case c1 => exact HC1.out.1.own.1.alloc _
            case c2 => intro u hu; simp at hu; rcases hu with rfl | rfl | rfl <;> rfl
            case c3 => have := HC1.out.2.2.2; simp; omega
            intro g2 cap2 v2 hown2 hg2 _ _
            have HC2 := Lib.hid (ColK.moreG (l := ((k : Int), (m : Int), true)) HC1.out.1 HC1.out.2.1 HC1.out.2.2.2 HC1.out.2.2.1 hg2 hown2)
            have hq2 : v2.cell? ⟨g, k, none⟩ = some (.slice (some ⟨g + 1 + k, 0, none⟩) p.1.length p.1.length) := HC2.out.2.2.1.head hlt
            have hs2 : v2.cell? ⟨g + 1 + k, m, none⟩ = some (.int .i64 ((t : Nat) : Int)) := by rw [HTE.out]; exact HC2.out.2.2.1.cell hlt hltm
            obtain ⟨X2, hX2⟩ : ∃ X, X = X1 ++ [((k : Int), (m : Int), true)] := ⟨_, rfl⟩
            have hl2 : X1.length + 1 = X2.length := by rw [hX2]; simp
            rw [← hX2] at HC2
            rw [hl2]
            have hz2' : X2.length ≤ X1.length + 1 := by omega
            have HX2 := Lib.hid hX2
            clear hl2 hX2 hown2 hg2
            go_wp2_with fail
            go_roundw
            case rel => exact ⟨m + 1, X2, (some ⟨g2, 0, none⟩), cap2, by omega, by go_num, rfl, by rw [HT.out, HX2.out, HX1.out, linkAt, HA0.out, HA1.out]; simp, HC2.out⟩
            case measure => simp [intOf]; omega
        · have HE := Lib.hid (show X0 = linksL p.1.length (k + 1) ps from by rw [hX0, show m = p.1.length by omega, linksL_snoc])
          clear hX0 hC
          go_wp2_with fail
          go_roundw
          case rel => exact ⟨k + 1, A', c', by omega, by go_num, by rw [HE.out], by rw [← HE.out]; exact HC.out.1, HC.out.2⟩
          case measure => simp [intOf]; omega
    · have hkn : k = p.1.length := by omega
      rw [hkn] at hC
      have HO := Lib.hid hC
      rw [← HLK.out] at HO
      have HKE := Lib.hid (show linksL p.1.length k ps = linksOf p by rw [HLK.out, hkn])
      rw [HKE.out]
      clear hC hkn hll
      go_wp2_with fail
      go_ret
      exact ⟨A', c', rfl, by have := HO.out.1.own; rwa [HLO.out] at this, by have := HO.out.2.1; rwa [HLO.out] at this⟩

end Go.Proofs.YtlehcghdhfeahaaDoor
/-
  The walk of the program's LinksOf.
-/
namespace Go.Proofs.YtlehcghdhfeahaaDoor
open Go.RowKit

theorem bitsN_len (x : Nat) : (bitsN x).length ≤ 64 := by
  unfold bitsN
  exact Nat.le_trans (List.length_filter_le _ _) (by simp)

set_option maxHeartbeats 4000000 in
set_option maxRecDepth 100000 in
theorem implLinksOf_any (v : Value) (p : LProg) (w : World) (h : RdProg w w.heap.size v p) (hs : szP p ≤ 1048576) (hT : Tab w) :
    Calls Tryd.prog 32 #[v] w fun e w' => ∃ A' c', e = .returned (.slice A' (linksOf p).length c') ∧ OwnLinks w' w.heap.size w'.heap.size (.slice A' (linksOf p).length c') (linksOf p) ∧ Below w.heap.size w w' := by
  obtain ⟨i0, hi0, hz0, hz1, hz2⟩ := info_parts Tryd.infoLink
  have HP := Lib.hid h
  have HT := Lib.hid hT
  have hs' := hs
  unfold szP at hs'
  obtain ⟨a, b, rfl, hA, hR⟩ := h
  have HR := Lib.hid hR
  obtain ⟨A, c, rfl, hcA, _⟩ := hA
  obtain ⟨A2, c2, rfl, hcR, _⟩ := hR
  clear hT
  obtain ⟨po, hpo⟩ : ∃ po, po = progOk p := ⟨_, rfl⟩
  go_enter Tryd.func32, Tryd.ntmps32
  go_upto_region 1 with fail
  obtain ⟨w1, hw1⟩ : ∃ w1, w1 = w.alloc (Obj.cells #[Value.slice A p.1.length c, Value.slice A2 p.2.length c2] 40) := ⟨_, rfl⟩
  have X1 : Blk w1 w.heap.size 40 #[.slice A p.1.length c, .slice A2 p.2.length c2] := by rw [hw1]; exact Blk.new _ _ _
  have B1 : Below w.heap.size w w1 := by rw [hw1]; exact below1 _ _
  rw [← hw1]
  clear hw1
  have x0 : w1.cell? ⟨w.heap.size, 0, none⟩ = some (.slice A p.1.length c) := X1.cell 0
  have x1 : w1.cell? ⟨w.heap.size, 1, none⟩ = some (.slice A2 p.2.length c2) := X1.cell 1
  have CP := Lib.hid ((implProgramOk_any _ p w1 (HP.out.on B1) hs).mono fun e w' (hh : e = .returned (.bool (progOk p)) ∧ Below w1.heap.size w1 w') => (⟨by rw [hh.1, hpo], hh.2⟩ : e = .returned (.bool po) ∧ Below w1.heap.size w1 w'))
  have HPO := Lib.hid hpo
  have HX1 := Lib.hid X1
  clear hpo X1
  cases po
  · go_wp2_with (go_at_call 21; refine CP.out.mono ?_; rintro e w2 ⟨rfl, b2⟩; have B2 := Lib.hid (bthen B1 b2); clear b2)
    go_ret
    have e : linksOf p = [] := by unfold linksOf; rw [← HPO.out]; rfl
    rw [e]
    exact ⟨none, 0, rfl, ⟨by simpa [flatK] using World.ownsRow_nil _ _ 89 3, fun g hg => by cases hg⟩, B2.out⟩
  obtain ⟨hn24, hfit⟩ := asksOf_fits HPO.out.symm
  have HFIT := Lib.hid hfit
  have HRL := Lib.hid (show ∀ r ∈ p.2, r.2.length ≤ 1048576 from fun r hr => by
    obtain ⟨k, hk, rfl⟩ := List.getElem_of_mem hr
    have := sz_le_totR p.2 k hk
    unfold szR at this
    omega)
  obtain ⟨ps, hps⟩ : ∃ ps, ps = asksOf p.2 := ⟨_, rfl⟩
  have HLK := Lib.hid (show linksOf p = linksL p.1.length p.1.length ps by unfold linksOf; rw [if_pos HPO.out.symm, hps])
  have CA := Lib.hid (fun W (hW : Below w.heap.size w W) => (askingOf_any (.slice A2 p.2.length c2) p.2 p.1.length W (HR.out.on hW) hn24 hfit (by omega) HRL.out).mono fun e w' (hh : e = .returned (.agg (askCells (askWords 0 (asksOf p.2)) (askWords 1 (asksOf p.2)))) ∧ Below W.heap.size W w') => (⟨by rw [hh.1, hps], hh.2⟩ : e = .returned (.agg (askCells (askWords 0 ps) (askWords 1 ps))) ∧ Below W.heap.size W w'))
  have HF := Lib.hid (show ∀ x ∈ ps, AskFits p.1.length x by rw [hps]; exact hfit)
  clear hfit hps
  go_upto_region 4 with (first
    | (go_at_call 21; refine CP.out.mono ?_; rintro e w2 ⟨rfl, b2⟩; have B2 := Lib.hid (bthen B1 b2)
       have HX2 := Lib.hid (HX1.out.below b2 HX1.out.lt)
       have x21 : w2.cell? ⟨w.heap.size, 1, none⟩ = some (.slice A2 p.2.length c2) := HX2.out.cell 1
       clear b2)
    | (go_at_call 66; refine (CA.out _ B2.out).mono ?_; rintro e w3 ⟨rfl, b3⟩; have B3 := Lib.hid (bthen B2.out b3)
       have HX3 := Lib.hid (HX2.out.below b3 HX2.out.lt)
       obtain ⟨cs, hcs⟩ : ∃ cs, cs = askCells (askWords 0 ps) (askWords 1 ps) := ⟨_, rfl⟩
       rw [← hcs]
       have HCZ := Lib.hid (show cs.size = 48 by rw [hcs]; simp [askCells, askWords_len])
       have HONE := Lib.hid (show cs.all (·.oneCell') = true by
         rw [hcs]
         unfold askCells
         rw [List.all_toArray, List.all_map, List.all_eq_true]
         intro x _
         rfl)
       have HSI := Lib.hid (show (Tryd.prog.info? 93).map (·.size) = some cs.size by rw [HCZ.out]; kernel_rfl)
       have HCS := Lib.hid hcs
       clear b3 hcs)
    | (refine wpList_store_row rfl 93 _ _ rfl w3.heap.size cs rfl rfl 93 _ (heap_alloc_new w3 _) HSI.out (by rw [HCZ.out]; rfl) HONE.out ?_))
  obtain ⟨zs, hzs⟩ : ∃ zs, zs = askCells zeroA zeroA := ⟨_, rfl⟩
  rw [show (#[Value.int IntKind.u64 0, Value.int IntKind.u64 0, Value.int IntKind.u64 0, Value.int IntKind.u64 0, Value.int IntKind.u64 0, Value.int IntKind.u64 0, Value.int IntKind.u64 0, Value.int IntKind.u64 0, Value.int IntKind.u64 0, Value.int IntKind.u64 0, Value.int IntKind.u64 0, Value.int IntKind.u64 0, Value.int IntKind.u64 0, Value.int IntKind.u64 0, Value.int IntKind.u64 0, Value.int IntKind.u64 0, Value.int IntKind.u64 0, Value.int IntKind.u64 0, Value.int IntKind.u64 0, Value.int IntKind.u64 0, Value.int IntKind.u64 0, Value.int IntKind.u64 0, Value.int IntKind.u64 0, Value.int IntKind.u64 0, Value.int IntKind.u64 0, Value.int IntKind.u64 0, Value.int IntKind.u64 0, Value.int IntKind.u64 0, Value.int IntKind.u64 0, Value.int IntKind.u64 0, Value.int IntKind.u64 0, Value.int IntKind.u64 0, Value.int IntKind.u64 0, Value.int IntKind.u64 0, Value.int IntKind.u64 0, Value.int IntKind.u64 0, Value.int IntKind.u64 0, Value.int IntKind.u64 0, Value.int IntKind.u64 0, Value.int IntKind.u64 0, Value.int IntKind.u64 0, Value.int IntKind.u64 0, Value.int IntKind.u64 0, Value.int IntKind.u64 0, Value.int IntKind.u64 0, Value.int IntKind.u64 0, Value.int IntKind.u64 0, Value.int IntKind.u64 0] : Array Value) = zs from by rw [hzs]; rfl]
  clear hzs
  obtain ⟨w5, hw5⟩ : ∃ w5, w5 = (w3.alloc (Obj.cells zs 93)).setRow w3.heap.size cs := ⟨_, rfl⟩
  obtain ⟨g, hg⟩ : ∃ g, g = w3.heap.size := ⟨_, rfl⟩
  have G5 : AskAt w5 g (askWords 0 ps) (askWords 1 ps) := by rw [hw5, hg]; refine ⟨?_, askWords_len _ _, askWords_len _ _⟩; rw [← HCS.out]; exact setRow_heap _ _ _ cs _ _ (heap_alloc_new w3 _)
  have b5 : Below w3.heap.size w3 w5 := by rw [hw5]; exact below_setRow (below1 _ _) (Nat.le_refl _) _
  have hs5 : w5.heap.size = w3.heap.size + 1 := by rw [hw5]; simp
  rw [← hw5, show w3.heap.size = g from hg.symm]
  have HX5 := Lib.hid (HX3.out.below b5 HX3.out.lt)
  have B5 := Lib.hid (bthen B3.out b5)
  have HA := Lib.hid G5
  have HGL := Lib.hid (show g < w5.heap.size by omega)
  have x50 : w5.cell? ⟨w.heap.size, 0, none⟩ = some (.slice A p.1.length c) := HX5.out.cell 0
  have hw5s := B5.out.size
  clear hw5 G5 b5 hs5 hg HX1 CP CA x0 x1
  obtain ⟨lo, hlo⟩ : ∃ lo, lo = w5.heap.size := ⟨_, rfl⟩
  rw [← hlo] at HGL hw5s
  have HTB := Lib.hid (fun W (hW : Below lo w5 W) => HT.out.below (B5.out.trans (hW.mono hw5s)))
  have HLO := Lib.hid hlo
  have hlw : lo ≤ w5.heap.size := by omega
  clear hlo
  go_wp2_with fail
  go_loopw [4, 17] (fun o i wr => ∃ (k : Nat) (A' : Option Addr) (c' : Nat), k ≤ p.1.length ∧ i = .int .i64 k ∧ o = .slice A' (linksL p.1.length k ps).length c' ∧ ColK lo wr (linksL p.1.length k ps) A' c' ∧ Below lo w5 wr ∧ lo ≤ wr.heap.size) (fun _ i _ => p.1.length - (intOf i).toNat)
  case atStart => exact ⟨0, none, 0, Nat.zero_le _, rfl, rfl, ColK.nil _ _, Below.refl _ _, by rw [HLO.out]; exact Nat.le_refl _⟩
  case round =>
    obtain ⟨k, A', c', hk, rfl, rfl, hcol, hbe, hsz⟩ := hrel
    have hll := linksL_len p.1.length k ps
    by_cases hlt : k < p.1.length
    · have hk24 : k < 24 := by omega
      obtain ⟨Y, hY⟩ : ∃ Y, Y = (askWords 0 ps).getD k 0 := ⟨_, rfl⟩
      obtain ⟨N, hN⟩ : ∃ N, N = (askWords 1 ps).getD k 0 := ⟨_, rfl⟩
      have hYm : Y = askMask 0 ps k := by rw [hY, askWords_at hk24]
      have hNm : N = askMask 1 ps k := by rw [hN, askWords_at hk24]
      have HYL := Lib.hid (show Y < 18446744073709551616 by rw [hYm]; have := askMask_lt (i := k) hn24 (.inl rfl) HF.out; omega)
      have HNL := Lib.hid (show N < 18446744073709551616 by rw [hNm]; have := askMask_lt (i := k) hn24 (.inr rfl) HF.out; omega)
      have HYN := Lib.hid (show Y ||| N < 18446744073709551616 by exact Nat.or_lt_two_pow (n := 64) HYL.out HNL.out)
      have CAL := Lib.hid (fun W (hW : AskAt W g (askWords 0 ps) (askWords 1 ps)) => askAll_any g k _ _ W hW hk24 (by rw [← hY]; exact HYL.out) (by rw [← hN]; exact HNL.out))
      rw [← hY, ← hN] at CAL
      obtain ⟨X, hX⟩ : ∃ X, X = Y ||| N := ⟨_, rfl⟩
      rw [← hX] at CAL HYN
      have CBN := Lib.hid (fun W (hW : Tab W) => bitNumbers_any X HYN.out W hW)
      obtain ⟨B, hB⟩ : ∃ B, B = bitsN X := ⟨_, rfl⟩
      have hBb : bitsOf X = B.map fun j : Nat => (j : Int) := by rw [hB]; rfl
      rw [hBb] at CBN
      have HBL := Lib.hid (show B.length ≤ 64 by rw [hB]; exact bitsN_len _)
      have HBM := Lib.hid (show ∀ x ∈ B, x < 64 by rw [hB]; exact fun x hx => (bitsN_mem.1 hx).1)
      have HFM := Lib.hid (show B.flatMap (linkAt ps k) = linksFrom p.1.length ps k by rw [hB, hX, hYm, hNm]; exact linksFrom_bits hn24 HF.out k)
      have HYB := Lib.hid (show ∀ x, Y.testBit x = asked 0 ps k x from fun x => by rw [Bool.eq_iff_iff, hYm]; exact has_mask (.inl rfl) k x ps HF.out)
      have HNB := Lib.hid (show ∀ x, N.testBit x = asked 1 ps k x from fun x => by rw [Bool.eq_iff_iff, hNm]; exact has_mask (.inr rfl) k x ps HF.out)
      have HY := Lib.hid hY
      have HN := Lib.hid hN
      have ha0 : AskAt wr g (askWords 0 ps) (askWords 1 ps) := HA.out.below hbe HGL.out
      have HA0 := Lib.hid ha0
      have HCOL := Lib.hid hcol
      have HBE := Lib.hid hbe
      have hml : (B.map fun j : Nat => (j : Int)).length = B.length := by simp
      have HML := Lib.hid hml
      clear hY hN hYm hNm hX hB hBb ha0 hcol hbe hml
      go_wp2_with (first
        | (go_at_call 67; refine (CAL.out _ HA0.out).mono ?_; rintro e w6 ⟨rfl, b6⟩; have H6 := Lib.hid b6; clear b6)
        | (go_at_call 57; refine (CBN.out _ (HTB.out _ (HBE.out.trans (H6.out.mono hsz)))).mono ?_; rintro e w7 ⟨Ab, cb, rfl, o7, b7⟩; rw [HML.out]; have H7 := Lib.hid (And.intro o7 b7); clear o7 b7))
      obtain ⟨o7, b7⟩ := H7.out
      rw [HML.out] at o7
      have b67 := bthen H6.out b7
      have hs7 := b67.size
      have HC := Lib.hid (And.intro (HCOL.out.on b67) (And.intro (HBE.out.trans (b67.mono hsz)) (And.intro o7 (Nat.le_trans hsz hs7))))
      clear o7 b7 b67 H6 H7
      obtain ⟨lb, hlb⟩ : ∃ lb, lb = w6.heap.size := ⟨_, rfl⟩
      rw [← hlb] at HC
      obtain ⟨hb, hhb⟩ : ∃ hb, hb = w7.heap.size := ⟨_, rfl⟩
      have HC := Lib.hid (show ColK lo w7 (linksL p.1.length k ps) A' c' ∧ Below lo w5 w7 ∧ OwnInts w7 lb hb (.slice Ab B.length cb) (B.map fun j : Nat => (j : Int)) ∧ lo ≤ w7.heap.size from hhb ▸ HC.out)
      clear hlb hhb
      rename World => w7'
      go_loopw [4, 24] (fun o i wr => ∃ (m : Nat) (X0 : List LLink) (A' : Option Addr) (c' : Nat), m ≤ B.length ∧ i = .int .i64 m ∧ o = .slice A' X0.length c' ∧ X0 = linksL p.1.length k ps ++ (B.take m).flatMap (linkAt ps k) ∧ ColK lo wr X0 A' c' ∧ Below lo w5 wr ∧ OwnInts wr lb hb (.slice Ab B.length cb) (B.map fun j : Nat => (j : Int)) ∧ lo ≤ wr.heap.size) (fun _ i _ => B.length - (intOf i).toNat)
      case atStart => exact ⟨0, linksL p.1.length k ps, A', c', Nat.zero_le _, rfl, rfl, by simp, HC.out⟩
      case round =>
        obtain ⟨m, X0, A', c', hm, rfl, rfl, hX0, hC⟩ := hrel
        have HC := Lib.hid hC
        have HX0 := Lib.hid hX0
        have hlX : X0.length ≤ k * (p.1.length * 2) + m * 2 := by
          have h1 := flatMap_len (linkAt_len ps k) (B.take m)
          rw [hX0, List.length_append]
          rw [List.length_take] at h1
          have h2 : min m B.length = m := by omega
          rw [h2] at h1
          omega
        have hlX2 : X0.length ≤ 1280 := by
          have h1 : k * (p.1.length * 2) ≤ 24 * 48 := Nat.mul_le_mul (by omega) (by omega)
          have := HBL.out
          omega
        clear hlX
        have hB64 := HBL.out
        by_cases hltm : m < B.length
        · obtain ⟨A7, c7, e7, _, hx⟩ := hC.2.2.1.rd
          injection e7 with e7 e9 e8
          clear e9
          subst e7 e8
          obtain ⟨b7, o7, rfl, _, hx⟩ := hx (by rw [HML.out]; omega)
          obtain ⟨b, hbe⟩ : ∃ b, b = B[m] := ⟨_, rfl⟩
          have hck : wr.cell? ⟨b7, o7 + m, none⟩ = some (.int .i64 b) := by
            have := hx m (by rw [HML.out]; exact hltm)
            rw [this, hbe]
            simp
          have hb64 : b < 64 := by rw [hbe]; exact HBM.out _ (List.getElem_mem hltm)
          have HT := Lib.hid (show linksL p.1.length k ps ++ (B.take (m + 1)).flatMap (linkAt ps k) = X0 ++ linkAt ps k b from by
            rw [take_snoc B m hltm, List.flatMap_append, ← List.append_assoc, ← hX0, hbe]; simp)
          have hq0 : wr.cell? ⟨g, k, none⟩ = some (.int .u64 ((Y : Nat) : Int)) := by rw [HY.out]; exact (HA.out.below hC.2.1 HGL.out).yes hk24
          have hs0 : wr.cell? ⟨g, 24 + k, none⟩ = some (.int .u64 ((N : Nat) : Int)) := by rw [HN.out]; exact (HA.out.below hC.2.1 HGL.out).no hk24
          have hki : (k : Int) < 24 := by omega
          clear hx hbe hX0 hC
          obtain ⟨a0, ha0⟩ : ∃ a, a = asked 0 ps k b := ⟨_, rfl⟩
          obtain ⟨a1, ha1⟩ : ∃ a, a = asked 1 ps k b := ⟨_, rfl⟩
          have HB0 := Lib.hid (show Y.testBit b = a0 by rw [HYB.out, ha0])
          have HB1 := Lib.hid (show N.testBit b = a1 by rw [HNB.out, ha1])
          have HA0 := Lib.hid ha0.symm
          have HA1 := Lib.hid ha1.symm
          clear ha0 ha1
          cases a0 <;> cases a1
          · go_wp2_with (first
              | (go_at_call 68; refine (hasBit_any _ _ HYL.out hb64 _).mono ?_; rw [HB0.out]; rintro e w' ⟨rfl, rfl⟩)
              | (go_at_call 68; refine (hasBit_any _ _ HNL.out hb64 _).mono ?_; rw [HB1.out]; rintro e w' ⟨rfl, rfl⟩))
            go_roundw
            case rel => exact ⟨m + 1, X0, A', c', by omega, by go_num, rfl, by rw [HT.out, linkAt, HA0.out, HA1.out]; simp, HC.out⟩
            case measure => simp [intOf]; omega
          · go_wp2_with (first
              | (go_at_call 68; refine (hasBit_any _ _ HYL.out hb64 _).mono ?_; rw [HB0.out]; rintro e w' ⟨rfl, rfl⟩)
              | (go_at_call 68; refine (hasBit_any _ _ HNL.out hb64 _).mono ?_; rw [HB1.out]; rintro e w' ⟨rfl, rfl⟩)
              | (at_builtin; refine wpList_append_lies _ rfl (.tmp 46) (.tmp 50) 49 rfl lo 89 i0 (.agg #[.int .i64 0, .int .i64 0, .bool false]) 3 24 Tryd.underlying49 hi0 hz0 hz1 hz2 rfl (by decide) (.slice A' X0.length c') X0.length (flatK X0) rfl ?c1 ⟨_, 0, none⟩ 1 1 [.int .i64 k, .int .i64 b, .bool true] rfl rfl (news3 _ _ _ _ _ _ (by simp)) ?c2 (by omega) (by unfold maxLen; omega) (by omega) ?c3 _ rfl ?_))
            case c1 => exact HC.out.1.own.1.alloc _
            case c2 => intro u hu; simp at hu; rcases hu with rfl | rfl | rfl <;> rfl
            case c3 => have := HC.out.2.2.2; simp; omega
            intro g1 cap1 v1 hown1 hg1 _ _
            obtain ⟨r1, r2, r3, r4⟩ := ColK.more (l := ((k : Int), (b : Int), true)) HC.out.1 HC.out.2.1 HC.out.2.2.2 HC.out.2.2.1 hg1 hown1
            have HC1 := Lib.hid (And.intro r1 (And.intro r2 (And.intro r3 (Nat.le_trans HC.out.2.2.2 r4))))
            have hq1 : v1.cell? ⟨g, k, none⟩ = some (.int .u64 ((Y : Nat) : Int)) := by rw [HY.out]; exact (HA.out.below r2 HGL.out).yes hk24
            have hs1 : v1.cell? ⟨g, 24 + k, none⟩ = some (.int .u64 ((N : Nat) : Int)) := by rw [HN.out]; exact (HA.out.below r2 HGL.out).no hk24
            obtain ⟨X1, hX1⟩ : ∃ X, X = X0 ++ [((k : Int), (b : Int), true)] := ⟨_, rfl⟩
            have hl1 : X0.length + 1 = X1.length := by rw [hX1]; simp
            rw [← hX1] at HC1
            rw [hl1]
            have hz1' : X1.length ≤ X0.length + 1 := by omega
            have HX1 := Lib.hid hX1
            clear hl1 hX1 r1 r2 r3 r4 hown1 hg1
            go_wp2_with (first
              | (go_at_call 68; refine (hasBit_any _ _ HYL.out hb64 _).mono ?_; rw [HB0.out]; rintro e w' ⟨rfl, rfl⟩)
              | (go_at_call 68; refine (hasBit_any _ _ HNL.out hb64 _).mono ?_; rw [HB1.out]; rintro e w' ⟨rfl, rfl⟩))
            go_roundw
            case rel => exact ⟨m + 1, X1, (some ⟨g1, 0, none⟩), cap1, by omega, by go_num, rfl, by rw [HT.out, HX1.out, linkAt, HA0.out, HA1.out]; simp, HC1.out⟩
            case measure => simp [intOf]; omega
          · go_wp2_with (first
              | (go_at_call 68; refine (hasBit_any _ _ HYL.out hb64 _).mono ?_; rw [HB0.out]; rintro e w' ⟨rfl, rfl⟩)
              | (go_at_call 68; refine (hasBit_any _ _ HNL.out hb64 _).mono ?_; rw [HB1.out]; rintro e w' ⟨rfl, rfl⟩)
              | (at_builtin; refine wpList_append_lies _ rfl (.tmp 34) (.tmp 38) 49 rfl lo 89 i0 (.agg #[.int .i64 0, .int .i64 0, .bool false]) 3 24 Tryd.underlying49 hi0 hz0 hz1 hz2 rfl (by decide) (.slice A' X0.length c') X0.length (flatK X0) rfl ?c1 ⟨_, 0, none⟩ 1 1 [.int .i64 k, .int .i64 b, .bool false] rfl rfl (news3 _ _ _ _ _ _ (by simp)) ?c2 (by omega) (by unfold maxLen; omega) (by omega) ?c3 _ rfl ?_))
            case c1 => exact HC.out.1.own.1.alloc _
            case c2 => intro u hu; simp at hu; rcases hu with rfl | rfl | rfl <;> rfl
            case c3 => have := HC.out.2.2.2; simp; omega
            intro g1 cap1 v1 hown1 hg1 _ _
            obtain ⟨r1, r2, r3, r4⟩ := ColK.more (l := ((k : Int), (b : Int), false)) HC.out.1 HC.out.2.1 HC.out.2.2.2 HC.out.2.2.1 hg1 hown1
            have HC1 := Lib.hid (And.intro r1 (And.intro r2 (And.intro r3 (Nat.le_trans HC.out.2.2.2 r4))))
            have hq1 : v1.cell? ⟨g, k, none⟩ = some (.int .u64 ((Y : Nat) : Int)) := by rw [HY.out]; exact (HA.out.below r2 HGL.out).yes hk24
            have hs1 : v1.cell? ⟨g, 24 + k, none⟩ = some (.int .u64 ((N : Nat) : Int)) := by rw [HN.out]; exact (HA.out.below r2 HGL.out).no hk24
            obtain ⟨X1, hX1⟩ : ∃ X, X = X0 ++ [((k : Int), (b : Int), false)] := ⟨_, rfl⟩
            have hl1 : X0.length + 1 = X1.length := by rw [hX1]; simp
            rw [← hX1] at HC1
            rw [hl1]
            have hz1' : X1.length ≤ X0.length + 1 := by omega
            have HX1 := Lib.hid hX1
            clear hl1 hX1 r1 r2 r3 r4 hown1 hg1
            go_wp2_with (first
              | (go_at_call 68; refine (hasBit_any _ _ HYL.out hb64 _).mono ?_; rw [HB0.out]; rintro e w' ⟨rfl, rfl⟩)
              | (go_at_call 68; refine (hasBit_any _ _ HNL.out hb64 _).mono ?_; rw [HB1.out]; rintro e w' ⟨rfl, rfl⟩))
            go_roundw
            case rel => exact ⟨m + 1, X1, (some ⟨g1, 0, none⟩), cap1, by omega, by go_num, rfl, by rw [HT.out, HX1.out, linkAt, HA0.out, HA1.out]; simp, HC1.out⟩
            case measure => simp [intOf]; omega
          · go_wp2_with (first
              | (go_at_call 68; refine (hasBit_any _ _ HYL.out hb64 _).mono ?_; rw [HB0.out]; rintro e w' ⟨rfl, rfl⟩)
              | (go_at_call 68; refine (hasBit_any _ _ HNL.out hb64 _).mono ?_; rw [HB1.out]; rintro e w' ⟨rfl, rfl⟩)
              | (at_builtin; refine wpList_append_lies _ rfl (.tmp 34) (.tmp 38) 49 rfl lo 89 i0 (.agg #[.int .i64 0, .int .i64 0, .bool false]) 3 24 Tryd.underlying49 hi0 hz0 hz1 hz2 rfl (by decide) (.slice A' X0.length c') X0.length (flatK X0) rfl ?c1 ⟨_, 0, none⟩ 1 1 [.int .i64 k, .int .i64 b, .bool false] rfl rfl (news3 _ _ _ _ _ _ (by simp)) ?c2 (by omega) (by unfold maxLen; omega) (by omega) ?c3 _ rfl ?_))
            case c1 => exact HC.out.1.own.1.alloc _
            case c2 => intro u hu; simp at hu; rcases hu with rfl | rfl | rfl <;> rfl
            case c3 => have := HC.out.2.2.2; simp; omega
            intro g1 cap1 v1 hown1 hg1 _ _
            obtain ⟨r1, r2, r3, r4⟩ := ColK.more (l := ((k : Int), (b : Int), false)) HC.out.1 HC.out.2.1 HC.out.2.2.2 HC.out.2.2.1 hg1 hown1
            have HC1 := Lib.hid (And.intro r1 (And.intro r2 (And.intro r3 (Nat.le_trans HC.out.2.2.2 r4))))
            have hq1 : v1.cell? ⟨g, k, none⟩ = some (.int .u64 ((Y : Nat) : Int)) := by rw [HY.out]; exact (HA.out.below r2 HGL.out).yes hk24
            have hs1 : v1.cell? ⟨g, 24 + k, none⟩ = some (.int .u64 ((N : Nat) : Int)) := by rw [HN.out]; exact (HA.out.below r2 HGL.out).no hk24
            obtain ⟨X1, hX1⟩ : ∃ X, X = X0 ++ [((k : Int), (b : Int), false)] := ⟨_, rfl⟩
            have hl1 : X0.length + 1 = X1.length := by rw [hX1]; simp
            rw [← hX1] at HC1
            rw [hl1]
            have hz1' : X1.length ≤ X0.length + 1 := by omega
            have HX1 := Lib.hid hX1
            clear hl1 hX1 r1 r2 r3 r4 hown1 hg1
            go_wp2_with (first
              | (go_at_call 68; refine (hasBit_any _ _ HYL.out hb64 _).mono ?_; rw [HB0.out]; rintro e w' ⟨rfl, rfl⟩)
              | (go_at_call 68; refine (hasBit_any _ _ HNL.out hb64 _).mono ?_; rw [HB1.out]; rintro e w' ⟨rfl, rfl⟩)
              | (at_builtin; refine wpList_append_lies _ rfl (.tmp 46) (.tmp 50) 49 rfl lo 89 i0 (.agg #[.int .i64 0, .int .i64 0, .bool false]) 3 24 Tryd.underlying49 hi0 hz0 hz1 hz2 rfl (by decide) (.slice (some ⟨g1, 0, none⟩) X1.length cap1) X1.length (flatK X1) rfl ?c1 ⟨_, 0, none⟩ 1 1 [.int .i64 k, .int .i64 b, .bool true] rfl rfl (news3 _ _ _ _ _ _ (by simp)) ?c2 (by omega) (by unfold maxLen; omega) (by omega) ?c3 _ rfl ?_))
            case c1 => exact HC1.out.1.own.1.alloc _
            case c2 => intro u hu; simp at hu; rcases hu with rfl | rfl | rfl <;> rfl
            case c3 => have := HC1.out.2.2.2; simp; omega
            intro g2 cap2 v2 hown2 hg2 _ _
            obtain ⟨r1, r2, r3, r4⟩ := ColK.more (l := ((k : Int), (b : Int), true)) HC1.out.1 HC1.out.2.1 HC1.out.2.2.2 HC1.out.2.2.1 hg2 hown2
            have HC2 := Lib.hid (And.intro r1 (And.intro r2 (And.intro r3 (Nat.le_trans HC1.out.2.2.2 r4))))
            have hq2 : v2.cell? ⟨g, k, none⟩ = some (.int .u64 ((Y : Nat) : Int)) := by rw [HY.out]; exact (HA.out.below r2 HGL.out).yes hk24
            have hs2 : v2.cell? ⟨g, 24 + k, none⟩ = some (.int .u64 ((N : Nat) : Int)) := by rw [HN.out]; exact (HA.out.below r2 HGL.out).no hk24
            obtain ⟨X2, hX2⟩ : ∃ X, X = X1 ++ [((k : Int), (b : Int), true)] := ⟨_, rfl⟩
            have hl2 : X1.length + 1 = X2.length := by rw [hX2]; simp
            rw [← hX2] at HC2
            rw [hl2]
            have hz2' : X2.length ≤ X1.length + 1 := by omega
            have HX2 := Lib.hid hX2
            clear hl2 hX2 r1 r2 r3 r4 hown2 hg2
            go_wp2_with (first
              | (go_at_call 68; refine (hasBit_any _ _ HYL.out hb64 _).mono ?_; rw [HB0.out]; rintro e w' ⟨rfl, rfl⟩)
              | (go_at_call 68; refine (hasBit_any _ _ HNL.out hb64 _).mono ?_; rw [HB1.out]; rintro e w' ⟨rfl, rfl⟩))
            go_roundw
            case rel => exact ⟨m + 1, X2, (some ⟨g2, 0, none⟩), cap2, by omega, by go_num, rfl, by rw [HT.out, HX2.out, HX1.out, linkAt, HA0.out, HA1.out]; simp, HC2.out⟩
            case measure => simp [intOf]; omega
        · have HE := Lib.hid (show X0 = linksL p.1.length (k + 1) ps from by rw [hX0, show m = B.length by omega, List.take_length, HFM.out, linksL_snoc])
          clear hX0 hC
          go_wp2_with fail
          go_roundw
          case rel => exact ⟨k + 1, A', c', by omega, by go_num, by rw [HE.out], by rw [← HE.out]; exact HC.out.1, HC.out.2.1, HC.out.2.2.2⟩
          case measure => simp [intOf]; omega
    · have hkn : k = p.1.length := by omega
      rw [hkn] at hcol
      have HO := Lib.hid (hcol.own.mono (Nat.le_trans hw5s (Nat.le_refl _)) (Nat.le_refl _))
      have HBE := Lib.hid (B5.out.trans (hbe.mono hw5s))
      rw [← HLK.out] at HO
      have HKE := Lib.hid (show linksL p.1.length k ps = linksOf p by rw [HLK.out, hkn])
      rw [HKE.out]
      clear hcol hbe hll hkn
      go_wp2_with fail
      go_ret
      exact ⟨A', c', rfl, HO.out, HBE.out⟩

end Go.Proofs.YtlehcghdhfeahaaDoor
/-
  Links compared, marked, held: in the one form that the laws' walks ask.
-/
namespace Go.Proofs.YtlehcghdhfeahaaDoor
open Go.RowKit

def linkV (l : LLink) : Value := .agg #[.int .i64 l.1, .int .i64 l.2.1, .bool l.2.2]
set_option maxHeartbeats 1000000 in
theorem eqLink_any (x y : LLink) (w : World) :
    Calls Tryd.prog 69 #[linkV x, linkV y] w fun e w' => e = .returned (.bool (decide (x = y))) ∧ Below w.heap.size w w' := by
  obtain ⟨a0, a1, a2⟩ := x
  obtain ⟨b0, b1, b2⟩ := y
  unfold linkV
  by_cases e0 : a0 = b0
  · have h0 : (a0 != b0) = false := by simp [e0]
    by_cases e1 : a1 = b1
    · have h1 : (a1 != b1) = false := by simp [e1]
      have HE := Lib.hid (show decide ((a0, a1, a2) = (b0, b1, b2)) = (a2 == b2) by subst e0; subst e1; cases a2 <;> cases b2 <;> simp)
      clear e0 e1
      cases a2 <;> cases b2
      all_goals
        go_enter Tryd.func69, Tryd.ntmps69
        go_wp2_with fail
        go_ret
        exact ⟨ret_bool (by rw [HE.out]; rfl), below2 _ _ _⟩
    · have h1 : (a1 != b1) = true := by simpa using e1
      have HE := Lib.hid (show decide ((a0, a1, a2) = (b0, b1, b2)) = false by simp [e1])
      clear e0 e1
      go_enter Tryd.func69, Tryd.ntmps69
      go_wp2_with fail
      go_ret
      exact ⟨ret_bool HE.out.symm, below2 _ _ _⟩
  · have h0 : (a0 != b0) = true := by simpa using e0
    have HE := Lib.hid (show decide ((a0, a1, a2) = (b0, b1, b2)) = false by simp [e0])
    clear e0
    go_enter Tryd.func69, Tryd.ntmps69
    go_wp2_with fail
    go_ret
    exact ⟨ret_bool HE.out.symm, below2 _ _ _⟩

theorem RdLinks.at_ {w : World} {B c : Nat} {A : Option Addr} {ls : List LLink} (h : RdLinks w B (.slice A ls.length c) ls) {k : Nat} (hk : k < ls.length) :
    ∃ b o, A = some ⟨b, o, none⟩ ∧ b < B ∧ w.cell? ⟨b, o + k * 3, none⟩ = some (.int .i64 ls[k].1) ∧ w.cell? ⟨b, o + k * 3 + 1, none⟩ = some (.int .i64 ls[k].2.1) ∧ w.cell? ⟨b, o + k * 3 + 2, none⟩ = some (.bool ls[k].2.2) := by
  obtain ⟨b, o, u0, u1, u2, e, hb, k0, k1, k2, rfl, rfl, rfl⟩ := RdRow.get (Q := QLink) h hk
  exact ⟨b, o, e, hb, k0, k1, k2⟩

set_option maxHeartbeats 1000000 in
set_option maxRecDepth 100000 in
theorem eqLinkS_any (va vb : Value) (xs ys : List LLink) (w : World) (ha : RdLinks w w.heap.size va xs) (hb : RdLinks w w.heap.size vb ys) (hx : xs.length ≤ 1048576) (hy : ys.length ≤ 1048576) :
    Calls Tryd.prog 33 #[va, vb] w fun e w' => e = .returned (.bool (decide (xs = ys))) ∧ Below w.heap.size w w' := by
  have HX := Lib.hid ha
  have HY := Lib.hid hb
  obtain ⟨A, c, rfl, hc, _⟩ := ha
  obtain ⟨A2, c2, rfl, hc2, _⟩ := hb
  by_cases hl : xs.length = ys.length
  · have hl1 : ((xs.length : Int) != (ys.length : Int)) = false := by simp [hl]
    have HL := Lib.hid hl
    clear hl
    go_enter Tryd.func33, Tryd.ntmps33
    go_wp2_with (fail)
    go_loopw [5] (fun i wr => ∃ k : Nat, k ≤ xs.length ∧ i = .int .i64 k ∧ (∀ j, j < k → xs[j]? = ys[j]?) ∧ Below w.heap.size w wr) (fun i _ => xs.length - (intOf i).toNat)
    case atStart => exact ⟨0, Nat.zero_le _, rfl, fun j h => absurd h (Nat.not_lt_zero _), Below.refl _ _⟩
    case round =>
      obtain ⟨k, hk, rfl, hs, hbe⟩ := hrel
      by_cases hlt : k < xs.length
      · have hlt2 : k < ys.length := by have := HL.out; omega
        obtain ⟨b, o, rfl, hbB, k0, k1, k2⟩ := (HX.out.on hbe).at_ hlt
        obtain ⟨b2, o2, rfl, hbB2, m0, m1, m2⟩ := (HY.out.on hbe).at_ hlt2
        go_wp2_with (fail)
        go_still_tail 8, (by kernel_rfl)
        change wpList _ _ _ _ _ wr.drew
        obtain ⟨w2, hw2⟩ : ∃ w2, w2 = wr.drew := ⟨_, rfl⟩
        rw [← hw2]
        have hbe2 : Below wr.heap.size wr w2 := by rw [hw2]; exact (Below.refl _ _).drew
        clear hw2
        go_wp2_with (fail)
        refine (eqLink_any xs[k] ys[k] _).mono ?_
        rintro e w4 ⟨rfl, hb4⟩
        have hB4 := bthen hbe (bthen hbe2 hb4)
        have HS := Lib.hid hs
        by_cases he : xs[k] = ys[k]
        · have hdb : decide (xs[k] = ys[k]) = true := by simp [he]
          have HS2 := Lib.hid (show ∀ j, j < k + 1 → xs[j]? = ys[j]? from fun j hj => by
            by_cases e : j = k
            · subst e; rw [List.getElem?_eq_getElem hlt, List.getElem?_eq_getElem hlt2, he]
            · exact hs j (by omega))
          clear he hs
          go_wp2_with (fail)
          go_roundw
          case rel => exact ⟨k + 1, by omega, by go_num, HS2.out, hB4⟩
          case measure => simp [intOf]; omega
        · have hdb : decide (xs[k] = ys[k]) = false := by simp [he]
          have HE := Lib.hid (show xs ≠ ys from fun e => he (by subst e; rfl))
          clear he hs
          go_wp2_with (fail)
          go_ret
          exact ⟨ret_bool (by simp [HE.out]), hB4⟩
      · have HE := Lib.hid (show xs = ys from List.ext_getElem? fun j => by
          by_cases e : j < k
          · exact hs j e
          · have := HL.out
            rw [List.getElem?_eq_none (by omega), List.getElem?_eq_none (by omega)])
        clear hs
        go_wp2_with (fail)
        go_ret
        exact ⟨ret_bool (by simp [HE.out]), hbe⟩
  · have hl1 : ((xs.length : Int) != (ys.length : Int)) = true := by simp; omega
    have HE := Lib.hid (show xs ≠ ys from fun e => hl (by rw [e]))
    clear hl
    go_enter Tryd.func33, Tryd.ntmps33
    go_wp2_with (fail)
    go_ret
    exact ⟨ret_bool (by simp [HE.out]), Below.refl _ _⟩

/-- The links that the marks from k on make. -/
def markK (k : Int) (i : Nat) : LLink := (k + 3 * (i : Int), k + 3 * (i : Int) + 1, (k + 3 * (i : Int) + 1 + 1) % 3 == 0)
def marksK (k : Int) (n : Nat) : List LLink := (List.range n).map (markK k)
theorem marksK_len (k : Int) (n : Nat) : (marksK k n).length = n := by simp [marksK]
theorem marksK_at {k : Int} {n j : Nat} (h : j < (marksK k n).length) : (marksK k n)[j] = markK k j := by simp [marksK]
/-- The first j are marked. -/
def markTo (k : Int) (ls : List LLink) (j : Nat) : List LLink := marksK k j ++ ls.drop j
theorem markTo_len {k : Int} {ls : List LLink} {j : Nat} (h : j ≤ ls.length) : (markTo k ls j).length = ls.length := by simp [markTo, marksK_len]; omega
theorem flatK_len (ls : List LLink) : (flatK ls).length = ls.length * 3 := by
  induction ls with
  | nil => rfl
  | cons l ls ih =>
    have e : flatK (l :: ls) = .int .i64 l.1 :: .int .i64 l.2.1 :: .bool l.2.2 :: flatK ls := rfl
    rw [e]
    simp only [List.length_cons, ih]
    omega
theorem flatK_app (a b : List LLink) : flatK (a ++ b) = flatK a ++ flatK b := by simp [flatK]
theorem markTo_step {k : Int} {ls : List LLink} {j : Nat} (h : j < ls.length) :
    (((flatK (markTo k ls j)).set (j * 3) (.int .i64 (markK k j).1)).set (j * 3 + 1) (.int .i64 (markK k j).2.1)).set (j * 3 + 2) (.bool (markK k j).2.2) = flatK (markTo k ls (j + 1)) := by
  unfold markTo
  have e1 : marksK k (j + 1) = marksK k j ++ [markK k j] := by simp [marksK, List.range_succ]
  have e2 : ls.drop j = ls[j] :: ls.drop (j + 1) := List.drop_eq_getElem_cons h
  have hl : (flatK (marksK k j)).length = j * 3 := by rw [flatK_len, marksK_len]
  rw [e1, e2, flatK_app, List.append_assoc, flatK_app]
  have e3 : flatK (ls[j] :: ls.drop (j + 1)) = .int .i64 ls[j].1 :: .int .i64 ls[j].2.1 :: .bool ls[j].2.2 :: flatK (ls.drop (j + 1)) := rfl
  have e4 : flatK ([markK k j] ++ ls.drop (j + 1)) = .int .i64 (markK k j).1 :: .int .i64 (markK k j).2.1 :: .bool (markK k j).2.2 :: flatK (ls.drop (j + 1)) := rfl
  rw [e3, e4, List.set_append_right _ _ (by omega), List.set_append_right _ _ (by omega), List.set_append_right _ _ (by omega), hl]
  have d0 : j * 3 - j * 3 = 0 := by omega
  have d1 : j * 3 + 1 - j * 3 = 1 := by omega
  have d2 : j * 3 + 2 - j * 3 = 2 := by omega
  rw [d0, d1, d2]
  rfl

set_option maxHeartbeats 2000000 in
set_option maxRecDepth 100000 in
theorem markLinkS_any (v : Value) (ls : List LLink) (k : Int) (lo hi : Nat) (w : World) (h : OwnLinks w lo hi v ls) (hk0 : 0 ≤ k) (hk : k ≤ 4294967296) (hn : ls.length ≤ 1073741824) :
    Calls Tryd.prog 36 #[v, .int .i64 k] w fun e w' => e = .returned (.int .i64 (k + 3 * (ls.length : Int))) ∧ OwnLinks w' lo hi v (marksK k ls.length) ∧ Only lo hi w w' := by
  have HH := Lib.hid h
  obtain ⟨A, c, rfl⟩ := h.form
  clear h
  go_enter Tryd.func36, Tryd.ntmps36
  go_wp2_with (fail)
  go_loopw [1, 5] (fun m i wr => ∃ j : Nat, j ≤ ls.length ∧ i = .int .i64 j ∧ m = .int .i64 (k + 3 * (j : Int)) ∧ wr.ownsRow lo 89 3 (.slice A ls.length c) ls.length (flatK (markTo k ls j)) ∧ Only lo hi w wr) (fun _ i _ => ls.length - (intOf i).toNat)
  case atStart => exact ⟨0, Nat.zero_le _, rfl, by simp, by simpa [markTo, marksK] using HH.out.1, Only.refl _ _ _⟩
  case round =>
    obtain ⟨j, hj, rfl, rfl, ho, hon⟩ := hrel
    by_cases hlt : j < ls.length
    · have hform : ∃ g, A = some ⟨g, 0, none⟩ ∧ lo ≤ g ∧ g < hi := by
        rcases HH.out.1.2 with ⟨e, h0⟩ | ⟨g, cap, cur, e, hb, _⟩
        · omega
        · injection e with e _ _
          subst e
          exact ⟨g, rfl, hb, HH.out.2 g rfl⟩
      obtain ⟨g, rfl, hg1, hg2⟩ := hform
      have hll := markTo_len (k := k) (ls := ls) (j := j) (by omega)
      have hl3 := flatK_len (markTo k ls j)
      have c0 := ho.cellAt (j * 3) (by omega)
      have c1 := ho.cellAt (j * 3 + 1) (by omega)
      have c2 := ho.cellAt (j * 3 + 2) (by omega)
      obtain ⟨d0, d1, d2⟩ := flatK_at (markTo k ls j) j (by omega)
      rw [d0] at c0
      rw [d1] at c1
      rw [d2] at c2
      have f0 := ho.frozenAt (j * 3)
      have f1 := ho.frozenAt (j * 3 + 1)
      have f2 := ho.frozenAt (j * 3 + 2)
      have s0 := (ho.stored (j * 3) (.int .i64 (markK k j).1)).1
      have s1 := (s0.stored (j * 3 + 1) (.int .i64 (markK k j).2.1)).1
      have s2 := (s1.stored (j * 3 + 2) (.bool (markK k j).2.2)).1
      rw [markTo_step hlt] at s2
      have o2 := ((hon.setCell (p := ⟨g, j * 3, none⟩) ⟨hg1, hg2⟩ (.int .i64 (markK k j).1)).setCell (p := ⟨g, j * 3 + 1, none⟩) ⟨hg1, hg2⟩ (.int .i64 (markK k j).2.1)).setCell (p := ⟨g, j * 3 + 2, none⟩) ⟨hg1, hg2⟩ (.bool (markK k j).2.2)
      have HS := Lib.hid (And.intro s2 o2)
      generalize (markTo k ls j)[j].1 = z0 at c0
      generalize (markTo k ls j)[j].2.1 = z1 at c1
      generalize (markTo k ls j)[j].2.2 = z2 at c2
      clear d0 d1 d2 s0 s1 s2 o2 ho hon hll hl3
      go_wp2_with (fail)
      go_roundw
      case rel => exact ⟨j + 1, by omega, by go_num, by go_num, HS.out.1, HS.out.2⟩
      case measure => simp [intOf]; omega
    · have HS := Lib.hid (show OwnLinks wr lo hi (.slice A ls.length c) (marksK k ls.length) ∧ Only lo hi w wr ∧ j = ls.length from by
        obtain rfl : j = ls.length := by omega
        refine ⟨⟨?_, HH.out.2⟩, hon, rfl⟩
        rw [marksK_len]
        simpa [markTo] using ho)
      clear ho hon
      go_wp2_with (fail)
      go_ret
      exact ⟨ret_int (by rw [HS.out.2.2]), HS.out.1, HS.out.2.1⟩

set_option maxHeartbeats 1000000 in
set_option maxRecDepth 100000 in
theorem heldLinkS_any (v : Value) (n : Nat) (k : Int) (w : World) (h : RdLinks w w.heap.size v (marksK k n)) (hk0 : 0 ≤ k) (hk : k ≤ 4294967296) (hn : n ≤ 1073741824) :
    Calls Tryd.prog 37 #[v, .int .i64 k] w fun e w' => e = .returned (.int .i64 (k + 3 * (n : Int))) ∧ w = w' := by
  have H := Lib.hid h
  obtain ⟨A, c, rfl, hc, _⟩ := h
  rw [marksK_len] at H hc ⊢
  go_enter Tryd.func37, Tryd.ntmps37
  go_wp2_with (fail)
  go_loopw [1, 5] (fun m i wr => ∃ j : Nat, j ≤ n ∧ i = .int .i64 j ∧ m = .int .i64 (k + 3 * (j : Int)) ∧ wr = w) (fun _ i _ => n - (intOf i).toNat)
  case atStart => exact ⟨0, Nat.zero_le _, rfl, by simp, by first | rfl | trivial⟩
  case round =>
    obtain ⟨j, hj, rfl, rfl, rfl⟩ := hrel
    by_cases hlt : j < n
    · have h1 : RdLinks wr wr.heap.size (.slice A (marksK k n).length c) (marksK k n) := by rw [marksK_len]; exact H.out
      obtain ⟨b, o, rfl, hbB, k0, k1, k2⟩ := h1.at_ (k := j) (by rw [marksK_len]; exact hlt)
      rw [marksK_at] at k0 k1 k2
      have q0 : wr.cell? ⟨b, o + j * 3, none⟩ = some (.int .i64 (k + 3 * (j : Int))) := k0
      have q1 : wr.cell? ⟨b, o + j * 3 + 1, none⟩ = some (.int .i64 (k + 3 * (j : Int) + 1)) := k1
      have q2 : wr.cell? ⟨b, o + j * 3 + 2, none⟩ = some (.bool ((k + 3 * (j : Int) + 1 + 1) % 3 == 0)) := k2
      clear h1 k0 k1 k2
      obtain ⟨z, hz⟩ : ∃ z, z = k + 3 * (j : Int) := ⟨_, rfl⟩
      rw [← hz] at q0 q1 q2 ⊢
      have n0 : (z != z) = false := by simp
      have n1 : (z + 1 != z + 1) = false := by simp
      have n2 : ∀ b : Bool, (b != b) = false := by simp
      go_wp2_with (fail)
      go_roundw
      case rel => exact ⟨j + 1, by omega, by go_num, by go_num, by first | rfl | trivial⟩
      case measure => simp [intOf]; omega
    · have HE := Lib.hid (show j = n by omega)
      go_wp2_with (fail)
      go_ret
      exact ⟨ret_int (by rw [HE.out]), rfl⟩

/-- The marks from k on stand in a row of links, and end at z. -/
def HdLinks (w : World) (lo hi : Nat) (v : Value) (ls : List LLink) (k z : Int) : Prop := OwnLinks w lo hi v (marksK k ls.length) ∧ z = k + 3 * (ls.length : Int) ∧ 0 ≤ k ∧ k ≤ 4294967296 ∧ ls.length ≤ 1073741824
theorem HdLinks.below {w w' : World} {lo hi B : Nat} {v : Value} {ls : List LLink} {k z : Int} (h : HdLinks w lo hi v ls k z) (hb : Below B w w') (hB : hi ≤ B) : HdLinks w' lo hi v ls k z := ⟨h.1.below hb hB, h.2⟩
theorem HdLinks.only {w w' : World} {lo hi lo' hi' : Nat} {v : Value} {ls : List LLink} {k z : Int} (h : HdLinks w lo hi v ls k z) (ho : Only lo' hi' w w') (hd : hi ≤ lo' ∨ hi' ≤ lo) : HdLinks w' lo hi v ls k z := ⟨h.1.only ho hd, h.2⟩
theorem um_links {v : Value} {ls : List LLink} {lo hi : Nat} {w : World} (k : Int) (h : OwnLinks w lo hi v ls) (hk0 : 0 ≤ k) (hk : k ≤ 4294967296) (hs : ls.length ≤ 1073741824) :
    Calls Tryd.prog 36 #[v, .int .i64 k] w fun e w' => ∃ z, e = .returned (.int .i64 z) ∧ k ≤ z ∧ z ≤ k + 3 * (ls.length : Int) ∧ HdLinks w' lo hi v ls k z ∧ Only lo hi w w' :=
  (markLinkS_any v ls k lo hi w h hk0 hk hs).mono fun _ _ ⟨he, ho, hg⟩ => ⟨_, he, by omega, Int.le_refl _, ⟨ho, rfl, hk0, hk, hs⟩, hg⟩
theorem uh_links {v : Value} {ls : List LLink} {lo hi : Nat} {w : World} {k z : Int} (h : HdLinks w lo hi v ls k z) (hh : hi ≤ w.heap.size) :
    Calls Tryd.prog 37 #[v, .int .i64 k] w fun e w' => e = .returned (.int .i64 z) ∧ Below w.heap.size w w' :=
  (heldLinkS_any v ls.length k w (h.1.rd.more hh) h.2.2.1 h.2.2.2.1 h.2.2.2.2).mono fun _ _ ⟨he, hw⟩ => ⟨by rw [he, h.2.1], hw ▸ Below.refl _ _⟩

end Go.Proofs.YtlehcghdhfeahaaDoor
/-
  The order of facts: its plain mathematics, and the walks of cmp.Compare, cmp.Or, slices.Compare, the specification's l1Way.
-/
namespace Go.Proofs.YtlehcghdhfeahaaDoor
open Go.RowKit

def cmpI (a b : Int) : Int := if a < b then -1 else if b < a then 1 else 0
def cmpL : List Int → List Int → Int
  | [], [] => 0
  | [], _ :: _ => -1
  | _ :: _, [] => 1
  | x :: xs, y :: ys => if x = y then cmpL xs ys else cmpI x y
def factOrder (f g : LFact) : Int := if f.1 = g.1 then cmpL f.2 g.2 else cmpI f.1 g.1

theorem cmpL_at {xs ys : List Int} {k : Nat} (h1 : k < xs.length) (h2 : k < ys.length) : cmpL (xs.drop k) (ys.drop k) = if xs[k] = ys[k] then cmpL (xs.drop (k + 1)) (ys.drop (k + 1)) else cmpI xs[k] ys[k] := by
  rw [List.drop_eq_getElem_cons h1, List.drop_eq_getElem_cons h2]
  rfl
theorem cmpL_long {xs ys : List Int} {k : Nat} (h1 : k < xs.length) (h2 : ys.length ≤ k) : cmpL (xs.drop k) (ys.drop k) = 1 := by
  rw [List.drop_eq_getElem_cons h1, List.drop_eq_nil_of_le h2]
  rfl
theorem cmpL_short {xs ys : List Int} {k : Nat} (h1 : xs.length ≤ k) (h2 : k < ys.length) : cmpL (xs.drop k) (ys.drop k) = -1 := by
  rw [List.drop_eq_nil_of_le h1, List.drop_eq_getElem_cons h2]
  rfl
theorem cmpL_end {xs ys : List Int} {k : Nat} (h1 : xs.length ≤ k) (h2 : ys.length ≤ k) : cmpL (xs.drop k) (ys.drop k) = 0 := by
  rw [List.drop_eq_nil_of_le h1, List.drop_eq_nil_of_le h2]
  rfl
theorem cmpI_ne {a b : Int} (h : a ≠ b) : cmpI a b ≠ 0 := by
  unfold cmpI
  split
  · omega
  · split <;> omega
theorem cmpI_zero {a b : Int} (h : cmpI a b = 0) : a = b := by
  unfold cmpI at h
  split at h
  · omega
  · split at h <;> omega
theorem cmpI_self (a : Int) : cmpI a a = 0 := by simp [cmpI]
/-- 'the first k of both are the same', as the order has it. -/
def CmpTo (xs ys : List Int) (k : Nat) : Prop := cmpL xs ys = cmpL (xs.drop k) (ys.drop k)

end Go.Proofs.YtlehcghdhfeahaaDoor
/-
  The walks of FactOrder: the program's (with cmp.Or) and the specification's.
-/
namespace Go.Proofs.YtlehcghdhfeahaaDoor
open Go.RowKit

def orI (a b : Int) : Int := if a = 0 then b else a

theorem factOrder_or (f g : LFact) : orI (cmpI f.1 g.1) (cmpL f.2 g.2) = factOrder f g := by
  unfold orI factOrder
  by_cases h : f.1 = g.1
  · rw [if_pos h, h, cmpI_self, if_pos rfl]
  · rw [if_neg h, if_neg (cmpI_ne h)]

end Go.Proofs.YtlehcghdhfeahaaDoor
/-
  The walk of the specification's FactOrder.
-/
namespace Go.Proofs.YtlehcghdhfeahaaDoor
open Go.RowKit

end Go.Proofs.YtlehcghdhfeahaaDoor
/-
  The walks of FactsHas: the program's and the specification's.
-/
namespace Go.Proofs.YtlehcghdhfeahaaDoor
open Go.RowKit

/-- One fact of a list, as a walk reads it. -/
theorem RdFacts.get {w : World} {B c : Nat} {A : Option Addr} {fs : List LFact} (h : RdFacts w B (.slice A fs.length c) fs) {k : Nat} (hk : k < fs.length) : ∃ b o A3 c3, A = some ⟨b, o, none⟩ ∧ b < B ∧
    w.cell? ⟨b, o + k * 2, none⟩ = some (.int .i64 fs[k].1) ∧ w.cell? ⟨b, o + k * 2 + 1, none⟩ = some (.slice A3 fs[k].2.length c3) ∧ RdInts w B (.slice A3 fs[k].2.length c3) fs[k].2 := by
  obtain ⟨A', c', e, hc, h⟩ := h
  injection e with e1 e2 e3
  subst e1
  obtain ⟨b, o, rfl, hb, hx⟩ := h (by omega)
  obtain ⟨a, h1, h2, h3⟩ := hx k hk
  have h4 := h3
  obtain ⟨A3, c3, rfl, _⟩ := h3
  exact ⟨b, o, A3, c3, rfl, hb, h1, h2, h4⟩

def factsHas (fs : List LFact) (f : LFact) : Bool := fs.any fun g => factOrder g f == 0
/-- 'none of the first k is the same'. -/
def HasNot (fs : List LFact) (f : LFact) (k : Nat) : Prop := factsHas (fs.take k) f = false
theorem HasNot.step {fs : List LFact} {f : LFact} {k : Nat} (h : HasNot fs f k) (hk : k < fs.length) (e : factOrder fs[k] f ≠ 0) : HasNot fs f (k + 1) := by
  unfold HasNot factsHas at h ⊢
  rw [take_snoc fs k hk, List.any_append, h]
  simp [e]
theorem HasNot.done {fs : List LFact} {f : LFact} (h : HasNot fs f fs.length) : factsHas fs f = false := by
  unfold HasNot at h
  rwa [List.take_length] at h
theorem has_yes {fs : List LFact} {f : LFact} {k : Nat} (hk : k < fs.length) (e : factOrder fs[k] f = 0) : factsHas fs f = true := by
  unfold factsHas
  rw [List.any_eq_true]
  exact ⟨fs[k], List.getElem_mem hk, by simp [e]⟩

end Go.Proofs.YtlehcghdhfeahaaDoor
/-
  The walks of FactOk: the program's (with factFits) and the specification's.
-/
namespace Go.Proofs.YtlehcghdhfeahaaDoor
open Go.RowKit

def constOk (x : Int) : Bool := decide (0 ≤ x ∧ x ≤ 5)
def factFits (ar : List Int) (f : LFact) : Bool := decide (0 ≤ f.1 ∧ f.1 < ar.length ∧ (f.2.length : Int) = ar.getD f.1.toNat 0) && f.2.all constOk
def factOk (ar : List Int) (f : LFact) : Bool := arityOk ar && factFits ar f

def ConstsTo (xs : List Int) (k : Nat) : Prop := ∀ j, j < k → constOk (xs.getD j 0) = true
theorem ConstsTo.step {xs : List Int} {k : Nat} (h : ConstsTo xs k) (e : constOk (xs.getD k 0) = true) : ConstsTo xs (k + 1) := fun j hj => by
  by_cases h2 : j = k
  · subst h2; exact e
  · exact h j (by omega)
theorem ConstsTo.all {xs : List Int} (h : ConstsTo xs xs.length) : xs.all constOk = true := by
  rw [List.all_eq_true]
  intro x hx
  obtain ⟨j, hj, rfl⟩ := List.getElem_of_mem hx
  have := h j hj
  simpa [hj] using this
theorem consts_not {xs : List Int} {k : Nat} (hk : k < xs.length) (e : constOk xs[k] = false) : xs.all constOk = false := by
  rw [List.all_eq_false]
  exact ⟨xs[k], List.getElem_mem hk, by simp [e]⟩

end Go.Proofs.YtlehcghdhfeahaaDoor
/-
  The walk of the specification's FactOk.
-/
namespace Go.Proofs.YtlehcghdhfeahaaDoor
open Go.RowKit

end Go.Proofs.YtlehcghdhfeahaaDoor
/-
  The walks of FactsOk: the program's and the specification's.
-/
namespace Go.Proofs.YtlehcghdhfeahaaDoor
open Go.RowKit

def roundOk (ar : List Int) (fs : List LFact) (k : Nat) : Bool := factFits ar (fs.getD k (0, [])) && (decide (k = 0) || decide (factOrder (fs.getD (k - 1) (0, [])) (fs.getD k (0, [])) < 0))
def factsOk (ar : List Int) (fs : List LFact) : Bool := arityOk ar && (List.range fs.length).all (roundOk ar fs)
def OkTo (ar : List Int) (fs : List LFact) (k : Nat) : Prop := (List.range k).all (roundOk ar fs) = true
theorem OkTo.step {ar : List Int} {fs : List LFact} {k : Nat} (h : OkTo ar fs k) (e : roundOk ar fs k = true) : OkTo ar fs (k + 1) := by
  unfold OkTo at h ⊢
  rw [List.range_succ, List.all_append, h]
  simp [e]
theorem round_not {ar : List Int} {fs : List LFact} {k : Nat} (hk : k < fs.length) (e : roundOk ar fs k = false) : factsOk ar fs = false := by
  unfold factsOk
  have : (List.range fs.length).all (roundOk ar fs) = false := by
    rw [List.all_eq_false]
    exact ⟨k, List.mem_range.2 hk, by simp [e]⟩
  rw [this, Bool.and_false]
theorem getD_at {α : Type} {l : List α} {k : Nat} (h : k < l.length) {d : α} : l.getD k d = l[k] := by simp [h]
theorem round_first {ar : List Int} {fs : List LFact} {k : Nat} (hk : k < fs.length) (h : factFits ar fs[k] = true) (h0 : k = 0) : roundOk ar fs k = true := by
  unfold roundOk
  rw [getD_at hk, h]
  simp [h0]
theorem round_next {ar : List Int} {fs : List LFact} {j : Nat} (hk : j + 1 < fs.length) (hj : j < fs.length) (h : factFits ar fs[j + 1] = true) : roundOk ar fs (j + 1) = decide (factOrder fs[j] fs[j + 1] < 0) := by
  unfold roundOk
  rw [getD_at hk, h, Nat.add_sub_cancel, getD_at hj]
  simp
theorem round_unfit {ar : List Int} {fs : List LFact} {k : Nat} (hk : k < fs.length) (h : factFits ar fs[k] = false) : roundOk ar fs k = false := by
  unfold roundOk
  rw [getD_at hk, h]
  simp
theorem later_fact {w0 : World} {v : Value} {f : LFact} (h : RdFact w0 w0.heap.size v f) (x : Later w0) : RdFact x.val x.val.heap.size v f := h.on x.2
theorem later_ints {w0 : World} {v : Value} {f : List Int} (h : RdInts w0 w0.heap.size v f) (x : Later w0) : RdInts x.val x.val.heap.size v f := h.on x.2

end Go.Proofs.YtlehcghdhfeahaaDoor
