/-
  Texts that the claim's last one imports, laid together: part 5 of 6. No condition of its own.
-/
import Derived.Test.YtcoelmhlkfignaaDoorMRe2
import Derived.Test.YtcoelmhlkfignaaDoorMRe3
import Derived.Test.YtcoelmhlkfignaaDoorMRe4
/-
  The specification's table of links: the walk of l5Links.
-/
namespace Go.Proofs.YtcoelmhlkfignaaDoor
open Go.RowKit

/-- A square table of numbers: its rows lie behind its head, in their order. -/
structure GridAt (w : World) (g n : Nat) (T : Nat → Nat → Nat) : Prop where
  heads : w.rowIs g 22 n (fun i => .slice (some ⟨g + 1 + i, 0, none⟩) n n)
  rows : ∀ i, i < n → w.rowIs (g + 1 + i) 3 n (fun k => .int .i64 ((T i k : Nat) : Int))
section
variable {w w' : World} {g n lo hi B : Nat} {T T' : Nat → Nat → Nat}
theorem GridAt.cell (h : GridAt w g n T) {i k : Nat} (hi : i < n) (hk : k < n) : w.cell? ⟨g + 1 + i, k, none⟩ = some (.int .i64 ((T i k : Nat) : Int)) := (h.rows i hi).cell hk
theorem GridAt.head (h : GridAt w g n T) {i : Nat} (hi : i < n) : w.cell? ⟨g, i, none⟩ = some (.slice (some ⟨g + 1 + i, 0, none⟩) n n) := h.heads.cell hi
theorem GridAt.below (h : GridAt w g n T) (hb : Below B w w') (hg : g + 1 + n ≤ B) : GridAt w' g n T :=
  ⟨h.heads.of_block (hb.block g (by omega)), fun i hi => (h.rows i hi).of_block (hb.block _ (by omega))⟩
theorem GridAt.drewn (h : GridAt w g n T) : GridAt w.drew g n T := ⟨h.heads, h.rows⟩
theorem GridAt.set (h : GridAt w g n T) {i k x : Nat} (hi : i < n) (hT : ∀ a b, T' a b = if a = i ∧ b = k then x else T a b) : GridAt (w.setCell ⟨g + 1 + i, k, none⟩ (.int .i64 ((x : Nat) : Int))) g n T' := by
  refine ⟨h.heads.setOther (by show g ≠ g + 1 + i; omega) _, fun j hj => ?_⟩
  by_cases e : j = i
  · subst e
    refine ((h.rows j hj).set k (.int .i64 ((x : Nat) : Int))).congr fun b _ => ?_
    rw [hT]
    by_cases e2 : b = k <;> simp [e2]
  · refine ((h.rows j hj).setOther (by show g + 1 + j ≠ g + 1 + i; omega) _).congr fun b _ => ?_
    rw [hT, if_neg (fun h => e h.1)]
theorem GridAt.congr (h : GridAt w g n T) (e : ∀ i k, i < n → k < n → T i k = T' i k) : GridAt w g n T' := ⟨h.heads, fun i hi => (h.rows i hi).congr fun k hk => by rw [e i k hi hk]⟩
theorem GridAt.lt (h : GridAt w g n T) : g < w.heap.size := h.heads.lt
end

set_option maxHeartbeats 4000000 in
set_option maxRecDepth 100000 in
theorem l5Links_any (v : Value) (p : LProg) (w : World) (h : RdProg w w.heap.size v p) (hs : szP p ≤ 1048576) (hn : p.1.length ≤ 24) (hf : ∀ x ∈ asksOf p.2, AskFits p.1.length x) :
    Calls Tryd.prog 45 #[v] w fun e w' => ∃ g, e = .returned (.slice (some ⟨g, 0, none⟩) p.1.length p.1.length) ∧ GridAt w' g p.1.length (cellV (asksOf p.2)) ∧ w.heap.size ≤ g ∧ g + 1 + p.1.length ≤ w'.heap.size ∧ Below w.heap.size w w' := by
  have HP := Lib.hid h
  have HF := Lib.hid hf
  have hs' := hs
  unfold szP at hs'
  have HBL := Lib.hid (show ∀ r ∈ p.2, r.2.length ≤ 1048576 from fun r hr => by
    obtain ⟨k, hk, rfl⟩ := List.getElem_of_mem hr
    have := sz_le_totR p.2 k hk
    unfold szR at this
    omega)
  obtain ⟨a, b, rfl, hA, hR⟩ := h
  have HR := Lib.hid hR
  obtain ⟨A, c, rfl, hcA, _⟩ := hA
  obtain ⟨A2, c2, rfl, hcR, _⟩ := hR
  have hmk1 := fun W => run_make_row' (P := Tryd.prog) 38 22 (.slice none 0 0) 24 Tryd.underlying38 Tryd.infoIntS rfl .i64 .i64 p.1.length (by omega) (by omega) W
  have hmk2 := fun W => run_make_row' (P := Tryd.prog) 22 3 (.int .i64 0) 8 Tryd.underlying22 Tryd.infoInt rfl .i64 .i64 p.1.length (by omega) (by omega) W
  clear hf
  obtain ⟨n, hne⟩ : ∃ n, n = p.1.length := ⟨_, rfl⟩
  rw [← hne] at hmk1 hmk2 hn HF hs' hcA ⊢
  obtain ⟨rs, hrs⟩ : ∃ rs, rs = p.2 := ⟨_, rfl⟩
  rw [← hrs] at HF HBL HR hs' hcR ⊢
  clear hne hrs
  go_enter Tryd.func45, Tryd.ntmps45
  go_upto_region 1 with fail
  obtain ⟨w1, hw1⟩ : ∃ w1, w1 = w.alloc (Obj.cells #[Value.slice A n c, Value.slice A2 rs.length c2] 31) := ⟨_, rfl⟩
  have X1 : Blk w1 w.heap.size 31 #[.slice A n c, .slice A2 rs.length c2] := by rw [hw1]; exact Blk.new _ _ _
  have B1 : Below w.heap.size w w1 := by rw [hw1]; exact below1 _ _
  have hs1 : w1.heap.size = w.heap.size + 1 := by rw [hw1]; simp
  rw [← hw1]
  have x0 : w1.cell? ⟨w.heap.size, 0, none⟩ = some (.slice A n c) := X1.cell 0
  clear hw1
  go_upto_region 2 with fail
  obtain ⟨g, hg⟩ : ∃ g, g = w.heap.size + 1 := ⟨_, rfl⟩
  obtain ⟨w2, hw2⟩ : ∃ w2, w2 = w1.alloc (Obj.cells (madeCells #[Value.slice none 0 0] n) 22) := ⟨_, rfl⟩
  have R2 : w2.rowIs g 22 n (fun _ => .slice none 0 0) := by rw [hw2, hg, ← hs1]; exact World.rowIs_made _ _ _ _
  have B2 : Below w.heap.size w w2 := by rw [hw2]; exact bthen B1 (below1 _ _)
  have hs2 : w2.heap.size = g + 1 := by rw [hw2, hg]; simp [hs1]
  have X2 : Blk w2 w.heap.size 31 #[.slice A n c, .slice A2 rs.length c2] := by rw [hw2]; exact X1.alloc _
  rw [← hw2, show w.heap.size + 1 = g from hg.symm]
  have hgw : w.heap.size < g := by omega
  have HS2 := Lib.hid hs2
  have HR2 := Lib.hid R2
  have HX2 := Lib.hid X2
  have HB2 := Lib.hid B2
  clear hw2 hg hs1 R2 X2 B2 X1 B1 hs2 hmk1 x0
  go_wp2_with fail
  go_loopw [4] (fun i wr => ∃ k : Nat, k ≤ n ∧ i = .int .i64 k ∧ wr.rowIs g 22 n (fun j => if j < k then .slice (some ⟨g + 1 + j, 0, none⟩) n n else .slice none 0 0) ∧ (∀ j, j < k → wr.rowIs (g + 1 + j) 3 n (fun _ => .int .i64 0)) ∧ wr.heap.size = g + 1 + k ∧ Below w.heap.size w wr ∧ Blk wr w.heap.size 31 #[.slice A n c, .slice A2 rs.length c2]) (fun i _ => n - (intOf i).toNat)
  case atStart => exact ⟨0, Nat.zero_le _, rfl, HR2.out.congr (fun j _ => by simp), fun j h => absurd h (Nat.not_lt_zero _), HS2.out, HB2.out, HX2.out⟩
  case round =>
    obtain ⟨k, hk, rfl, hr, hrows, hsz, hbe, hX⟩ := hrel
    have q0 : wr.cell? ⟨w.heap.size, 0, none⟩ = some (.slice A n c) := hX.cell 0
    by_cases hlt : k < n
    · have hck := hr.cell hlt
      rw [if_neg (Nat.lt_irrefl k)] at hck
      have hfk := hr.frozen k
      have hck3 : (wr.alloc (Obj.cells (madeCells #[Value.int .i64 0] n) 3)).cell? ⟨g, k, none⟩ = some (.slice none 0 0) := ((below1 wr _).cell (p := ⟨g, k, none⟩) (by show g < _; omega)).trans hck
      have hfk3 : (wr.alloc (Obj.cells (madeCells #[Value.int .i64 0] n) 3)).frozen? ⟨g, k, none⟩ = false := (hr.alloc _).frozen k
      have HN := Lib.hid (show ((wr.alloc (Obj.cells (madeCells #[Value.int .i64 0] n) 3)).setCell ⟨g, k, none⟩ (.slice (some ⟨g + 1 + k, 0, none⟩) n n)).rowIs g 22 n (fun j => if j < k + 1 then .slice (some ⟨g + 1 + j, 0, none⟩) n n else .slice none 0 0) ∧ (∀ j, j < k + 1 → ((wr.alloc (Obj.cells (madeCells #[Value.int .i64 0] n) 3)).setCell ⟨g, k, none⟩ (.slice (some ⟨g + 1 + k, 0, none⟩) n n)).rowIs (g + 1 + j) 3 n (fun _ => .int .i64 0)) ∧ ((wr.alloc (Obj.cells (madeCells #[Value.int .i64 0] n) 3)).setCell ⟨g, k, none⟩ (.slice (some ⟨g + 1 + k, 0, none⟩) n n)).heap.size = g + 1 + (k + 1) ∧ Below w.heap.size w ((wr.alloc (Obj.cells (madeCells #[Value.int .i64 0] n) 3)).setCell ⟨g, k, none⟩ (.slice (some ⟨g + 1 + k, 0, none⟩) n n)) ∧ Blk ((wr.alloc (Obj.cells (madeCells #[Value.int .i64 0] n) 3)).setCell ⟨g, k, none⟩ (.slice (some ⟨g + 1 + k, 0, none⟩) n n)) w.heap.size 31 #[.slice A n c, .slice A2 rs.length c2] from by
        refine ⟨((hr.alloc _).set k _).congr fun j hj => ?_, fun j hj => ?_, by simp [hsz]; omega, (hbe.alloc hbe.size _).setCell (by show w.heap.size ≤ g; omega) _, (hX.alloc _).far (by show w.heap.size ≠ g; omega) _⟩
        · by_cases e : j = k
          · subst e
            simp
          · rw [if_neg e]
            by_cases e2 : j < k
            · rw [if_pos e2, if_pos (by omega)]
            · rw [if_neg e2, if_neg (by omega)]
        · by_cases e : j = k
          · subst e
            have h1 := World.rowIs_made wr (.int .i64 0) n 3
            rw [hsz] at h1
            exact h1.setOther (by show g + 1 + j ≠ g; omega) _
          · exact ((hrows j (by omega)).alloc _).setOther (by show g + 1 + j ≠ g; omega) _)
      have hwsz : wr.heap.size = g + 1 + k := hsz
      clear hr hrows hbe hX hck hfk
      go_wp2_with fail
      go_roundw
      case rel => exact ⟨k + 1, by omega, by go_num, HN.out⟩
      case measure => simp [intOf]; omega
    · have HG := Lib.hid (show GridAt wr g n (cellV []) ∧ wr.heap.size = g + 1 + n ∧ Below w.heap.size w wr ∧ Blk wr w.heap.size 31 #[.slice A n c, .slice A2 rs.length c2] from by
        obtain rfl : k = n := by omega
        exact ⟨⟨hr.congr fun j hj => by rw [if_pos hj], fun j hj => hrows j hj⟩, hsz, hbe, hX⟩)
      clear hr hrows hbe hX hsz q0
      go_upto_region 6 with fail
      obtain ⟨G3, hsz3, BW3, X3⟩ := HG.out
      obtain ⟨w3, rfl⟩ : ∃ w3, w3 = wr := ⟨_, rfl⟩
      have HX3 := Lib.hid X3
      have HBW3 := Lib.hid BW3
      have HSZ3 := Lib.hid hsz3
      clear X3 BW3 hsz3 HG
      have HG3 := Lib.hid G3
      clear G3
      go_wp2_with fail
      go_loopw [5] (fun i wr => ∃ k : Nat, k ≤ rs.length ∧ i = .int .i64 k ∧ GridAt wr g n (cellV (asksOf (rs.take k))) ∧ Only g (g + 1 + n) w3 wr) (fun i _ => rs.length - (intOf i).toNat)
      case atStart => exact ⟨0, Nat.zero_le _, rfl, by simpa [asksOf] using HG3.out, Only.refl _ _ _⟩
      case round =>
        obtain ⟨k, hk, rfl, hat, hon⟩ := hrel
        have hs3 := HSZ3.out
        have BW : Below w.heap.size w wr := Only.then_ HBW3.out hon (by omega)
        have HON := Lib.hid hon
        have hsz0 := hon.size
        have q1 : wr.cell? ⟨w.heap.size, 1, none⟩ = some (.slice A2 rs.length c2) := (HX3.out.only hon (.inl hgw)).cell 1
        by_cases hlt : k < rs.length
        · obtain ⟨b, o, u0, u1, u2, rfl, hbB, k0, k1, k2, rfl, q3, q2⟩ := (HR.out.below BW (Nat.le_refl _)).get hlt
          have hwr : w.heap.size ≤ wr.heap.size := BW.size
          have Q2 := Lib.hid q2
          obtain ⟨A3, c3, rfl, _⟩ := q3
          obtain ⟨A4, c4, rfl, _⟩ := q2
          have hbl := HBL.out _ (List.getElem_mem hlt)
          clear hon
          go_upto_region 10 with fail
          obtain ⟨wv, hwv⟩ : ∃ wv, wv = wr.alloc (Obj.cells #[Value.int .i64 rs[k].1.1, Value.slice A3 rs[k].1.2.length c3, Value.slice A4 rs[k].2.length c4] 78) := ⟨_, rfl⟩
          have bv : Below wr.heap.size wr wv := by rw [hwv]; exact below1 _ _
          have X : Blk wv wr.heap.size 78 #[.int .i64 rs[k].1.1, .slice A3 rs[k].1.2.length c3, .slice A4 rs[k].2.length c4] := by rw [hwv]; exact Blk.new _ _ _
          rw [← hwv]
          have hvl := X.lt
          clear hwv k0 k1 k2 q1
          have hgr : g + 1 + n ≤ wr.heap.size := by omega
          have HATV := Lib.hid (hat.below bv hgr)
          have HX := Lib.hid X
          have HBV := Lib.hid bv
          clear hat X bv
          go_wp2_with fail
          obtain ⟨wo, rfl⟩ : ∃ wo, wo = wr := ⟨_, rfl⟩
          go_loopw [7] (fun i wr => ∃ m : Nat, m ≤ rs[k].2.length ∧ i = .int .i64 m ∧ GridAt wr g n (cellV (asksOf (rs.take k) ++ (rs[k].2.take m).map fun l => (rs[k].1.1, l))) ∧ Only g (g + 1 + n) wv wr) (fun i _ => rs[k].2.length - (intOf i).toNat)
          case atStart => exact ⟨0, Nat.zero_le _, rfl, by simpa using HATV.out, Only.refl _ _ _⟩
          case round =>
            obtain ⟨m, hm, rfl, hax, honx⟩ := hrel
            have hsx := honx.size
            have Xx := HX.out.only honx (.inr hgr)
            have q2 : wr.cell? ⟨wo.heap.size, 2, none⟩ = some (.slice A4 rs[k].2.length c4) := Xx.cell 2
            by_cases hltm : m < rs[k].2.length
            · obtain ⟨b5, o5, y0, y1, y2, rfl, hb5, l0, l1, l2, rfl, rfl, q5⟩ := (Q2.out.below ((HBV.out.mono hwr).trans (honx.below (by omega) (by omega))) (Nat.le_refl _)).get hltm
              obtain ⟨A5, c5, rfl, _⟩ := q5
              obtain ⟨x, hxe⟩ : ∃ x : LAsk, x = (rs[k].1.1, rs[k].2[m]) := ⟨_, rfl⟩
              have HXE := Lib.hid (show x.2.1 = rs[k].2[m].1 by rw [hxe])
              have HFX := Lib.hid (show AskFits n x by rw [hxe]; exact HF.out _ (asksOf_mem hlt hltm))
              obtain ⟨ps, hps⟩ : ∃ ps, ps = asksOf (rs.take k) ++ (rs[k].2.take m).map fun l => (rs[k].1.1, l) := ⟨_, rfl⟩
              have HPS := Lib.hid (show asksOf (rs.take k) ++ (rs[k].2.take (m + 1)).map (fun l => (rs[k].1.1, l)) = ps ++ [x] from by
                rw [take_snoc _ _ hltm, List.map_append, ← List.append_assoc, ← hps, hxe]; rfl)
              rw [← hps] at hax
              obtain ⟨p, hpe⟩ : ∃ p : Nat, rs[k].1.1 = (p : Int) := ⟨rs[k].1.1.toNat, by have := HFX.out.1; rw [hxe] at this; have := this.1; omega⟩
              have hpn : p < n := by have := HFX.out.1.2; rw [hxe] at this; have : rs[k].1.1 < (n : Int) := this; omega
              have x0 : wr.cell? ⟨wo.heap.size, 0, none⟩ = some (.int .i64 p) := by rw [← hpe]; exact Xx.cell 0
              clear hps
              go_upto_region 14 with fail
              obtain ⟨wl, hwl⟩ : ∃ wl, wl = wr.alloc (Obj.cells #[Value.int .i64 rs[k].2[m].1, Value.int .i64 rs[k].2[m].2.1, Value.slice A5 rs[k].2[m].2.2.length c5] 94) := ⟨_, rfl⟩
              have bl : Below wr.heap.size wr wl := by rw [hwl]; exact below1 _ _
              have Y : Blk wl wr.heap.size 94 #[.int .i64 rs[k].2[m].1, .int .i64 rs[k].2[m].2.1, .slice A5 rs[k].2[m].2.2.length c5] := by rw [hwl]; exact Blk.new _ _ _
              rw [← hwl]
              clear hwl l0 l1 l2 q2
              have z0 : wl.cell? ⟨wo.heap.size, 0, none⟩ = some (.int .i64 p) := (bl.cell (World.block_lt_of_cell? _ _ x0)).trans x0
              have HAL := Lib.hid (hax.below bl (by omega))
              have HOL := Lib.hid (honx.trans (Only.of_below bl))
              have hpi : (p : Int) < n := by omega
              have hlt1 : g + 1 + n ≤ wr.heap.size := by omega
              clear x0 hax honx Xx
              by_cases hk0 : rs[k].2[m].1 = 0
              · have hb0 : (rs[k].2[m].1 == 0) = true := by simp [hk0]
                have hb1 : (rs[k].2[m].1 == 1) = false := by simp; omega
                obtain ⟨hx1, hx2⟩ : 0 ≤ rs[k].2[m].2.1 ∧ rs[k].2[m].2.1 < n := by have := HFX.out.2 (.inl (HXE.out.trans hk0)); rw [hxe] at this; exact this
                obtain ⟨q, hqe⟩ : ∃ q : Nat, rs[k].2[m].2.1 = (q : Int) := ⟨rs[k].2[m].2.1.toNat, by omega⟩
                have hqn : q < n := by omega
                have hqi : (q : Int) < n := by omega
                have HXK := Lib.hid (show x.1 = (p : Int) ∧ x.2.1 = 0 ∧ x.2.2.1 = (q : Int) from ⟨by rw [hxe]; exact hpe, HXE.out.trans hk0, by rw [hxe]; exact hqe⟩)
                have e0 : wl.cell? ⟨wr.heap.size, 0, none⟩ = some (.int .i64 rs[k].2[m].1) := Y.cell 0
                have z1 : wl.cell? ⟨wr.heap.size, 1, none⟩ = some (.int .i64 q) := by rw [← hqe]; exact Y.cell 1
                obtain ⟨t, ht⟩ : ∃ t, t = cellV ps p q := ⟨_, rfl⟩
                have ht3 : t ≤ 3 := by rw [ht]; exact cellV_le _ _ _
                have HTE := Lib.hid ht.symm
                have z2 : wl.cell? ⟨g, p, none⟩ = some (.slice (some ⟨g + 1 + p, 0, none⟩) n n) := HAL.out.head hpn
                have z3 : wl.cell? ⟨g + 1 + p, q, none⟩ = some (.int .i64 ((t : Nat) : Int)) := by rw [ht]; exact HAL.out.cell hpn hqn
                have z4 : wl.frozen? ⟨g + 1 + p, q, none⟩ = false := (HAL.out.rows p hpn).frozen q
                have d0 : wl.drew.cell? ⟨wo.heap.size, 0, none⟩ = some (.int .i64 p) := z0
                have d1 : wl.drew.cell? ⟨wr.heap.size, 1, none⟩ = some (.int .i64 q) := z1
                have d2 : wl.drew.cell? ⟨g, p, none⟩ = some (.slice (some ⟨g + 1 + p, 0, none⟩) n n) := z2
                have d3 : wl.drew.cell? ⟨g + 1 + p, q, none⟩ = some (.int .i64 ((t : Nat) : Int)) := z3
                have d4 : wl.drew.frozen? ⟨g + 1 + p, q, none⟩ = false := z4
                have dd0 : wl.drew.drew.cell? ⟨wo.heap.size, 0, none⟩ = some (.int .i64 p) := z0
                have dd1 : wl.drew.drew.cell? ⟨wr.heap.size, 1, none⟩ = some (.int .i64 q) := z1
                have dd2 : wl.drew.drew.cell? ⟨g, p, none⟩ = some (.slice (some ⟨g + 1 + p, 0, none⟩) n n) := z2
                have dd3 : wl.drew.drew.cell? ⟨g + 1 + p, q, none⟩ = some (.int .i64 ((t : Nat) : Int)) := z3
                have dd4 : wl.drew.drew.frozen? ⟨g + 1 + p, q, none⟩ = false := z4
                have de0 : wl.drew.cell? ⟨wr.heap.size, 0, none⟩ = some (.int .i64 rs[k].2[m].1) := e0
                have dde0 : wl.drew.drew.cell? ⟨wr.heap.size, 0, none⟩ = some (.int .i64 rs[k].2[m].1) := e0
                clear ht hx1 hx2 hxe hpe hqe
                by_cases htt : t % 2 = 0
                · have hT : (((t : Nat) : Int) % 2 == 0) = true := by simp; omega
                  have HC0 := Lib.hid (show ∀ a b, cellV (ps ++ [x]) a b = if a = p ∧ b = q then t + 1 else cellV ps a b from fun a b => by
                    rw [cellV_snoc, HXK.out.1, HXK.out.2.1, HXK.out.2.2]
                    by_cases e : a = p ∧ b = q
                    · obtain ⟨rfl, rfl⟩ := e
                      rw [if_pos (show ((a : Int) = a ∧ (b : Int) = b) from ⟨rfl, rfl⟩), HTE.out, if_pos (show ((0 : Int) = 0 ∧ t % 2 = 0) from ⟨rfl, htt⟩), if_pos (show a = a ∧ b = b from ⟨rfl, rfl⟩)]
                    · rw [if_neg e, if_neg (by omega)])
                  clear hk0
                  go_upto_region 14 with fail
                  go_big_region
                  have HAM := HAL.out.drewn
                  have HOM := HOL.out.drewn
                  clear z0 z1 z2 z3 z4 e0 dd0 dd1 dd2 dd3 dd4 dde0
                  go_upto_region 15 with fail
                  generalize wl.drew = wm at *
                  have HN := Lib.hid (show GridAt (wm.setCell ⟨g + 1 + p, q, none⟩ (.int .i64 ((t : Int) + 1))).drew.drew g n (cellV (ps ++ [x])) from (GridAt.set (x := t + 1) HAM hpn HC0.out).drewn.drewn)
                  have HO6 := Lib.hid (show Only g (g + 1 + n) wv (wm.setCell ⟨g + 1 + p, q, none⟩ (.int .i64 ((t : Int) + 1))).drew.drew from (HOM.setCell ⟨by show g ≤ g + 1 + p; omega, by show g + 1 + p < g + 1 + n; omega⟩ _).drewn.drewn)
                  have s3 : wm.drew.cell? ⟨g + 1 + p, q, none⟩ = some (.int .i64 ((t : Nat) : Int)) := d3
                  have s4 : wm.drew.frozen? ⟨g + 1 + p, q, none⟩ = false := d4
                  obtain ⟨SS, hSS⟩ : ∃ SS : World → Prop, SS = (fun W => Below wm.heap.size wm W ∧ W.cell? ⟨wo.heap.size, 0, none⟩ = some (.int .i64 p) ∧ W.cell? ⟨wr.heap.size, 1, none⟩ = some (.int .i64 q) ∧ W.cell? ⟨g, p, none⟩ = some (.slice (some ⟨g + 1 + p, 0, none⟩) n n) ∧ W.cell? ⟨g + 1 + p, q, none⟩ = some (.int .i64 ((t : Nat) : Int))) := ⟨_, rfl⟩
                  have HB := Lib.hid (show ∀ W, SS W → (Below wm.heap.size wm W ∧ W.cell? ⟨wo.heap.size, 0, none⟩ = some (.int .i64 p) ∧ W.cell? ⟨wr.heap.size, 1, none⟩ = some (.int .i64 q) ∧ W.cell? ⟨g, p, none⟩ = some (.slice (some ⟨g + 1 + p, 0, none⟩) n n) ∧ W.cell? ⟨g + 1 + p, q, none⟩ = some (.int .i64 ((t : Nat) : Int))) from by rw [hSS]; exact fun W hW => hW)
                  have HS := Lib.hid (show ∀ W, Below wm.heap.size wm W → SS W from by
                    rw [hSS]
                    exact fun W hW => ⟨hW, (hW.cell (World.block_lt_of_cell? _ _ d0)).trans d0, (hW.cell (World.block_lt_of_cell? _ _ d1)).trans d1, (hW.cell (World.block_lt_of_cell? _ _ d2)).trans d2, (hW.cell (World.block_lt_of_cell? _ _ d3)).trans d3⟩)
                  have BB : Below wm.heap.size wm wm.drew := (Below.refl _ _).drew
                  have SB := HS.out _ BB
                  clear hSS d0 d1 d2 d3 d4 HAM HOM
                  refine wp_region_rel SS 22 23 (by kernel_rfl) rfl ?_
                  refine wpAnyR_pure (i := 0) (oi := _) ?v0 rfl rfl (by kernel_rfl) (by decide) (fun _ _ _ h => h) rfl ?hy0 (fun _ => SB) ?rest0
                  case hy0 => (intro W; go_simp; (try with_reducible rfl))
                  try simp only [List.setIfInBounds_toArray, List.set_cons_zero, List.set_cons_succ]
                  refine wpAnyR_pure (i := 1) (oi := _) ?v1 rfl rfl (by kernel_rfl) (by decide) (fun _ _ _ h => h) rfl ?hy1 (fun _ => SB) ?rest1
                  case hy1 => (intro W; go_simp; (try with_reducible rfl))
                  try simp only [List.setIfInBounds_toArray, List.set_cons_zero, List.set_cons_succ]
                  refine wpAnyR_pure (i := 2) (oi := _) ?v2 rfl rfl (by kernel_rfl) (by decide) (fun _ _ _ h => h) rfl ?hy2 (fun _ => SB) ?rest2
                  case hy2 => (intro W; go_simp; (try with_reducible rfl))
                  try simp only [List.setIfInBounds_toArray, List.set_cons_zero, List.set_cons_succ]
                  refine wpAnyR_take (i := 3) (oi := _) ?v3 rfl rfl (by kernel_rfl) (fun _ _ _ h => h) rfl ?hy3 SB ?rest3
                  case hy3 => (intro W hW; obtain ⟨_, c0, c1, c2, c3⟩ := HB.out W hW; go_simp; (try with_reducible rfl))
                  try simp only [List.setIfInBounds_toArray, List.set_cons_zero, List.set_cons_succ]
                  refine wpAnyR_pure (i := 4) (oi := _) ?v4 rfl rfl (by kernel_rfl) (by decide) (fun _ _ _ h => h) rfl ?hy4 (fun _ => SB) ?rest4
                  case hy4 => (intro W; go_simp; (try with_reducible rfl))
                  try simp only [List.setIfInBounds_toArray, List.set_cons_zero, List.set_cons_succ]
                  refine wpAnyR_take (i := 5) (oi := _) ?v5 rfl rfl (by kernel_rfl) (fun _ _ _ h => h) rfl ?hy5 SB ?rest5
                  case hy5 => (intro W hW; obtain ⟨_, c0, c1, c2, c3⟩ := HB.out W hW; go_simp; (try with_reducible rfl))
                  try simp only [List.setIfInBounds_toArray, List.set_cons_zero, List.set_cons_succ]
                  refine wpAnyR_pure (i := 6) (oi := _) ?v6 rfl rfl (by kernel_rfl) (by decide) (fun _ _ _ h => h) rfl ?hy6 (fun _ => SB) ?rest6
                  case hy6 => (intro W; go_simp; (try with_reducible rfl))
                  try simp only [List.setIfInBounds_toArray, List.set_cons_zero, List.set_cons_succ]
                  refine wpAnyR_pure (i := 7) (oi := _) ?v7 rfl rfl (by kernel_rfl) (by decide) (fun _ _ _ h => h) rfl ?hy7 (fun _ => SB) ?rest7
                  case hy7 => (intro W; go_simp; (try with_reducible rfl))
                  try simp only [List.setIfInBounds_toArray, List.set_cons_zero, List.set_cons_succ]
                  refine wpAnyR_take (i := 8) (oi := _) ?v8 rfl rfl (by kernel_rfl) (fun _ _ _ h => h) rfl ?hy8 SB ?rest8
                  case hy8 => (intro W hW; obtain ⟨_, c0, c1, c2, c3⟩ := HB.out W hW; go_simp; (try with_reducible rfl))
                  try simp only [List.setIfInBounds_toArray, List.set_cons_zero, List.set_cons_succ]
                  refine wpAnyR_pure (i := 9) (oi := _) ?v9 rfl rfl (by kernel_rfl) (by decide) (fun _ _ _ h => h) rfl ?hy9 (fun _ => SB) ?rest9
                  case hy9 => (intro W; go_simp; (try with_reducible rfl))
                  try simp only [List.setIfInBounds_toArray, List.set_cons_zero, List.set_cons_succ]
                  refine wpAnyR_pure (i := 10) (oi := _) ?v10 rfl rfl (by kernel_rfl) (by decide) (fun _ _ _ h => h) rfl ?hy10 (fun _ => SB) ?rest10
                  case hy10 => (intro W; go_simp; (try with_reducible rfl))
                  try simp only [List.setIfInBounds_toArray, List.set_cons_zero, List.set_cons_succ]
                  refine wpAnyR_pure (i := 11) (oi := _) ?v11 rfl rfl (by kernel_rfl) (by decide) (fun _ _ _ h => h) rfl ?hy11 (fun _ => SB) ?rest11
                  case hy11 => (intro W; go_simp; (try with_reducible rfl))
                  try simp only [List.setIfInBounds_toArray, List.set_cons_zero, List.set_cons_succ]
                  refine wpAnyR_take (i := 12) (oi := _) ?v12 rfl rfl (by kernel_rfl) (fun _ _ _ h => h) rfl ?hy12 SB ?rest12
                  case hy12 => (intro W hW; obtain ⟨_, c0, c1, c2, c3⟩ := HB.out W hW; go_simp; (try with_reducible rfl))
                  try simp only [List.setIfInBounds_toArray, List.set_cons_zero, List.set_cons_succ]
                  refine wpAnyR_pure (i := 13) (oi := _) ?v13 rfl rfl (by kernel_rfl) (by decide) (fun _ _ _ h => h) rfl ?hy13 (fun _ => SB) ?rest13
                  case hy13 => (intro W; go_simp; (try with_reducible rfl))
                  try simp only [List.setIfInBounds_toArray, List.set_cons_zero, List.set_cons_succ]
                  refine wpAnyR_take (i := 14) (oi := _) ?v14 rfl rfl (by kernel_rfl) (fun _ _ _ h => h) rfl ?hy14 SB ?rest14
                  case hy14 => (intro W hW; obtain ⟨_, c0, c1, c2, c3⟩ := HB.out W hW; go_simp; (try with_reducible rfl))
                  try simp only [List.setIfInBounds_toArray, List.set_cons_zero, List.set_cons_succ]
                  refine wpAnyR_pure (i := 15) (oi := _) ?v15 rfl rfl (by kernel_rfl) (by decide) (fun _ _ _ h => h) rfl ?hy15 (fun _ => SB) ?rest15
                  case hy15 => (intro W; go_simp; (try with_reducible rfl))
                  try simp only [List.setIfInBounds_toArray, List.set_cons_zero, List.set_cons_succ]
                  refine wpAnyR_pure (i := 16) (oi := _) ?v16 rfl rfl (by kernel_rfl) (by decide) (fun _ _ _ h => h) rfl ?hy16 (fun _ => SB) ?rest16
                  case hy16 => (intro W; go_simp; (try with_reducible rfl))
                  try simp only [List.setIfInBounds_toArray, List.set_cons_zero, List.set_cons_succ]
                  refine wpAnyR_take (i := 17) (oi := _) ?v17 rfl rfl (by kernel_rfl) (fun _ _ _ h => h) rfl ?hy17 SB ?rest17
                  case hy17 => (intro W hW; obtain ⟨_, c0, c1, c2, c3⟩ := HB.out W hW; go_simp; (try with_reducible rfl))
                  try simp only [List.setIfInBounds_toArray, List.set_cons_zero, List.set_cons_succ]
                  refine wpAnyR_pure (i := 18) (oi := _) ?v18 rfl rfl (by kernel_rfl) (by decide) (fun _ _ _ h => h) rfl ?hy18 (fun _ => SB) ?rest18
                  case hy18 => (intro W; go_simp; (try with_reducible rfl))
                  try simp only [List.setIfInBounds_toArray, List.set_cons_zero, List.set_cons_succ]
                  refine wpAnyR_take (i := 19) (oi := _) ?v19 rfl rfl (by kernel_rfl) (fun _ _ _ h => h) rfl ?hy19 SB ?rest19
                  case hy19 => (intro W hW; obtain ⟨_, c0, c1, c2, c3⟩ := HB.out W hW; go_simp; (try with_reducible rfl))
                  try simp only [List.setIfInBounds_toArray, List.set_cons_zero, List.set_cons_succ]
                  refine wpAnyR_pure (i := 20) (oi := _) ?v20 rfl rfl (by kernel_rfl) (by decide) (fun _ _ _ h => h) rfl ?hy20 (fun _ => SB) ?rest20
                  case hy20 => (intro W; go_simp; (try with_reducible rfl))
                  try simp only [List.setIfInBounds_toArray, List.set_cons_zero, List.set_cons_succ]
                  refine wpAnyR_pure (i := 21) (oi := _) ?v21 rfl rfl (by kernel_rfl) (by decide) (fun _ _ _ h => h) rfl ?hy21 (fun _ => SB) ?rest21
                  case hy21 => (intro W; go_simp; (try with_reducible rfl))
                  try simp only [List.setIfInBounds_toArray, List.set_cons_zero, List.set_cons_succ]
                  refine wpAnyR_one (i := 22) (by kernel_rfl) rfl (fun K hK => ?_)
                  go_simp
                  refine hK.out _ _ (fun hf => absurd hf (by decide)) ?_
                  clear hK K
                  refine wpAnyR_done (by kernel_rfl) ?_
                  go_upto_region 16 with fail
                  go_big_region
                  go_wp2_with fail
                  go_roundw
                  case rel => exact ⟨m + 1, by omega, by go_num, by rw [HPS.out]; exact HN.out, HO6.out⟩
                  case measure => simp [intOf]; omega
                · have hT : (((t : Nat) : Int) % 2 == 0) = false := by simp; omega
                  have HN := Lib.hid (show GridAt wl g n (cellV (ps ++ [x])) from HAL.out.congr fun a b _ _ => by
                    rw [cellV_snoc, HXK.out.1, HXK.out.2.1, HXK.out.2.2]
                    by_cases e : (p : Int) = (a : Int) ∧ (q : Int) = (b : Int)
                    · obtain ⟨rfl, rfl⟩ : p = a ∧ q = b := by omega
                      rw [if_pos e, HTE.out, if_neg (by omega), if_neg (by omega)]
                    · rw [if_neg e])
                  clear hk0
                  go_upto_region 14 with fail
                  go_big_region
                  go_upto_region 16 with fail
                  go_big_region
                  go_wp2_with fail
                  go_roundw
                  case rel => exact ⟨m + 1, by omega, by go_num, by rw [HPS.out]; exact (HN.out.drewn).drewn, HOL.out.drewn.drewn⟩
                  case measure => simp [intOf]; omega
              · have hb0 : (rs[k].2[m].1 == 0) = false := by simp [hk0]
                by_cases hk1 : rs[k].2[m].1 = 1
                · have hb1 : (rs[k].2[m].1 == 1) = true := by simp [hk1]
                  obtain ⟨hx1, hx2⟩ : 0 ≤ rs[k].2[m].2.1 ∧ rs[k].2[m].2.1 < n := by have := HFX.out.2 (.inr (HXE.out.trans hk1)); rw [hxe] at this; exact this
                  obtain ⟨q, hqe⟩ : ∃ q : Nat, rs[k].2[m].2.1 = (q : Int) := ⟨rs[k].2[m].2.1.toNat, by omega⟩
                  have hqn : q < n := by omega
                  have hqi : (q : Int) < n := by omega
                  have HXK := Lib.hid (show x.1 = (p : Int) ∧ x.2.1 = 1 ∧ x.2.2.1 = (q : Int) from ⟨by rw [hxe]; exact hpe, HXE.out.trans hk1, by rw [hxe]; exact hqe⟩)
                  have e0 : wl.cell? ⟨wr.heap.size, 0, none⟩ = some (.int .i64 rs[k].2[m].1) := Y.cell 0
                  have z1 : wl.cell? ⟨wr.heap.size, 1, none⟩ = some (.int .i64 q) := by rw [← hqe]; exact Y.cell 1
                  obtain ⟨t, ht⟩ : ∃ t, t = cellV ps p q := ⟨_, rfl⟩
                  have ht3 : t ≤ 3 := by rw [ht]; exact cellV_le _ _ _
                  have HTE := Lib.hid ht.symm
                  have z2 : wl.cell? ⟨g, p, none⟩ = some (.slice (some ⟨g + 1 + p, 0, none⟩) n n) := HAL.out.head hpn
                  have z3 : wl.cell? ⟨g + 1 + p, q, none⟩ = some (.int .i64 ((t : Nat) : Int)) := by rw [ht]; exact HAL.out.cell hpn hqn
                  have z4 : wl.frozen? ⟨g + 1 + p, q, none⟩ = false := (HAL.out.rows p hpn).frozen q
                  have d0 : wl.drew.cell? ⟨wo.heap.size, 0, none⟩ = some (.int .i64 p) := z0
                  have d1 : wl.drew.cell? ⟨wr.heap.size, 1, none⟩ = some (.int .i64 q) := z1
                  have d2 : wl.drew.cell? ⟨g, p, none⟩ = some (.slice (some ⟨g + 1 + p, 0, none⟩) n n) := z2
                  have d3 : wl.drew.cell? ⟨g + 1 + p, q, none⟩ = some (.int .i64 ((t : Nat) : Int)) := z3
                  have d4 : wl.drew.frozen? ⟨g + 1 + p, q, none⟩ = false := z4
                  have dd0 : wl.drew.drew.cell? ⟨wo.heap.size, 0, none⟩ = some (.int .i64 p) := z0
                  have dd1 : wl.drew.drew.cell? ⟨wr.heap.size, 1, none⟩ = some (.int .i64 q) := z1
                  have dd2 : wl.drew.drew.cell? ⟨g, p, none⟩ = some (.slice (some ⟨g + 1 + p, 0, none⟩) n n) := z2
                  have dd3 : wl.drew.drew.cell? ⟨g + 1 + p, q, none⟩ = some (.int .i64 ((t : Nat) : Int)) := z3
                  have dd4 : wl.drew.drew.frozen? ⟨g + 1 + p, q, none⟩ = false := z4
                  have de0 : wl.drew.cell? ⟨wr.heap.size, 0, none⟩ = some (.int .i64 rs[k].2[m].1) := e0
                  have dde0 : wl.drew.drew.cell? ⟨wr.heap.size, 0, none⟩ = some (.int .i64 rs[k].2[m].1) := e0
                  clear ht hx1 hx2 hxe hpe hqe
                  by_cases htt : t < 2
                  · have hT : decide (((t : Nat) : Int) < 2) = true := by simp; omega
                    have HC0 := Lib.hid (show ∀ a b, cellV (ps ++ [x]) a b = if a = p ∧ b = q then t + 2 else cellV ps a b from fun a b => by
                      rw [cellV_snoc, HXK.out.1, HXK.out.2.1, HXK.out.2.2]
                      by_cases e : a = p ∧ b = q
                      · obtain ⟨rfl, rfl⟩ := e
                        rw [if_pos (show ((a : Int) = a ∧ (b : Int) = b) from ⟨rfl, rfl⟩), HTE.out, if_neg (fun h => absurd h.1 (by decide)), if_pos (show ((1 : Int) = 1 ∧ t < 2) from ⟨rfl, htt⟩), if_pos (show a = a ∧ b = b from ⟨rfl, rfl⟩)]
                      · rw [if_neg e, if_neg (by omega)])
                    clear hk0 hk1
                    go_upto_region 14 with fail
                    go_big_region
                    have HAM := HAL.out.drewn
                    have HOM := HOL.out.drewn
                    clear z0 z1 z2 z3 z4 e0 dd0 dd1 dd2 dd3 dd4 dde0
                    go_upto_region 16 with fail
                    generalize wl.drew = wa at *
                    have dd0 : wa.drew.cell? ⟨wo.heap.size, 0, none⟩ = some (.int .i64 p) := d0
                    have dd1 : wa.drew.cell? ⟨wr.heap.size, 1, none⟩ = some (.int .i64 q) := d1
                    have dd2 : wa.drew.cell? ⟨g, p, none⟩ = some (.slice (some ⟨g + 1 + p, 0, none⟩) n n) := d2
                    have dd3 : wa.drew.cell? ⟨g + 1 + p, q, none⟩ = some (.int .i64 ((t : Nat) : Int)) := d3
                    have dd4 : wa.drew.frozen? ⟨g + 1 + p, q, none⟩ = false := d4
                    have dde0 : wa.drew.cell? ⟨wr.heap.size, 0, none⟩ = some (.int .i64 rs[k].2[m].1) := de0
                    go_big_region
                    have HAM := HAM.drewn
                    have HOM := HOM.drewn
                    clear d0 d1 d2 d3 d4 de0
                    go_upto_region 17 with fail
                    generalize wa.drew = wm at *
                    have HN := Lib.hid (show GridAt (wm.setCell ⟨g + 1 + p, q, none⟩ (.int .i64 ((t : Int) + 2))).drew g n (cellV (ps ++ [x])) from (GridAt.set (x := t + 2) HAM hpn HC0.out).drewn)
                    have HO6 := Lib.hid (show Only g (g + 1 + n) wv (wm.setCell ⟨g + 1 + p, q, none⟩ (.int .i64 ((t : Int) + 2))).drew from (HOM.setCell ⟨by show g ≤ g + 1 + p; omega, by show g + 1 + p < g + 1 + n; omega⟩ _).drewn)
                    have s3 : wm.drew.cell? ⟨g + 1 + p, q, none⟩ = some (.int .i64 ((t : Nat) : Int)) := dd3
                    have s4 : wm.drew.frozen? ⟨g + 1 + p, q, none⟩ = false := dd4
                    obtain ⟨SS, hSS⟩ : ∃ SS : World → Prop, SS = (fun W => Below wm.heap.size wm W ∧ W.cell? ⟨wo.heap.size, 0, none⟩ = some (.int .i64 p) ∧ W.cell? ⟨wr.heap.size, 1, none⟩ = some (.int .i64 q) ∧ W.cell? ⟨g, p, none⟩ = some (.slice (some ⟨g + 1 + p, 0, none⟩) n n) ∧ W.cell? ⟨g + 1 + p, q, none⟩ = some (.int .i64 ((t : Nat) : Int))) := ⟨_, rfl⟩
                    have HB := Lib.hid (show ∀ W, SS W → (Below wm.heap.size wm W ∧ W.cell? ⟨wo.heap.size, 0, none⟩ = some (.int .i64 p) ∧ W.cell? ⟨wr.heap.size, 1, none⟩ = some (.int .i64 q) ∧ W.cell? ⟨g, p, none⟩ = some (.slice (some ⟨g + 1 + p, 0, none⟩) n n) ∧ W.cell? ⟨g + 1 + p, q, none⟩ = some (.int .i64 ((t : Nat) : Int))) from by rw [hSS]; exact fun W hW => hW)
                    have HS := Lib.hid (show ∀ W, Below wm.heap.size wm W → SS W from by
                      rw [hSS]
                      exact fun W hW => ⟨hW, (hW.cell (World.block_lt_of_cell? _ _ dd0)).trans dd0, (hW.cell (World.block_lt_of_cell? _ _ dd1)).trans dd1, (hW.cell (World.block_lt_of_cell? _ _ dd2)).trans dd2, (hW.cell (World.block_lt_of_cell? _ _ dd3)).trans dd3⟩)
                    have BB : Below wm.heap.size wm wm.drew := (Below.refl _ _).drew
                    have SB := HS.out _ BB
                    clear hSS dd0 dd1 dd2 dd3 dd4 HAM HOM
                    refine wp_region_rel SS 22 23 (by kernel_rfl) rfl ?_
                    refine wpAnyR_pure (i := 0) (oi := _) ?vb0 rfl rfl (by kernel_rfl) (by decide) (fun _ _ _ h => h) rfl ?hyb0 (fun _ => SB) ?restb0
                    case hyb0 => (intro W; go_simp; (try with_reducible rfl))
                    try simp only [List.setIfInBounds_toArray, List.set_cons_zero, List.set_cons_succ]
                    refine wpAnyR_pure (i := 1) (oi := _) ?vb1 rfl rfl (by kernel_rfl) (by decide) (fun _ _ _ h => h) rfl ?hyb1 (fun _ => SB) ?restb1
                    case hyb1 => (intro W; go_simp; (try with_reducible rfl))
                    try simp only [List.setIfInBounds_toArray, List.set_cons_zero, List.set_cons_succ]
                    refine wpAnyR_pure (i := 2) (oi := _) ?vb2 rfl rfl (by kernel_rfl) (by decide) (fun _ _ _ h => h) rfl ?hyb2 (fun _ => SB) ?restb2
                    case hyb2 => (intro W; go_simp; (try with_reducible rfl))
                    try simp only [List.setIfInBounds_toArray, List.set_cons_zero, List.set_cons_succ]
                    refine wpAnyR_take (i := 3) (oi := _) ?vb3 rfl rfl (by kernel_rfl) (fun _ _ _ h => h) rfl ?hyb3 SB ?restb3
                    case hyb3 => (intro W hW; obtain ⟨_, c0, c1, c2, c3⟩ := HB.out W hW; go_simp; (try with_reducible rfl))
                    try simp only [List.setIfInBounds_toArray, List.set_cons_zero, List.set_cons_succ]
                    refine wpAnyR_pure (i := 4) (oi := _) ?vb4 rfl rfl (by kernel_rfl) (by decide) (fun _ _ _ h => h) rfl ?hyb4 (fun _ => SB) ?restb4
                    case hyb4 => (intro W; go_simp; (try with_reducible rfl))
                    try simp only [List.setIfInBounds_toArray, List.set_cons_zero, List.set_cons_succ]
                    refine wpAnyR_take (i := 5) (oi := _) ?vb5 rfl rfl (by kernel_rfl) (fun _ _ _ h => h) rfl ?hyb5 SB ?restb5
                    case hyb5 => (intro W hW; obtain ⟨_, c0, c1, c2, c3⟩ := HB.out W hW; go_simp; (try with_reducible rfl))
                    try simp only [List.setIfInBounds_toArray, List.set_cons_zero, List.set_cons_succ]
                    refine wpAnyR_pure (i := 6) (oi := _) ?vb6 rfl rfl (by kernel_rfl) (by decide) (fun _ _ _ h => h) rfl ?hyb6 (fun _ => SB) ?restb6
                    case hyb6 => (intro W; go_simp; (try with_reducible rfl))
                    try simp only [List.setIfInBounds_toArray, List.set_cons_zero, List.set_cons_succ]
                    refine wpAnyR_pure (i := 7) (oi := _) ?vb7 rfl rfl (by kernel_rfl) (by decide) (fun _ _ _ h => h) rfl ?hyb7 (fun _ => SB) ?restb7
                    case hyb7 => (intro W; go_simp; (try with_reducible rfl))
                    try simp only [List.setIfInBounds_toArray, List.set_cons_zero, List.set_cons_succ]
                    refine wpAnyR_take (i := 8) (oi := _) ?vb8 rfl rfl (by kernel_rfl) (fun _ _ _ h => h) rfl ?hyb8 SB ?restb8
                    case hyb8 => (intro W hW; obtain ⟨_, c0, c1, c2, c3⟩ := HB.out W hW; go_simp; (try with_reducible rfl))
                    try simp only [List.setIfInBounds_toArray, List.set_cons_zero, List.set_cons_succ]
                    refine wpAnyR_pure (i := 9) (oi := _) ?vb9 rfl rfl (by kernel_rfl) (by decide) (fun _ _ _ h => h) rfl ?hyb9 (fun _ => SB) ?restb9
                    case hyb9 => (intro W; go_simp; (try with_reducible rfl))
                    try simp only [List.setIfInBounds_toArray, List.set_cons_zero, List.set_cons_succ]
                    refine wpAnyR_pure (i := 10) (oi := _) ?vb10 rfl rfl (by kernel_rfl) (by decide) (fun _ _ _ h => h) rfl ?hyb10 (fun _ => SB) ?restb10
                    case hyb10 => (intro W; go_simp; (try with_reducible rfl))
                    try simp only [List.setIfInBounds_toArray, List.set_cons_zero, List.set_cons_succ]
                    refine wpAnyR_pure (i := 11) (oi := _) ?vb11 rfl rfl (by kernel_rfl) (by decide) (fun _ _ _ h => h) rfl ?hyb11 (fun _ => SB) ?restb11
                    case hyb11 => (intro W; go_simp; (try with_reducible rfl))
                    try simp only [List.setIfInBounds_toArray, List.set_cons_zero, List.set_cons_succ]
                    refine wpAnyR_take (i := 12) (oi := _) ?vb12 rfl rfl (by kernel_rfl) (fun _ _ _ h => h) rfl ?hyb12 SB ?restb12
                    case hyb12 => (intro W hW; obtain ⟨_, c0, c1, c2, c3⟩ := HB.out W hW; go_simp; (try with_reducible rfl))
                    try simp only [List.setIfInBounds_toArray, List.set_cons_zero, List.set_cons_succ]
                    refine wpAnyR_pure (i := 13) (oi := _) ?vb13 rfl rfl (by kernel_rfl) (by decide) (fun _ _ _ h => h) rfl ?hyb13 (fun _ => SB) ?restb13
                    case hyb13 => (intro W; go_simp; (try with_reducible rfl))
                    try simp only [List.setIfInBounds_toArray, List.set_cons_zero, List.set_cons_succ]
                    refine wpAnyR_take (i := 14) (oi := _) ?vb14 rfl rfl (by kernel_rfl) (fun _ _ _ h => h) rfl ?hyb14 SB ?restb14
                    case hyb14 => (intro W hW; obtain ⟨_, c0, c1, c2, c3⟩ := HB.out W hW; go_simp; (try with_reducible rfl))
                    try simp only [List.setIfInBounds_toArray, List.set_cons_zero, List.set_cons_succ]
                    refine wpAnyR_pure (i := 15) (oi := _) ?vb15 rfl rfl (by kernel_rfl) (by decide) (fun _ _ _ h => h) rfl ?hyb15 (fun _ => SB) ?restb15
                    case hyb15 => (intro W; go_simp; (try with_reducible rfl))
                    try simp only [List.setIfInBounds_toArray, List.set_cons_zero, List.set_cons_succ]
                    refine wpAnyR_pure (i := 16) (oi := _) ?vb16 rfl rfl (by kernel_rfl) (by decide) (fun _ _ _ h => h) rfl ?hyb16 (fun _ => SB) ?restb16
                    case hyb16 => (intro W; go_simp; (try with_reducible rfl))
                    try simp only [List.setIfInBounds_toArray, List.set_cons_zero, List.set_cons_succ]
                    refine wpAnyR_take (i := 17) (oi := _) ?vb17 rfl rfl (by kernel_rfl) (fun _ _ _ h => h) rfl ?hyb17 SB ?restb17
                    case hyb17 => (intro W hW; obtain ⟨_, c0, c1, c2, c3⟩ := HB.out W hW; go_simp; (try with_reducible rfl))
                    try simp only [List.setIfInBounds_toArray, List.set_cons_zero, List.set_cons_succ]
                    refine wpAnyR_pure (i := 18) (oi := _) ?vb18 rfl rfl (by kernel_rfl) (by decide) (fun _ _ _ h => h) rfl ?hyb18 (fun _ => SB) ?restb18
                    case hyb18 => (intro W; go_simp; (try with_reducible rfl))
                    try simp only [List.setIfInBounds_toArray, List.set_cons_zero, List.set_cons_succ]
                    refine wpAnyR_take (i := 19) (oi := _) ?vb19 rfl rfl (by kernel_rfl) (fun _ _ _ h => h) rfl ?hyb19 SB ?restb19
                    case hyb19 => (intro W hW; obtain ⟨_, c0, c1, c2, c3⟩ := HB.out W hW; go_simp; (try with_reducible rfl))
                    try simp only [List.setIfInBounds_toArray, List.set_cons_zero, List.set_cons_succ]
                    refine wpAnyR_pure (i := 20) (oi := _) ?vb20 rfl rfl (by kernel_rfl) (by decide) (fun _ _ _ h => h) rfl ?hyb20 (fun _ => SB) ?restb20
                    case hyb20 => (intro W; go_simp; (try with_reducible rfl))
                    try simp only [List.setIfInBounds_toArray, List.set_cons_zero, List.set_cons_succ]
                    refine wpAnyR_pure (i := 21) (oi := _) ?vb21 rfl rfl (by kernel_rfl) (by decide) (fun _ _ _ h => h) rfl ?hyb21 (fun _ => SB) ?restb21
                    case hyb21 => (intro W; go_simp; (try with_reducible rfl))
                    try simp only [List.setIfInBounds_toArray, List.set_cons_zero, List.set_cons_succ]
                    refine wpAnyR_one (i := 22) (by kernel_rfl) rfl (fun K hK => ?_)
                    go_simp
                    refine hK.out _ _ (fun hf => absurd hf (by decide)) ?_
                    clear hK K
                    refine wpAnyR_done (by kernel_rfl) ?_
                    go_wp2_with fail
                    go_roundw
                    case rel => exact ⟨m + 1, by omega, by go_num, by rw [HPS.out]; exact HN.out, HO6.out⟩
                    case measure => simp [intOf]; omega
                  · have hT : decide (((t : Nat) : Int) < 2) = false := by simp; omega
                    have HN := Lib.hid (show GridAt wl g n (cellV (ps ++ [x])) from HAL.out.congr fun a b _ _ => by
                      rw [cellV_snoc, HXK.out.1, HXK.out.2.1, HXK.out.2.2]
                      by_cases e : (p : Int) = (a : Int) ∧ (q : Int) = (b : Int)
                      · obtain ⟨rfl, rfl⟩ : p = a ∧ q = b := by omega
                        rw [if_pos e, HTE.out, if_neg (by omega), if_neg (by omega)]
                      · rw [if_neg e])
                    clear hk0 hk1
                    go_upto_region 14 with fail
                    go_big_region
                    go_upto_region 16 with fail
                    go_big_region
                    go_wp2_with fail
                    go_roundw
                    case rel => exact ⟨m + 1, by omega, by go_num, by rw [HPS.out]; exact (HN.out.drewn).drewn, HOL.out.drewn.drewn⟩
                    case measure => simp [intOf]; omega
                · have hb1 : (rs[k].2[m].1 == 1) = false := by simp [hk1]
                  have e0 : wl.cell? ⟨wr.heap.size, 0, none⟩ = some (.int .i64 rs[k].2[m].1) := Y.cell 0
                  clear hxe hpe
                  have HN := Lib.hid (show GridAt wl g n (cellV (ps ++ [x])) from HAL.out.congr fun a b _ _ => by
                    rw [cellV_snoc]
                    by_cases e : x.1 = (a : Int) ∧ x.2.2.1 = (b : Int)
                    · rw [if_pos e, if_neg (fun h => hk0 (HXE.out ▸ h.1)), if_neg (fun h => hk1 (HXE.out ▸ h.1))]
                    · rw [if_neg e])
                  clear hk0 hk1
                  go_upto_region 14 with fail
                  go_big_region
                  go_upto_region 16 with fail
                  go_big_region
                  go_wp2_with fail
                  go_roundw
                  case rel => exact ⟨m + 1, by omega, by go_num, by rw [HPS.out]; exact (HN.out.drewn).drewn, HOL.out.drewn.drewn⟩
                  case measure => simp [intOf]; omega
            · have HE := Lib.hid (show GridAt wr g n (cellV (asksOf (rs.take (k + 1)))) from by
                rw [show m = rs[k].2.length by omega, List.take_length] at hax
                rw [asksOf_snoc rs k hlt]
                exact hax)
              have HO2 := Lib.hid (HON.out.trans ((Only.of_below HBV.out).trans honx))
              clear hax honx Xx
              go_wp2_with fail
              go_roundw
              case rel => exact ⟨k + 1, by omega, by go_num, HE.out, HO2.out⟩
              case measure => simp [intOf]; omega
        · rw [show k = rs.length by omega, List.take_length] at hat
          have HE := Lib.hid hat
          have HBW := Lib.hid BW
          clear hat hon
          go_wp2_with fail
          go_ret
          exact ⟨g, rfl, HE.out, by omega, by omega, HBW.out⟩

end Go.Proofs.YtcoelmhlkfignaaDoor
/-
  The specification's table of what is reached: the walk of l5Reach.
-/
namespace Go.Proofs.YtcoelmhlkfignaaDoor
open Go.RowKit

theorem Tryd.infoBoolS : (Tryd.prog.info? 53).map (fun i => (i.zero, i.size, i.bytes)) = some (some (.slice none 0 0), 1, 24) := by kernel_rfl
theorem nodup_inj {l : List Nat} (h : l.Nodup) {i j : Nat} (hi : i < l.length) (hj : j < l.length) (e : l[i] = l[j]) : i = j := by
  have h2 := List.pairwise_iff_getElem.1 h
  rcases Nat.lt_trichotomy i j with h3 | h3 | h3
  · exact absurd e (h2 i j hi hj h3)
  · exact h3
  · exact absurd e.symm (h2 j i hj hi h3)
def bRow (n r : Nat) : Value := .slice (some ⟨r, 0, none⟩) n n
/-- Rows of Booleans that grow: rs are the rows' blocks. -/
structure BGrid (lo : Nat) (w : World) (n : Nat) (T : Nat → Nat → Bool) (Ao : Option Addr) (co : Nat) (rs : List Nat) : Prop where
  heads : w.ownsRow lo 53 1 (.slice Ao rs.length co) rs.length (rs.map (bRow n))
  rows : ∀ i (h : i < rs.length), w.rowIs rs[i] 4 n (fun k => .bool (T i k))
  lo : ∀ r ∈ rs, lo ≤ r ∧ (Value.slice Ao rs.length co).ownBlock ≠ some r
  nodup : rs.Nodup
section
variable {lo n co : Nat} {w w' w4 : World} {T T' : Nat → Nat → Bool} {Ao : Option Addr} {rs : List Nat}
theorem BGrid.lt (h : BGrid lo w n T Ao co rs) : ∀ r ∈ rs, r < w.heap.size := fun r hr => by
  obtain ⟨i, hi, rfl⟩ := List.getElem_of_mem hr
  exact (h.rows i hi).lt
theorem BGrid.keep (h : BGrid lo w n T Ao co rs) (hk : ∀ b, b ∈ rs ∨ (Value.slice Ao rs.length co).ownBlock = some b → w'.heap[b]? = w.heap[b]?) : BGrid lo w' n T Ao co rs :=
  ⟨ownsRow_only h.heads fun b hb => hk b (.inr hb), fun i hi => (h.rows i hi).of_block (hk _ (.inl (List.getElem_mem hi))), h.lo, h.nodup⟩
theorem BGrid.below (h : BGrid lo w n T Ao co rs) (hb : Below w.heap.size w w') : BGrid lo w' n T Ao co rs :=
  h.keep fun b hb' => hb.block b (hb'.elim (h.lt b) fun h2 => (h.heads.lt b h2).2)
theorem BGrid.only {r : Nat} (h : BGrid lo w n T Ao co rs) (ho : Only r (r + 1) w w') (hr : w.heap.size ≤ r) : BGrid lo w' n T Ao co rs :=
  h.keep fun b hb' => by
    have hl : b < w.heap.size := hb'.elim (h.lt b) fun h2 => (h.heads.lt b h2).2
    exact ho.block b hl (by omega)
theorem BGrid.congr (h : BGrid lo w n T Ao co rs) (e : ∀ i k, i < rs.length → k < n → T i k = T' i k) : BGrid lo w n T' Ao co rs :=
  ⟨h.heads, fun i hi => (h.rows i hi).congr fun k hk => by rw [e i k hi hk], h.lo, h.nodup⟩
theorem BGrid.set {i k : Nat} (h : BGrid lo w n T Ao co rs) (hi : i < rs.length) (x : Bool) (hT : ∀ a b, T' a b = if a = i ∧ b = k then x else T a b) : BGrid lo (w.setCell ⟨rs[i], k, none⟩ (.bool x)) n T' Ao co rs := by
  refine ⟨ownsRow_only h.heads fun b hb => Below.heap_setCell _ _ _ _ (fun e => (h.lo _ (List.getElem_mem hi)).2 (by rw [hb, e])), fun j hj => ?_, h.lo, h.nodup⟩
  by_cases e : j = i
  · subst e
    refine ((h.rows j hj).set k (.bool x)).congr fun b _ => ?_
    rw [hT]
    by_cases e2 : b = k <;> simp [e2]
  · refine ((h.rows j hj).setOther (a := ⟨rs[i], k, none⟩) (fun e2 => e (nodup_inj h.nodup hj hi e2)) _).congr fun b _ => ?_
    rw [hT, if_neg (fun h => e h.1)]
theorem BGrid.push {r g2 cap : Nat} {o : Obj} (h : BGrid lo w n T Ao co rs) (hrow : w.rowIs r 4 n (fun k => .bool (T rs.length k))) (hr : lo ≤ r ∧ r ∉ rs ∧ (Value.slice Ao rs.length co).ownBlock ≠ some r)
    (hgr : (w.alloc o).grownBy w4 (Value.slice Ao rs.length co).ownBlock) (hat : (Value.slice Ao rs.length co).ownBlock = some g2 ∨ g2 = (w.alloc o).heap.size)
    (hown : w4.ownsRow lo 53 1 (.slice (some ⟨g2, 0, none⟩) (rs.length + 1) cap) (rs.length + 1) (rs.map (bRow n) ++ [bRow n r])) : BGrid lo w4 n T (some ⟨g2, 0, none⟩) cap (rs ++ [r]) := by
  have hg2 := grown_from_alloc hgr
  have hne : ∀ b, b ∈ rs ∨ b = r → b < w.heap.size ∧ (Value.slice Ao rs.length co).ownBlock ≠ some b := fun b hb => by
    rcases hb with hb | rfl
    · exact ⟨h.lt b hb, (h.lo b hb).2⟩
    · exact ⟨hrow.lt, hr.2.2⟩
  have hk : ∀ b, b ∈ rs ∨ b = r → w4.heap[b]? = w.heap[b]? := fun b hb => hg2.block b (hne b hb).1 (fun e => (hne b hb).2 e.symm)
  have hl : (rs ++ [r]).length = rs.length + 1 := by simp
  refine ⟨by rw [hl, List.map_append]; exact hown, fun i hi => ?_, fun b hb => ?_, ?_⟩
  · by_cases e : i < rs.length
    · rw [List.getElem_append_left e]
      exact (h.rows i e).of_block (hk _ (.inl (List.getElem_mem e)))
    · have e2 : i = rs.length := by omega
      subst e2
      rw [List.getElem_append_right (Nat.le_refl _)]
      simp only [Nat.sub_self, List.getElem_cons_zero]
      exact hrow.of_block (hk r (.inr rfl))
  · have hb' : b ∈ rs ∨ b = r := by simpa using hb
    refine ⟨hb'.elim (fun h1 => (h.lo b h1).1) fun e => e ▸ hr.1, fun e => ?_⟩
    have e1 : g2 = b := by simpa [Value.ownBlock] using e
    rcases hat with hat | hat
    · exact (hne b hb').2 (by rw [hat, e1])
    · have := (hne b hb').1
      simp at hat
      omega
  · rw [List.nodup_append]
    exact ⟨h.nodup, by simp, fun a ha b hb e => by rw [List.mem_singleton] at hb; exact hr.2.1 (by rw [← hb, ← e]; exact ha)⟩
theorem BGrid.head {g : Nat} (h : BGrid lo w n T (some ⟨g, 0, none⟩) co rs) {i : Nat} (hi : i < rs.length) : w.cell? ⟨g, i, none⟩ = some (.slice (some ⟨rs[i], 0, none⟩) n n) := by
  rw [h.heads.cellAt i (by omega), List.getElem?_map, List.getElem?_eq_getElem hi]
  rfl
theorem BGrid.form (h : BGrid lo w n T Ao co rs) (hn : 0 < rs.length) : ∃ g, Ao = some ⟨g, 0, none⟩ ∧ g < w.heap.size := by
  obtain ⟨g2, cap, e, _, h2⟩ := h.heads.form hn
  injection e with e1 _ _
  exact ⟨g2, e1, h2⟩
end

end Go.Proofs.YtcoelmhlkfignaaDoor
/-
  The walk of l5Reach.
-/
namespace Go.Proofs.YtcoelmhlkfignaaDoor
open Go.RowKit

set_option maxHeartbeats 4000000 in
set_option maxRecDepth 100000 in
theorem l5Reach_any (v : Value) (p : LProg) (w : World) (h : RdProg w w.heap.size v p) (hs : szP p ≤ 1048576) (hn : p.1.length ≤ 24) (hf : ∀ x ∈ asksOf p.2, AskFits p.1.length x) :
    Calls Tryd.prog 28 #[v] w fun e w' => ∃ Ao co rs, e = .returned (.slice Ao rs.length co) ∧ rs.length = p.1.length ∧ BGrid w.heap.size w' p.1.length (fwM (askT p) p.1.length) Ao co rs ∧ Below w.heap.size w w' := by
  obtain ⟨i0, hi0, hz0, hz1, hz2⟩ := info_parts Tryd.infoBoolS
  have HP := Lib.hid h
  obtain ⟨a, b, rfl, hA, hR⟩ := h
  obtain ⟨A, c, rfl, hcA, _⟩ := hA
  obtain ⟨A2, c2, rfl, hcR, _⟩ := hR
  have hmk2 := fun W => run_make_row' (P := Tryd.prog) 53 4 (.bool false) 1 Tryd.underlying53 Tryd.infoBool rfl .i64 .i64 p.1.length (by omega) (by omega) W
  have HL5 := Lib.hid (fun W (hW : Below w.heap.size w W) => l5Links_any _ p W (HP.out.on hW) hs hn hf)
  obtain ⟨T, hT⟩ : ∃ T, T = askT p := ⟨_, rfl⟩
  have HTC := Lib.hid (show ∀ i k, T i k = decide (0 < cellV (asksOf p.2) i k) from fun i k => by rw [hT]; rfl)
  obtain ⟨cv, hcv⟩ : ∃ cv, cv = cellV (asksOf p.2) := ⟨_, rfl⟩
  rw [← hcv] at HTC HL5
  obtain ⟨n, hne⟩ : ∃ n, n = p.1.length := ⟨_, rfl⟩
  rw [← hT]
  rw [← hne] at hmk2 hcA hn HL5 ⊢
  clear hne hT hcv hf
  go_enter Tryd.func28, Tryd.ntmps28
  go_upto_region 1 with fail
  obtain ⟨w1, hw1⟩ : ∃ w1, w1 = w.alloc (Obj.cells #[Value.slice A n c, Value.slice A2 p.2.length c2] 31) := ⟨_, rfl⟩
  have X1 : Blk w1 w.heap.size 31 #[.slice A n c, .slice A2 p.2.length c2] := by rw [hw1]; exact Blk.new _ _ _
  have B1 : Below w.heap.size w w1 := by rw [hw1]; exact below1 _ _
  rw [← hw1]
  clear hw1
  have x0 : w1.cell? ⟨w.heap.size, 0, none⟩ = some (.slice A n c) := X1.cell 0
  have x1 : w1.cell? ⟨w.heap.size, 1, none⟩ = some (.slice A2 p.2.length c2) := X1.cell 1
  have C1 := Lib.hid (HL5.out w1 B1)
  clear HL5 X1
  go_upto_region 2 with (go_at_call 45; refine C1.out.mono ?_; rintro e w2 ⟨g, rfl, g2, hwg, hgw, b2⟩; have HG2 := Lib.hid g2; have B2 := Lib.hid (bthen B1 b2); clear g2 b2)
  have hwg2 : w.heap.size ≤ g := Nat.le_trans B1.size hwg
  clear x0 x1 C1
  go_upto_region 3 with fail
  obtain ⟨w3, hw3⟩ : ∃ w3, w3 = w2.alloc (Obj.cells #[] 53) := ⟨_, rfl⟩
  obtain ⟨lo, hlo⟩ : ∃ lo, lo = w2.heap.size := ⟨_, rfl⟩
  have HB3 := Lib.hid (show BGrid lo w3 n T (some ⟨lo, 0, none⟩) 0 [] from by
    rw [hw3, hlo]
    exact ⟨World.ownsRow_made w2 #[] 0 (Nat.le_refl _) (by decide) rfl, fun i h => absurd h (Nat.not_lt_zero _), fun r hr => (by cases hr), List.nodup_nil⟩)
  have B3 : Below lo w2 w3 := by rw [hw3, hlo]; exact below1 _ _
  have hs3 : w3.heap.size = lo + 1 := by rw [hw3, hlo]; simp
  rw [← hw3, ← hlo]
  have hglo : g + 1 + n ≤ lo := by rw [hlo]; exact hgw
  have HG3 := Lib.hid (HG2.out.below B3 hglo)
  have hwlo : w.heap.size ≤ lo := by rw [hlo]; exact B2.out.size
  have HB23 := Lib.hid (show Below w.heap.size w w3 from B2.out.trans (B3.mono hwlo))
  clear hw3 hlo B3 HG2 hgw hwg
  go_wp2_with fail
  go_loopw [4, 5] (fun o i wr => ∃ (k : Nat) (Ao : Option Addr) (co : Nat) (rs : List Nat), k ≤ n ∧ i = .int .i64 k ∧ o = .slice Ao rs.length co ∧ rs.length = k ∧ BGrid lo wr n T Ao co rs ∧ Below lo w3 wr) (fun _ i _ => n - (intOf i).toNat)
  case atStart => exact ⟨0, some ⟨lo, 0, none⟩, 0, [], Nat.zero_le _, rfl, rfl, rfl, HB3.out, Below.refl _ _⟩
  case round =>
    obtain ⟨k, Ao, co, rs, hk, rfl, rfl, hrl, hbg, hbe⟩ := hrel
    have HBG := Lib.hid hbg
    have HBE := Lib.hid hbe
    have HRL := Lib.hid hrl
    have hsz := hbe.size
    clear hbg hbe hrl
    by_cases hlt : k < n
    · obtain ⟨wo, rfl⟩ : ∃ wo, wo = wr := ⟨_, rfl⟩
      go_upto_region 7 with fail
      obtain ⟨wa, hwa⟩ : ∃ wa, wa = wo.alloc (Obj.cells (madeCells #[Value.bool false] n) 4) := ⟨_, rfl⟩
      obtain ⟨r, hr⟩ : ∃ r, r = wo.heap.size := ⟨_, rfl⟩
      have RA : wa.rowIs r 4 n (fun _ => .bool false) := by rw [hwa, hr]; exact World.rowIs_made _ _ _ _
      have BA : Below wo.heap.size wo wa := by rw [hwa]; exact below1 _ _
      have hsa : wa.heap.size = r + 1 := by rw [hwa, hr]; simp
      rw [← hwa, ← hr]
      have HBGA := Lib.hid (HBG.out.below BA)
      have HBA := Lib.hid BA
      have HR := Lib.hid hr
      have HRA := Lib.hid RA
      have hlor : lo < r := by omega
      clear hwa hr RA BA
      go_wp2_with fail
      go_loopw [7] (fun i wr => ∃ m : Nat, m ≤ n ∧ i = .int .i64 m ∧ wr.rowIs r 4 n (fun j => if j < m then .bool (T k j) else .bool false) ∧ Only r (r + 1) wa wr) (fun i _ => n - (intOf i).toNat)
      case atStart => exact ⟨0, Nat.zero_le _, rfl, HRA.out.congr (fun j _ => by simp), Only.refl _ _ _⟩
      case round =>
        obtain ⟨m, hm, rfl, hrow, hon⟩ := hrel
        have HON := Lib.hid hon
        have HROW := Lib.hid hrow
        by_cases hlm : m < n
        · have BWR : Below lo w3 wr := HBE.out.trans ((HBA.out.mono (by omega)).trans (hon.below (by omega) (by omega)))
          have HGR := HG3.out.below (B := lo) BWR hglo
          have z2 : wr.cell? ⟨g, k, none⟩ = some (.slice (some ⟨g + 1 + k, 0, none⟩) n n) := HGR.head hlt
          have z3 : wr.cell? ⟨g + 1 + k, m, none⟩ = some (.int .i64 ((cv k m : Nat) : Int)) := HGR.cell hlt hlm
          have q1 := hrow.cell hlm
          rw [if_neg (Nat.lt_irrefl m)] at q1
          have f1 := hrow.frozen m
          obtain ⟨t, ht⟩ : ∃ t, t = cv k m := ⟨_, rfl⟩
          rw [← ht] at z3
          have hbt : decide (0 < t) = T k m := by rw [HTC.out, ht]
          have HN := Lib.hid (show (wr.setCell ⟨r, m, none⟩ (.bool (decide (0 < t)))).rowIs r 4 n (fun j => if j < m + 1 then .bool (T k j) else .bool false) ∧ Only r (r + 1) wa (wr.setCell ⟨r, m, none⟩ (.bool (decide (0 < t)))) from by
            refine ⟨(hrow.set m (.bool (decide (0 < t)))).congr fun j _ => ?_, hon.setCell ⟨Nat.le_refl _, Nat.lt_succ_self _⟩ _⟩
            by_cases e : j = m
            · subst e
              rw [if_pos rfl, if_pos (by omega), hbt]
            · rw [if_neg e]
              by_cases e2 : j < m
              · rw [if_pos e2, if_pos (by omega)]
              · rw [if_neg e2, if_neg (by omega)])
          clear hrow hon HGR BWR hbt ht
          go_wp2_with fail
          go_roundw
          case rel => exact ⟨m + 1, by omega, by go_num, HN.out.1, HN.out.2⟩
          case measure => simp [intOf]; omega
        · have HROW2 := Lib.hid (show wr.rowIs r 4 n (fun j => .bool (T k j)) from hrow.congr fun j hj => by rw [if_pos (by omega)])
          have HBG2 := Lib.hid (HBGA.out.keep (w' := wr) fun b hb => by
            have hl : b < wo.heap.size := hb.elim (HBG.out.lt b) fun h2 => (HBG.out.heads.lt b h2).2
            have := HR.out
            have := HBA.out.size
            exact hon.block b (by omega) (.inl (by omega)))
          have HLR := Lib.hid (show lo ≤ r ∧ r ∉ rs ∧ (Value.slice Ao rs.length co).ownBlock ≠ some r from by
            have := HR.out
            exact ⟨by omega, fun e => by have := HBG.out.lt r e; omega, fun e => by have := (HBG.out.heads.lt r e).2; omega⟩)
          have hrn : rs.length ≤ 24 := by have := HRL.out; omega
          have hszr : r < wr.heap.size := hrow.lt
          obtain ⟨w4, rfl⟩ : ∃ w4, w4 = wr := ⟨_, rfl⟩
          clear hrow hon
          go_wp2_with (at_builtin; refine wpList_append_lies _ rfl (.tmp 40) (.tmp 42) 27 rfl lo 53 i0 (.slice none 0 0) 1 24 Tryd.underlying27 hi0 hz0 hz1 hz2 rfl (by decide) (.slice Ao rs.length co) rs.length (rs.map (bRow n)) rfl ?c1 ⟨w4.heap.size, 0, none⟩ 1 1 [bRow n r] rfl rfl (cell_one_new _ _ _) ?c2 (by omega) (by unfold maxLen; omega) (by omega) ?c3 _ rfl ?_)
          case c1 => exact HBG2.out.heads.alloc _
          case c2 => intro u hu; simp at hu; subst hu; rfl
          case c3 => simp; omega
          intro g5 cap w6 hown hgr hat _
          have HPU := Lib.hid (HBG2.out.push (T := T) (by have := HROW2.out; rw [HRL.out]; exact this) HLR.out hgr (by simpa using hat) hown)
          have HB6 := Lib.hid (show Below lo w4 w6 from by
            have hg2 := grown_from_alloc hgr
            have hnl := HBG2.out.heads.lt
            exact ⟨hg2.os, hg2.tape, hg2.output, hg2.size, fun b hb => hg2.block b (by have := hszr; omega) (fun e => by have := (hnl b e.symm).1; omega)⟩)
          clear hown hgr hat
          go_wp2_with fail
          go_roundw
          case rel =>
            refine ⟨k + 1, _, _, rs ++ [r], by omega, by go_num, by simp, by rw [List.length_append, HRL.out]; rfl, HPU.out, ?_⟩
            exact HBE.out.trans ((HBA.out.mono (by omega)).trans ((HON.out.below (by omega) (by have := HBA.out.size; omega)).trans HB6.out))
          case measure => simp [intOf]; omega
    · have hkn : k = n := by omega
      have HRN := Lib.hid (show rs.length = n from HRL.out.trans hkn)
      obtain ⟨w7, rfl⟩ : ∃ w7, w7 = wr := ⟨_, rfl⟩
      clear hk
      go_wp2_with fail
      go_loopw [8] (fun i wr => ∃ m : Nat, m ≤ n ∧ i = .int .i64 m ∧ BGrid lo wr n (fwM T m) Ao co rs ∧ Below lo w7 wr) (fun i _ => n - (intOf i).toNat)
      case atStart => exact ⟨0, Nat.zero_le _, rfl, HBG.out, Below.refl _ _⟩
      case round =>
        obtain ⟨m, hm, rfl, hbg, hbe⟩ := hrel
        have HBM := Lib.hid hbg
        have HBEM := Lib.hid hbe
        clear hbg hbe
        by_cases hlm : m < rs.length
        · have hmn : m < n := by have := HRN.out; omega
          obtain ⟨gx, rfl, hgx⟩ := HBM.out.form (by omega)
          obtain ⟨w8, rfl⟩ : ∃ w8, w8 = wr := ⟨_, rfl⟩
          obtain ⟨M, hM⟩ : ∃ M, M = fwM T m := ⟨_, rfl⟩
          have HM := Lib.hid hM
          rw [← hM] at HBM
          clear hM hgx
          go_wp2_with fail
          go_loopw [9] (fun i wr => ∃ a : Nat, a ≤ n ∧ i = .int .i64 a ∧ BGrid lo wr n (fwU M m a 0) (some ⟨gx, 0, none⟩) co rs ∧ Below lo w7 wr) (fun i _ => n - (intOf i).toNat)
          case atStart => exact ⟨0, Nat.zero_le _, rfl, by rw [fwU_zero]; exact HBM.out, HBEM.out⟩
          case round =>
            obtain ⟨a, ha, rfl, hba, hea⟩ := hrel
            have HBA := Lib.hid hba
            have HEA := Lib.hid hea
            clear hba hea
            by_cases hla : a < rs.length
            · have han : a < n := by have := HRN.out; omega
              obtain ⟨w9, rfl⟩ : ∃ w9, w9 = wr := ⟨_, rfl⟩
              obtain ⟨ra, hra⟩ : ∃ ra, ra = rs[a] := ⟨_, rfl⟩
              obtain ⟨rm, hrm⟩ : ∃ rm, rm = rs[m] := ⟨_, rfl⟩
              have HRA := Lib.hid hra
              have HRM := Lib.hid hrm
              have hlra : lo ≤ ra := by rw [hra]; exact (HBA.out.lo _ (List.getElem_mem hla)).1
              obtain ⟨b1, hb1⟩ : ∃ b1, b1 = M a m := ⟨_, rfl⟩
              have HB1 := Lib.hid hb1
              clear hra hrm hb1
              go_wp2_with fail
              go_loopw [10] (fun i wr => ∃ b : Nat, b ≤ n ∧ i = .int .i64 b ∧ BGrid lo wr n (fwU M m a b) (some ⟨gx, 0, none⟩) co rs ∧ Below lo w7 wr) (fun i _ => n - (intOf i).toNat)
              case atStart => exact ⟨0, Nat.zero_le _, rfl, HBA.out, HEA.out⟩
              case round =>
                obtain ⟨b, hb, rfl, hbb, heb⟩ := hrel
                have HBB := Lib.hid hbb
                have HEB := Lib.hid heb
                by_cases hlb : b < rs.length
                · have hbn : b < n := by have := HRN.out; omega
                  obtain ⟨b2, hb2⟩ : ∃ b2, b2 = M m b := ⟨_, rfl⟩
                  have z1 : wr.cell? ⟨gx, a, none⟩ = some (.slice (some ⟨ra, 0, none⟩) n n) := by rw [HRA.out]; exact hbb.head hla
                  have z2 : wr.cell? ⟨ra, m, none⟩ = some (.bool b1) := by rw [HRA.out, (hbb.rows a hla).cell hmn, fwU_left, HB1.out]
                  have z3 : wr.cell? ⟨gx, m, none⟩ = some (.slice (some ⟨rm, 0, none⟩) n n) := by rw [HRM.out]; exact hbb.head hlm
                  have z4 : wr.cell? ⟨rm, b, none⟩ = some (.bool b2) := by rw [HRM.out, (hbb.rows m hlm).cell hbn, fwU_right, hb2]
                  obtain ⟨u0, z5⟩ : ∃ u0, wr.cell? ⟨ra, b, none⟩ = some (.bool u0) := ⟨_, by rw [HRA.out]; exact (hbb.rows a hla).cell hbn⟩
                  have f5 : wr.frozen? ⟨ra, b, none⟩ = false := by rw [HRA.out]; exact (hbb.rows a hla).frozen b
                  have HB2 := Lib.hid hb2
                  clear hbb heb hb2
                  cases b1
                  · have HSK := Lib.hid (fwU_skip (T := M) (m := m) (i := a) (k := b) (by rw [← HB1.out, Bool.false_and]))
                    go_wp2_with fail
                    go_roundw
                    case rel => exact ⟨b + 1, by omega, by go_num, by rw [HSK.out]; exact HBB.out, HEB.out⟩
                    case measure => simp [intOf]; omega
                  · cases b2
                    · have HSK := Lib.hid (fwU_skip (T := M) (m := m) (i := a) (k := b) (by rw [← HB2.out, Bool.and_false]))
                      go_wp2_with fail
                      go_roundw
                      case rel => exact ⟨b + 1, by omega, by go_num, by rw [HSK.out]; exact HBB.out, HEB.out⟩
                      case measure => simp [intOf]; omega
                    · have HST := Lib.hid (show BGrid lo (wr.setCell ⟨ra, b, none⟩ (.bool true)) n (fwU M m a (b + 1)) (some ⟨gx, 0, none⟩) co rs ∧ Below lo w7 (wr.setCell ⟨ra, b, none⟩ (.bool true)) from by
                        refine ⟨?_, HEB.out.setCell (by show lo ≤ ra; exact hlra) _⟩
                        rw [HRA.out]
                        exact HBB.out.set hla true fun x y => by rw [fwU_step, ← HB1.out, ← HB2.out]; simp)
                      go_wp2_with fail
                      go_roundw
                      case rel => exact ⟨b + 1, by omega, by go_num, HST.out.1, HST.out.2⟩
                      case measure => simp [intOf]; omega
                · have HBN := Lib.hid (show BGrid lo wr n (fwU M m (a + 1) 0) (some ⟨gx, 0, none⟩) co rs from by
                    obtain rfl : b = n := by have := HRN.out; omega
                    exact hbb.congr fun x y _ hy => fwU_row x y hy)
                  clear hbb heb
                  go_wp2_with fail
                  go_roundw
                  case rel => exact ⟨a + 1, by omega, by go_num, HBN.out, HEB.out⟩
                  case measure => simp [intOf]; omega
            · have HBN := Lib.hid (show BGrid lo wr n (fwM T (m + 1)) (some ⟨gx, 0, none⟩) co rs from by
                obtain rfl : a = n := by have := HRN.out; omega
                exact HBA.out.congr fun x y hx _ => by rw [HM.out]; exact fwU_all x y (by have := HRN.out; omega))
              go_wp2_with fail
              go_roundw
              case rel => exact ⟨m + 1, by omega, by go_num, HBN.out, HEA.out⟩
              case measure => simp [intOf]; omega
        · have hme : m = n := by have := HRN.out; omega
          have HBN := Lib.hid (show BGrid lo wr n (fwM T n) Ao co rs from by
            have e : fwM T n = fwM T m := by rw [hme]
            rw [e]
            exact HBM.out)
          clear hme
          go_wp2_with fail
          go_ret
          refine ⟨Ao, co, rs, rfl, HRN.out, ?_, HB23.out.trans ((HBE.out.trans HBEM.out).mono hwlo)⟩
          have hfin := HBN.out
          exact ⟨ownsRow_mono hfin.heads hwlo, hfin.rows, fun r hr => ⟨Nat.le_trans hwlo (hfin.lo r hr).1, (hfin.lo r hr).2⟩, hfin.nodup⟩

end Go.Proofs.YtcoelmhlkfignaaDoor
/-
  The walk of the program's Reaches.
-/
namespace Go.Proofs.YtcoelmhlkfignaaDoor
open Go.RowKit

theorem Rch.lt {ask : Nat → Nat} {n a b : Nat} (h : Rch ask a b) (hask : ∀ u x, has (ask u) x → x < n) : b < n := by
  induction h with
  | one e => exact hask _ _ e
  | step _ _ ih => exact ih
theorem reachP_lt {p : LProg} (h : progOk p = true) {i k : Nat} (hi : i < p.1.length) (hk : has (reachP p i) k) : k < p.1.length := by
  obtain ⟨hn24, hf⟩ := asksOf_fits h
  obtain ⟨h1, h2, _⟩ := walk_all hn24 (askP_lt hf)
  exact ((h1.rch i k (h2 i hi)).1 hk).lt (askP_lt hf)

/-- Rows of Booleans in a row that has been made: the first of them are laid. -/
structure BPart (lo : Nat) (w : World) (n : Nat) (T : Nat → Nat → Bool) (gh : Nat) (rs : List Nat) : Prop where
  heads : w.rowIs gh 53 n (fun j => (rs.map (bRow n)).getD j (.slice none 0 0))
  rows : ∀ i (h : i < rs.length), w.rowIs rs[i] 4 n (fun k => .bool (T i k))
  loh : lo ≤ gh
  lor : ∀ r ∈ rs, lo ≤ r ∧ r ≠ gh
  nodup : rs.Nodup
section
variable {lo n gh : Nat} {w w' : World} {T T' : Nat → Nat → Bool} {rs : List Nat}
theorem BPart.lt (h : BPart lo w n T gh rs) : ∀ r ∈ rs, r < w.heap.size := fun r hr => by
  obtain ⟨i, hi, rfl⟩ := List.getElem_of_mem hr
  exact (h.rows i hi).lt
theorem BPart.below (h : BPart lo w n T gh rs) (hb : Below w.heap.size w w') : BPart lo w' n T gh rs :=
  ⟨h.heads.of_block (hb.block _ h.heads.lt), fun i hi => (h.rows i hi).of_block (hb.block _ (h.lt _ (List.getElem_mem hi))), h.loh, h.lor, h.nodup⟩
theorem BPart.set {i k : Nat} (h : BPart lo w n T gh rs) (hi : i < rs.length) (x : Bool) (hT : ∀ a b, T' a b = if a = i ∧ b = k then x else T a b) : BPart lo (w.setCell ⟨rs[i], k, none⟩ (.bool x)) n T' gh rs := by
  refine ⟨h.heads.setOther (a := ⟨rs[i], k, none⟩) (fun e => (h.lor _ (List.getElem_mem hi)).2 e.symm) _, fun j hj => ?_, h.loh, h.lor, h.nodup⟩
  by_cases e : j = i
  · subst e
    refine ((h.rows j hj).set k (.bool x)).congr fun b _ => ?_
    rw [hT]
    by_cases e2 : b = k <;> simp [e2]
  · refine ((h.rows j hj).setOther (a := ⟨rs[i], k, none⟩) (fun e2 => e (nodup_inj h.nodup hj hi e2)) _).congr fun b _ => ?_
    rw [hT, if_neg (fun h => e h.1)]
theorem BPart.congr (h : BPart lo w n T gh rs) (e : ∀ i k, i < rs.length → k < n → T i k = T' i k) : BPart lo w n T' gh rs :=
  ⟨h.heads, fun i hi => (h.rows i hi).congr fun k hk => by rw [e i k hi hk], h.loh, h.lor, h.nodup⟩
theorem BPart.push (h : BPart lo w n T gh rs) (hl : lo ≤ w.heap.size) (_hrs : rs.length < n) (hT : ∀ b, T rs.length b = false) :
    BPart lo ((w.alloc (Obj.cells (madeCells #[Value.bool false] n) 4)).setCell ⟨gh, rs.length, none⟩ (bRow n w.heap.size)) n T gh (rs ++ [w.heap.size]) := by
  have hgl := h.heads.lt
  refine ⟨((h.heads.alloc _).set rs.length (bRow n w.heap.size)).congr fun j hj => ?_, fun i hi => ?_, h.loh, fun r hr => ?_, ?_⟩
  · by_cases e : j = rs.length
    · subst e
      simp [List.getD_eq_getElem?_getD]
    · rw [if_neg e, List.map_append]
      by_cases e2 : j < rs.length
      · simp [List.getD_eq_getElem?_getD, List.getElem?_append_left, e2]
      · rw [List.getD_eq_getElem?_getD, List.getD_eq_getElem?_getD, List.getElem?_eq_none (by simp; omega), List.getElem?_eq_none (by simp; omega)]
  · by_cases e : i < rs.length
    · rw [List.getElem_append_left e]
      exact ((h.rows i e).alloc _).setOther (a := ⟨gh, rs.length, none⟩) (h.lor _ (List.getElem_mem e)).2 _
    · have e2 : i = rs.length := by simp at hi; omega
      subst e2
      rw [List.getElem_append_right (Nat.le_refl _)]
      simp only [Nat.sub_self, List.getElem_cons_zero]
      refine ((World.rowIs_made w (.bool false) n 4).setOther (a := ⟨gh, rs.length, none⟩) (by show w.heap.size ≠ gh; omega) _).congr fun b _ => by rw [hT]
  · rcases List.mem_append.1 hr with h1 | h1
    · exact h.lor r h1
    · rw [List.mem_singleton] at h1
      subst h1
      exact ⟨hl, by omega⟩
  · rw [List.nodup_append]
    exact ⟨h.nodup, by simp, fun a ha b hb e => by rw [List.mem_singleton] at hb; have := h.lt a ha; omega⟩
theorem BPart.head (h : BPart lo w n T gh rs) {i : Nat} (hi : i < rs.length) (hn : rs.length ≤ n) : w.cell? ⟨gh, i, none⟩ = some (.slice (some ⟨rs[i], 0, none⟩) n n) := by
  rw [h.heads.cell (by omega)]
  simp [List.getD_eq_getElem?_getD, hi, bRow]
/-- All rows are laid. -/
theorem BPart.grid (h : BPart lo w n T gh rs) (hn : rs.length = n) (h24 : n ≤ 1048576) : BGrid lo w n T (some ⟨gh, 0, none⟩) n rs := by
  refine ⟨⟨by simp, .inr ?_⟩, h.rows, fun r hr => ⟨(h.lor r hr).1, fun e => (h.lor r hr).2 (by simpa [Value.ownBlock] using e.symm)⟩, h.nodup⟩
  obtain ⟨c, hb, hs, hc⟩ := h.heads
  subst hn
  refine ⟨gh, rs.length, c, rfl, h.loh, hb, Nat.le_refl _, by unfold maxLen; omega, by simp [hs], ?_⟩
  apply List.ext_getElem?
  intro j
  by_cases hj : j < rs.length
  · rw [List.getElem?_take_of_lt (by omega), Array.getElem?_toList, hc j hj]
    simp [hj]
  · rw [List.getElem?_eq_none (by simp; omega), List.getElem?_eq_none (by simp; omega)]
end

set_option maxHeartbeats 4000000 in
set_option maxRecDepth 100000 in
theorem implReaches_any (v : Value) (p : LProg) (w : World) (hpo : progOk p = true) (h : RdProg w w.heap.size v p) (hs : szP p ≤ 1048576) (hT : Tab w) :
    Calls Tryd.prog 9 #[v] w fun e w' => ∃ Ao co rs, e = .returned (.slice Ao rs.length co) ∧ rs.length = p.1.length ∧ BGrid w.heap.size w' p.1.length (fwM (askT p) p.1.length) Ao co rs ∧ Below w.heap.size w w' := by
  have HP := Lib.hid h
  have HT := Lib.hid hT
  have HPO := Lib.hid hpo
  obtain ⟨a, b, rfl, hA, hR⟩ := h
  obtain ⟨A, c, rfl, hcA, _⟩ := hA
  obtain ⟨A2, c2, rfl, hcR, _⟩ := hR
  obtain ⟨hn24, _⟩ := asksOf_fits hpo
  have hmk1 := fun W => run_make_row' (P := Tryd.prog) 27 53 (.slice none 0 0) 24 Tryd.underlying27 Tryd.infoBoolS rfl .i64 .i64 p.1.length (by omega) (by omega) W
  have hmk2 := fun W => run_make_row' (P := Tryd.prog) 53 4 (.bool false) 1 Tryd.underlying53 Tryd.infoBool rfl .i64 .i64 p.1.length (by omega) (by omega) W
  obtain ⟨T, hTT⟩ : ∃ T : Nat → Nat → Bool, T = fwM (askT p) p.1.length := ⟨_, rfl⟩
  have HRE := Lib.hid (show ∀ i, i < p.1.length → ∀ k, (reachP p i).testBit k = T i k from fun i hi k => by rw [hTT]; exact reach_fw hpo hi k)
  have HRL := Lib.hid (show ∀ i, i < p.1.length → ∀ k, has (reachP p i) k → k < p.1.length from fun i hi k hk => reachP_lt hpo hi hk)
  have CW0 := Lib.hid (fun W (hW : Below w.heap.size w W) => walkOf_yes _ p W hpo (HP.out.on hW) hs (HT.out.below hW))
  have HRP := Lib.hid (show ∀ i, reachP p i = (walkF (askP p) p.1.length p.1.length).reach.getD i 0 from fun _ => rfl)
  obtain ⟨F, hF⟩ : ∃ F, F = walkF (askP p) p.1.length p.1.length := ⟨_, rfl⟩
  rw [← hF] at CW0 HRP
  rw [← hTT]
  obtain ⟨n, hn⟩ : ∃ n, n = p.1.length := ⟨_, rfl⟩
  rw [← hn] at hcA hn24 hmk1 hmk2 HRE HRL CW0 ⊢
  clear hn hTT hT hpo hF
  go_enter Tryd.func9, Tryd.ntmps9
  go_upto_region 1 with fail
  obtain ⟨w1, hw1⟩ : ∃ w1, w1 = w.alloc (Obj.cells #[Value.slice A n c, Value.slice A2 p.2.length c2] 31) := ⟨_, rfl⟩
  have X1 : Blk w1 w.heap.size 31 #[.slice A n c, .slice A2 p.2.length c2] := by rw [hw1]; exact Blk.new _ _ _
  have B1 : Below w.heap.size w w1 := by rw [hw1]; exact below1 _ _
  rw [← hw1]
  clear hw1
  have x0 : w1.cell? ⟨w.heap.size, 0, none⟩ = some (.slice A n c) := X1.cell 0
  have x1 : w1.cell? ⟨w.heap.size, 1, none⟩ = some (.slice A2 p.2.length c2) := X1.cell 1
  have HX1 := Lib.hid X1
  have CW := Lib.hid (CW0.out w1 B1)
  clear X1 CW0
  go_upto_region 4 with (go_at_call 31; refine CW.out.mono ?_; rintro e w2 ⟨g, Ap, cp, Ag, cg, rfl, hgg, hgw, b2⟩; have B2 := Lib.hid (bthen B1 b2); have HG2 := Lib.hid hgw; have HX2 := Lib.hid (HX1.out.below b2 HX1.out.lt); have x20 : w2.cell? ⟨w.heap.size, 0, none⟩ = some (.slice A n c) := HX2.out.cell 0; clear b2 hgw)
  clear x0 x1
  have hg2 : g < w2.heap.size := HG2.out.lt
  go_upto_region 5 with fail
  obtain ⟨w3, hw3⟩ : ∃ w3, w3 = w2.alloc (Obj.cells (madeCells #[Value.slice none 0 0] n) 53) := ⟨_, rfl⟩
  obtain ⟨gh, hgh⟩ : ∃ gh, gh = w2.heap.size := ⟨_, rfl⟩
  have HB3 := Lib.hid (show BPart gh w3 n T gh [] from by
    rw [hw3, hgh]
    exact ⟨(World.rowIs_made _ _ _ _).congr fun j _ => by simp, fun i h => absurd h (Nat.not_lt_zero _), Nat.le_refl _, fun r hr => (by cases hr), List.nodup_nil⟩)
  have HW3 := Lib.hid (show Below gh w2 w3 by rw [hw3, hgh]; exact below1 _ _)
  have hs3 : w3.heap.size = gh + 1 := by rw [hw3, hgh]; simp
  rw [← hw3, ← hgh]
  have hggh : g < gh := by rw [hgh]; exact hg2
  have hwgh : w.heap.size < gh := by rw [hgh]; exact HX2.out.lt
  have HGH := Lib.hid hgh
  clear hw3 hgh hg2 x20
  go_wp2_with fail
  go_loopw [22] (fun i wr => ∃ (k : Nat) (rs : List Nat), k ≤ n ∧ i = .int .i64 k ∧ rs.length = k ∧ BPart gh wr n T gh rs ∧ Below gh w2 wr) (fun i _ => n - (intOf i).toNat)
  case atStart => exact ⟨0, [], Nat.zero_le _, rfl, rfl, HB3.out, HW3.out⟩
  case round =>
    obtain ⟨k, rs, hk, rfl, hrl, hbp, hbe⟩ := hrel
    have HBP := Lib.hid hbp
    have HBE := Lib.hid hbe
    have HRSL := Lib.hid hrl
    have hghr : gh < wr.heap.size := hbp.heads.lt
    clear hbp hbe hrl
    have e0 : wr.cell? ⟨w.heap.size, 0, none⟩ = some (.slice A n c) := (HBE.out.cell (p := ⟨w.heap.size, 0, none⟩) hwgh).trans (HX2.out.cell 0)
    by_cases hlt : k < n
    · have hk24 : k < 24 := by omega
      obtain ⟨wo, rfl⟩ : ∃ wo, wo = wr := ⟨_, rfl⟩
      obtain ⟨r, hr⟩ : ∃ r, r = wo.heap.size := ⟨_, rfl⟩
      have c0 : (wo.alloc (Obj.cells (madeCells #[Value.bool false] n) 4)).cell? ⟨gh, k, none⟩ = some (.slice none 0 0) := by
        rw [(HBP.out.heads.alloc _).cell hlt, List.getD_eq_getElem?_getD, List.getElem?_eq_none (by simp; have := HRSL.out; omega)]
        rfl
      have f0 : (wo.alloc (Obj.cells (madeCells #[Value.bool false] n) 4)).frozen? ⟨gh, k, none⟩ = false := (HBP.out.heads.alloc _).frozen k
      obtain ⟨wb, hwb⟩ : ∃ wb, wb = (wo.setCell ⟨gh, k, none⟩ (.slice (some ⟨wo.heap.size, 0, none⟩) n n)).alloc (Obj.cells (madeCells #[Value.bool false] n) 4) := ⟨_, rfl⟩
      have hcm := World.setCell_alloc_past (w := wo) (Obj.cells (madeCells #[Value.bool false] n) 4) gh k (.slice (some ⟨wo.heap.size, 0, none⟩) n n) hghr
      have HPB := Lib.hid (show BPart gh wb n (fun a b => if a = k then false else T a b) gh (rs ++ [r]) from by
        have hl := HRSL.out
        have h1 := (HBP.out.congr (T' := fun a b => if a = k then false else T a b) (fun i x hi _ => by rw [if_neg (by omega)])).push (Nat.le_of_lt hghr) (by omega) (fun b => by rw [if_pos hl])
        rw [hl] at h1
        rw [hwb, hr, ← hcm]
        exact h1)
      have HBB := Lib.hid (show Below gh w2 wb from by rw [hwb, ← hcm]; exact (HBE.out.alloc (Nat.le_of_lt hghr) _).setCell (Nat.le_refl _) _)
      have hsb : wb.heap.size = r + 1 := by rw [hwb, hr]; simp
      have HSB := Lib.hid hsb
      have hrge : gh < r := by rw [hr]; exact hghr
      clear hsb
      go_upto_region 9 with fail
      rw [← hwb]
      clear hwb c0 f0 e0 hcm hr
      obtain ⟨u, hu⟩ : ∃ u, u = reachP p k := ⟨_, rfl⟩
      have hgwb := HG2.out.on (show Below w2.heap.size w2 wb by rw [← HGH.out]; exact HBB.out)
      have k77 : wb.cell? ⟨g, 77 + k, none⟩ = some (.int .u64 ((u : Nat) : Int)) := by rw [hu, HRP.out]; exact hgwb.cellReach hk24
      have hu24 : u < 16777216 := by
        rw [hu, HRP.out]
        have hl : k < F.reach.length := by rw [hgwb.len.r]; exact hk24
        rw [List.getD_eq_getElem?_getD, List.getElem?_eq_getElem hl]
        exact hgwb.lim.reach _ (List.getElem_mem hl)
      have hgb : g < wb.heap.size := hgwb.lt
      have hki : (k : Int) < 24 := by omega
      obtain ⟨ts, hts⟩ : ∃ ts, ts = bitsOf u := ⟨_, rfl⟩
      obtain ⟨B, hB⟩ : ∃ B, B = bitsN u := ⟨_, rfl⟩
      have HTS := Lib.hid (show ts = B.map fun j : Nat => (j : Int) by rw [hts, hB]; rfl)
      have HTL := Lib.hid (show ts.length = B.length by rw [HTS.out]; simp)
      have htl : ts.length ≤ 64 := by rw [hts]; exact bitsOf_length _
      have HBN := Lib.hid (show ∀ x ∈ B, x < n from fun x hx => by rw [hB, hu] at hx; exact HRL.out k hlt x (bitsN_mem.1 hx).2)
      have HBT := Lib.hid (show ∀ b, b < n → decide (b ∈ B) = T k b from fun b hb => by
        rw [← HRE.out k hlt b, hB, ← hu, Bool.eq_iff_iff, decide_eq_true_eq, bitsN_mem]
        exact ⟨fun h => h.2, fun h => ⟨by omega, h⟩⟩)
      have CB := Lib.hid (bitNumbers_any u (by omega) wb (HT.out.below (B2.out.trans (HBB.out.mono (Nat.le_of_lt hwgh)))))
      rw [← hts] at CB
      clear hts hB hu hgwb
      go_wp2_with (go_at_call 32; refine CB.out.mono ?_; rintro e wc ⟨A6, c6, rfl, o6, b6⟩; have HO6 := Lib.hid o6; have B6 := Lib.hid b6; clear o6 b6)
      have HPC := Lib.hid (HPB.out.below B6.out)
      have hsc := B6.out.size
      go_loopw [40] (fun i wr => ∃ m : Nat, m ≤ ts.length ∧ i = .int .i64 m ∧ BPart gh wr n (fun a b => if a = k then decide (b ∈ B.take m) else T a b) gh (rs ++ [r]) ∧ Only r (r + 1) wc wr) (fun i _ => ts.length - (intOf i).toNat)
      case atStart => exact ⟨0, Nat.zero_le _, rfl, HPC.out.congr (fun a b _ _ => by simp), Only.refl _ _ _⟩
      case round =>
        obtain ⟨m, hm, rfl, hpm, hon⟩ := hrel
        have HPM := Lib.hid hpm
        have HON := Lib.hid hon
        by_cases hlm : m < ts.length
        · have hmB : m < B.length := by rw [← HTL.out]; exact hlm
          obtain ⟨bb, oo, q0, hbb, k0⟩ := (HO6.out.only hon (.inr (by have := HSB.out; omega))).rd.at_ hlm
          subst q0
          obtain ⟨x, hx⟩ : ∃ x, x = B[m] := ⟨_, rfl⟩
          have hxk : ts[m] = (x : Int) := by rw [hx]; simp [HTS.out]
          rw [hxk] at k0
          have HX := Lib.hid hx
          have hxn : x < n := by rw [hx]; exact HBN.out _ (List.getElem_mem hmB)
          have hkl : k < (rs ++ [r]).length := by simp; have := HRSL.out; omega
          have hre : (rs ++ [r])[k] = r := by
            have h1 := HRSL.out
            simp [h1]
          have hln : (rs ++ [r]).length ≤ n := by simp; have := HRSL.out; omega
          have z1 : wr.cell? ⟨gh, k, none⟩ = some (.slice (some ⟨r, 0, none⟩) n n) := by have h1 := hpm.head hkl hln; rw [hre] at h1; exact h1
          have hrow := hpm.rows k hkl
          rw [hre] at hrow
          obtain ⟨u0, z2⟩ : ∃ u0, wr.cell? ⟨r, x, none⟩ = some (.bool u0) := ⟨_, hrow.cell hxn⟩
          have f2 : wr.frozen? ⟨r, x, none⟩ = false := hrow.frozen x
          have HNX := Lib.hid (show BPart gh (wr.setCell ⟨r, x, none⟩ (.bool true)) n (fun a b => if a = k then decide (b ∈ B.take (m + 1)) else T a b) gh (rs ++ [r]) from by
            have h1 := hpm.set (T' := fun a b => if a = k then decide (b ∈ B.take (m + 1)) else T a b) hkl true (k := x) (fun a b => by
              by_cases ea : a = k
              · subst ea
                simp only [if_true, true_and]
                rw [take_snoc B m hmB, ← hx]
                by_cases eb : b = x <;> simp [eb]
              · rw [if_neg ea, if_neg (fun h => ea h.1), if_neg ea])
            rw [hre] at h1
            exact h1)
          clear hpm hon hrow hx hxk hre hkl hln
          go_wp2_with fail
          go_roundw
          case rel => exact ⟨m + 1, by omega, by go_num, HNX.out, HON.out.setCell ⟨Nat.le_refl _, Nat.lt_succ_self _⟩ _⟩
          case measure => simp [intOf]; omega
        · have HPE := Lib.hid (show BPart gh wr n T gh (rs ++ [r]) from hpm.congr fun a b _ hb => by
            by_cases ea : a = k
            · subst ea
              rw [if_pos rfl, show m = B.length by have := HTL.out; omega, List.take_length, HBT.out b hb]
            · rw [if_neg ea])
          have HBF := Lib.hid (show Below gh w2 wr from by
            have hs1 := HBB.out.size
            have hs2 := HSB.out
            exact HBB.out.trans ((B6.out.mono (by omega)).trans (hon.below (Nat.le_of_lt hrge) (by omega))))
          clear hpm hon
          go_wp2_with fail
          go_roundw
          case rel => exact ⟨k + 1, rs ++ [r], by omega, by go_num, by rw [List.length_append, HRSL.out]; rfl, HPE.out, HBF.out⟩
          case measure => simp [intOf]; omega
    · have HFIN := Lib.hid (HBP.out.grid (by have := HRSL.out; omega) (by omega))
      have hkn : rs.length = n := by have := HRSL.out; omega
      have HKN := Lib.hid hkn
      clear hkn
      go_wp2_with fail
      go_ret
      refine ⟨some ⟨gh, 0, none⟩, n, rs, by rw [HKN.out]; rfl, HKN.out, ?_, B2.out.trans (HBE.out.mono (Nat.le_of_lt hwgh))⟩
      have hfin := HFIN.out
      exact ⟨ownsRow_mono hfin.heads (Nat.le_of_lt hwgh), hfin.rows, fun r hr => ⟨Nat.le_trans (Nat.le_of_lt hwgh) (hfin.lo r hr).1, (hfin.lo r hr).2⟩, hfin.nodup⟩

end Go.Proofs.YtcoelmhlkfignaaDoor
/-
  The walks of both Reaches, whole.
-/
namespace Go.Proofs.YtcoelmhlkfignaaDoor
open Go.RowKit

/-- What Reaches answers: for a program that is not well formed nothing, else a table. -/
def ReachOut (lo : Nat) (w : World) (p : LProg) (v : Value) : Prop :=
  (progOk p = false ∧ v = .slice none 0 0) ∨ (progOk p = true ∧ ∃ Ao co rs, v = .slice Ao rs.length co ∧ rs.length = p.1.length ∧ BGrid lo w p.1.length (fwM (askT p) p.1.length) Ao co rs)

set_option maxHeartbeats 4000000 in
set_option maxRecDepth 100000 in
theorem implReaches_no (v : Value) (p : LProg) (w : World) (hpo : progOk p = false) (h : RdProg w w.heap.size v p) (hs : szP p ≤ 1048576) :
    Calls Tryd.prog 9 #[v] w fun e w' => e = .returned (.slice none 0 0) ∧ Below w.heap.size w w' := by
  have HP := Lib.hid h
  obtain ⟨a, b, rfl, hA, hR⟩ := h
  obtain ⟨A, c, rfl, hcA, _⟩ := hA
  obtain ⟨A2, c2, rfl, hcR, _⟩ := hR
  obtain ⟨n, hn⟩ : ∃ n, n = p.1.length := ⟨_, rfl⟩
  have HNE := Lib.hid hn
  rw [← hn] at hcA ⊢
  clear hn
  go_enter Tryd.func9, Tryd.ntmps9
  go_upto_region 1 with fail
  obtain ⟨w1, hw1⟩ : ∃ w1, w1 = w.alloc (Obj.cells #[Value.slice A n c, Value.slice A2 p.2.length c2] 31) := ⟨_, rfl⟩
  have X1 : Blk w1 w.heap.size 31 #[.slice A n c, .slice A2 p.2.length c2] := by rw [hw1]; exact Blk.new _ _ _
  have B1 : Below w.heap.size w w1 := by rw [hw1]; exact below1 _ _
  rw [← hw1]
  clear hw1
  have x0 : w1.cell? ⟨w.heap.size, 0, none⟩ = some (.slice A n c) := X1.cell 0
  have x1 : w1.cell? ⟨w.heap.size, 1, none⟩ = some (.slice A2 p.2.length c2) := X1.cell 1
  have CW := Lib.hid (walkOf_no _ p w1 hpo (HP.out.on B1) hs)
  rw [← HNE.out] at CW
  clear X1
  go_wp2_with (go_at_call 31; refine CW.out.mono ?_; rintro e w2 ⟨rfl, b2⟩; have B2 := Lib.hid (bthen B1 b2); clear b2)
  go_ret
  exact ⟨rfl, B2.out⟩

set_option maxHeartbeats 4000000 in
set_option maxRecDepth 100000 in
theorem specReaches_any (v : Value) (p : LProg) (w : World) (h : RdProg w w.heap.size v p) (hs : szP p ≤ 1048576) :
    Calls Tryd.prog 7 #[v] w fun e w' => ∃ u, e = .returned u ∧ ReachOut w.heap.size w' p u ∧ Below w.heap.size w w' := by
  have HP := Lib.hid h
  obtain ⟨a, b, rfl, hA, hR⟩ := h
  obtain ⟨A, c, rfl, hcA, _⟩ := hA
  obtain ⟨A2, c2, rfl, hcR, _⟩ := hR
  obtain ⟨po, hpo⟩ : ∃ po, po = progOk p := ⟨_, rfl⟩
  have HPO := Lib.hid hpo
  clear hpo
  go_enter Tryd.func7, Tryd.ntmps7
  go_upto_region 1 with fail
  obtain ⟨w1, hw1⟩ : ∃ w1, w1 = w.alloc (Obj.cells #[Value.slice A p.1.length c, Value.slice A2 p.2.length c2] 31) := ⟨_, rfl⟩
  have X1 : Blk w1 w.heap.size 31 #[.slice A p.1.length c, .slice A2 p.2.length c2] := by rw [hw1]; exact Blk.new _ _ _
  have B1 : Below w.heap.size w w1 := by rw [hw1]; exact below1 _ _
  rw [← hw1]
  clear hw1
  have x0 : w1.cell? ⟨w.heap.size, 0, none⟩ = some (.slice A p.1.length c) := X1.cell 0
  have x1 : w1.cell? ⟨w.heap.size, 1, none⟩ = some (.slice A2 p.2.length c2) := X1.cell 1
  have HX1 := Lib.hid X1
  have CP := Lib.hid ((specProgramOk_any _ p w1 (HP.out.on B1) hs).mono fun e w' (hh : e = .returned (.bool (progOk p)) ∧ Below w1.heap.size w1 w') => (⟨by rw [hh.1, HPO.out], hh.2⟩ : e = .returned (.bool po) ∧ Below w1.heap.size w1 w'))
  clear X1
  cases po
  · go_wp2_with (go_at_call 27; refine CP.out.mono ?_; rintro e w2 ⟨rfl, b2⟩; have B2 := Lib.hid (bthen B1 b2); clear b2)
    go_ret
    exact ⟨_, rfl, .inl ⟨HPO.out.symm, rfl⟩, B2.out⟩
  · obtain ⟨hn24, hf⟩ := asksOf_fits HPO.out.symm
    have HL := Lib.hid (fun W (hW : Below w.heap.size w W) => l5Reach_any _ p W (HP.out.on hW) hs hn24 hf)
    clear hf
    go_wp2_with (first
      | (go_at_call 27; refine CP.out.mono ?_; rintro e w2 ⟨rfl, b2⟩; have B2 := Lib.hid (bthen B1 b2); have HX2 := Lib.hid (HX1.out.below b2 HX1.out.lt); have x20 : w2.cell? ⟨w.heap.size, 0, none⟩ = some (.slice A p.1.length c) := HX2.out.cell 0; have x21 : w2.cell? ⟨w.heap.size, 1, none⟩ = some (.slice A2 p.2.length c2) := HX2.out.cell 1; clear b2)
      | (go_at_call 28; refine (HL.out _ B2.out).mono ?_; rintro e w4 ⟨Ao, co, rs, rfl, hrn, hbg, b4⟩; have H4 := Lib.hid (And.intro hrn hbg); have B4 := Lib.hid (bthen B2.out b4); clear hrn hbg b4))
    go_ret
    refine ⟨_, rfl, .inr ⟨HPO.out.symm, Ao, co, rs, rfl, H4.out.1, ?_⟩, B4.out⟩
    have hw := B2.out.size
    have hg := H4.out.2
    exact ⟨ownsRow_mono hg.heads hw, hg.rows, fun r hr => ⟨Nat.le_trans hw (hg.lo r hr).1, (hg.lo r hr).2⟩, hg.nodup⟩

theorem implReaches_all (v : Value) (p : LProg) (w : World) (h : RdProg w w.heap.size v p) (hs : szP p ≤ 1048576) (hT : Tab w) :
    Calls Tryd.prog 9 #[v] w fun e w' => ∃ u, e = .returned u ∧ ReachOut w.heap.size w' p u ∧ Below w.heap.size w w' := by
  cases hpo : progOk p
  · refine (implReaches_no v p w hpo h hs).mono ?_
    rintro e w' ⟨rfl, b⟩
    exact ⟨_, rfl, .inl ⟨hpo, rfl⟩, b⟩
  · refine (implReaches_any v p w hpo h hs hT).mono ?_
    rintro e w' ⟨Ao, co, rs, rfl, hn, hg, b⟩
    exact ⟨_, rfl, .inr ⟨hpo, Ao, co, rs, rfl, hn, hg⟩, b⟩

end Go.Proofs.YtcoelmhlkfignaaDoor
/-
  Rows of Booleans as results of laws: compared and marked.
-/
namespace Go.Proofs.YtcoelmhlkfignaaDoor
open Go.RowKit

set_option maxHeartbeats 1000000 in
set_option maxRecDepth 100000 in
theorem eqBoolS_any (ra rb n : Nat) (f : Nat → Bool) (w : World) (ha : w.rowIs ra 4 n (fun k => .bool (f k))) (hb : w.rowIs rb 4 n (fun k => .bool (f k))) (hn : n ≤ 1048576) :
    Calls Tryd.prog 33 #[.slice (some ⟨ra, 0, none⟩) n n, .slice (some ⟨rb, 0, none⟩) n n] w fun e w' => e = .returned (.bool true) ∧ Below w.heap.size w w' := by
  have HA := Lib.hid ha
  have HB := Lib.hid hb
  have hl1 : ((n : Int) != (n : Int)) = false := by simp
  clear ha hb
  go_enter Tryd.func33, Tryd.ntmps33
  go_wp2_with fail
  go_loopw [5] (fun i wr => ∃ k : Nat, k ≤ n ∧ i = .int .i64 k ∧ Below w.heap.size w wr) (fun i _ => n - (intOf i).toNat)
  case atStart => exact ⟨0, Nat.zero_le _, rfl, Below.refl _ _⟩
  case round =>
    obtain ⟨k, hk, rfl, hbe⟩ := hrel
    by_cases hlt : k < n
    · obtain ⟨b, hbv⟩ : ∃ b, b = f k := ⟨_, rfl⟩
      have c1 : wr.cell? ⟨ra, k, none⟩ = some (.bool b) := by rw [hbv]; exact (HA.out.of_block (hbe.block _ HA.out.lt)).cell hlt
      have c2 : wr.cell? ⟨rb, k, none⟩ = some (.bool b) := by rw [hbv]; exact (HB.out.of_block (hbe.block _ HB.out.lt)).cell hlt
      have HBE := Lib.hid hbe
      clear hbe hbv
      cases b
      all_goals
        go_wp2_with fail
        go_big_region
        go_wp2_with fail
        go_roundw
        case rel => exact ⟨k + 1, by omega, by go_num, HBE.out.drew⟩
        case measure => simp [intOf]; omega
    · go_wp2_with fail
      go_ret
      exact ⟨rfl, hbe⟩

/-- What a mark leaves in a row of Booleans. -/
def mk3 (k : Nat) : Bool := decide (k % 3 = 0)
set_option maxHeartbeats 1000000 in
set_option maxRecDepth 100000 in
theorem markBoolS_any (r n K : Nat) (f : Nat → Bool) (w : World) (h : w.rowIs r 4 n (fun k => .bool (f k))) (hn : n ≤ 1048576) (hK : K ≤ 4294967296) :
    Calls Tryd.prog 36 #[.slice (some ⟨r, 0, none⟩) n n, .int .i64 (K : Int)] w fun e w' => e = .returned (.int .i64 ((K + n : Nat) : Int)) ∧ w'.rowIs r 4 n (fun k => .bool (mk3 (K + k))) ∧ Only r (r + 1) w w' := by
  have H := Lib.hid h
  clear h
  go_enter Tryd.func36, Tryd.ntmps36
  go_wp2_with fail
  go_loopw [1, 5] (fun a i wr => ∃ k : Nat, k ≤ n ∧ i = .int .i64 k ∧ a = .int .i64 ((K + k : Nat) : Int) ∧ wr.rowIs r 4 n (fun j => .bool (if j < k then mk3 (K + j) else f j)) ∧ Only r (r + 1) w wr) (fun _ i _ => n - (intOf i).toNat)
  case atStart => exact ⟨0, Nat.zero_le _, rfl, by simp, H.out.congr (fun j _ => by simp), Only.refl _ _ _⟩
  case round =>
    obtain ⟨k, hk, rfl, rfl, hr, hon⟩ := hrel
    by_cases hlt : k < n
    · have c1 := hr.cell hlt
      have f1 := hr.frozen k
      obtain ⟨q, hq⟩ : ∃ q, q = K + k := ⟨_, rfl⟩
      have hm : (((q : Nat) : Int) % 3 == 0) = mk3 q := by
        unfold mk3
        rw [Bool.eq_iff_iff, beq_iff_eq, decide_eq_true_eq]
        omega
      have HN := Lib.hid (show (wr.setCell ⟨r, k, none⟩ (.bool (mk3 q))).rowIs r 4 n (fun j => .bool (if j < k + 1 then mk3 (K + j) else f j)) ∧ Only r (r + 1) w (wr.setCell ⟨r, k, none⟩ (.bool (mk3 q))) from by
        refine ⟨(hr.set k (.bool (mk3 q))).congr fun j _ => ?_, hon.setCell ⟨Nat.le_refl _, Nat.lt_succ_self _⟩ _⟩
        by_cases e : j = k
        · subst e
          rw [if_pos rfl, if_pos (by omega), hq]
        · rw [if_neg e]
          by_cases e2 : j < k
          · rw [if_pos e2, if_pos (by omega)]
          · rw [if_neg e2, if_neg (by omega)])
      have HQ := Lib.hid hq
      have hq2 : q ≤ 4296015872 := by omega
      rw [← hq]
      clear hr hon hq
      go_wp2_with fail
      go_roundw
      case rel => exact ⟨k + 1, by omega, by go_num, by have := HQ.out; go_num, HN.out.1, HN.out.2⟩
      case measure => simp [intOf]; omega
    · have hkn : k = n := by omega
      have HE := Lib.hid (show wr.rowIs r 4 n (fun j => .bool (mk3 (K + j))) from hr.congr fun j hj => by rw [if_pos (by omega)])
      have HON := Lib.hid hon
      clear hr hon
      go_wp2_with fail
      go_ret
      exact ⟨by rw [hkn]; rfl, HE.out, HON.out⟩

set_option maxHeartbeats 1000000 in
set_option maxRecDepth 100000 in
theorem heldBoolS_any (r n K : Nat) (w : World) (h : w.rowIs r 4 n (fun k => .bool (mk3 (K + k)))) (hn : n ≤ 1048576) (hK : K ≤ 4294967296) :
    Calls Tryd.prog 37 #[.slice (some ⟨r, 0, none⟩) n n, .int .i64 (K : Int)] w fun e w' => e = .returned (.int .i64 ((K + n : Nat) : Int)) ∧ Below w.heap.size w w' := by
  have H := Lib.hid h
  clear h
  go_enter Tryd.func37, Tryd.ntmps37
  go_wp2_with fail
  go_loopw [1, 5] (fun a i wr => ∃ k : Nat, k ≤ n ∧ i = .int .i64 k ∧ a = .int .i64 ((K + k : Nat) : Int) ∧ Below w.heap.size w wr) (fun _ i _ => n - (intOf i).toNat)
  case atStart => exact ⟨0, Nat.zero_le _, rfl, by simp, Below.refl _ _⟩
  case round =>
    obtain ⟨k, hk, rfl, rfl, hbe⟩ := hrel
    by_cases hlt : k < n
    · have c1 := (H.out.of_block (hbe.block _ H.out.lt)).cell hlt
      obtain ⟨q, hq⟩ : ∃ q, q = K + k := ⟨_, rfl⟩
      rw [← hq] at c1 ⊢
      have hm : (((q : Nat) : Int) % 3 == 0) = mk3 q := by
        unfold mk3
        rw [Bool.eq_iff_iff, beq_iff_eq, decide_eq_true_eq]
        omega
      have HQ := Lib.hid hq
      have hq2 : q ≤ 4296015872 := by omega
      have HBE := Lib.hid hbe
      clear hbe hq
      go_wp2_with fail
      go_roundw
      case rel => exact ⟨k + 1, by omega, by go_num, by have := HQ.out; go_num, HBE.out⟩
      case measure => simp [intOf]; omega
    · have hkn : k = n := by omega
      go_wp2_with fail
      go_ret
      exact ⟨by rw [hkn]; rfl, hbe⟩

end Go.Proofs.YtcoelmhlkfignaaDoor
/-
  Rows of rows of Booleans as results of laws: compared, marked, held.
-/
namespace Go.Proofs.YtcoelmhlkfignaaDoor
open Go.RowKit

theorem BGrid.row {lo n co i : Nat} {w w' : World} {T T' : Nat → Nat → Bool} {Ao : Option Addr} {rs : List Nat} (h : BGrid lo w n T Ao co rs) (hi : i < rs.length) (hr : w'.rowIs rs[i] 4 n (fun b => .bool (T' i b))) (ho : Only rs[i] (rs[i] + 1) w w') (hT : ∀ a b, a ≠ i → T' a b = T a b) : BGrid lo w' n T' Ao co rs := by
  have hk : ∀ b, b < w.heap.size → b ≠ rs[i] → w'.heap[b]? = w.heap[b]? := fun b hb hne => ho.block b hb (by omega)
  refine ⟨ownsRow_only h.heads fun b hb => hk b (h.heads.lt b hb).2 (fun e => (h.lo _ (List.getElem_mem hi)).2 (by rw [hb, e])), fun j hj => ?_, h.lo, h.nodup⟩
  by_cases e : j = i
  · subst e
    exact hr
  · exact ((h.rows j hj).of_block (hk _ (h.rows j hj).lt (fun e2 => e (nodup_inj h.nodup hj hi e2)))).congr fun b _ => by rw [hT j b e]

set_option maxHeartbeats 4000000 in
set_option maxRecDepth 100000 in
theorem markBoolSS_any (lo n co K : Nat) (T : Nat → Nat → Bool) (Ao : Option Addr) (rs : List Nat) (w : World) (h : BGrid lo w n T Ao co rs) (hn : n ≤ 24) (hrs : rs.length ≤ 24) (hK : K ≤ 1048576) :
    Calls Tryd.prog 13 #[.slice Ao rs.length co, .int .i64 (K : Int)] w fun e w' => e = .returned (.int .i64 ((K + rs.length * n : Nat) : Int)) ∧ BGrid lo w' n (fun i k => mk3 (K + i * n + k)) Ao co rs ∧ Below lo w w' := by
  have H := Lib.hid h
  clear h
  go_enter Tryd.func13, Tryd.ntmps13
  go_wp2_with fail
  go_loopw [1, 5] (fun a i wr => ∃ k q : Nat, k ≤ rs.length ∧ i = .int .i64 k ∧ a = .int .i64 (q : Int) ∧ q = K + k * n ∧ BGrid lo wr n (fun i j => if i < k then mk3 (K + i * n + j) else T i j) Ao co rs ∧ Below lo w wr) (fun _ i _ => rs.length - (intOf i).toNat)
  case atStart => exact ⟨0, K, Nat.zero_le _, rfl, rfl, by simp, H.out.congr (fun i j _ _ => by simp), Below.refl _ _⟩
  case round =>
    obtain ⟨k, q, hk, rfl, rfl, hq, hg, hbe⟩ := hrel
    have HG := Lib.hid hg
    have HBE := Lib.hid hbe
    have HQ := Lib.hid hq
    clear hg hbe
    by_cases hlt : k < rs.length
    · have hqk : q ≤ 1049152 := by
        have : k * n ≤ 24 * 24 := Nat.mul_le_mul (by omega) hn
        omega
      clear hq
      obtain ⟨gx, rfl, hgx⟩ := HG.out.form (by omega)
      obtain ⟨r, hr⟩ : ∃ r, r = rs[k] := ⟨_, rfl⟩
      have c1 : wr.cell? ⟨gx, k, none⟩ = some (.slice (some ⟨r, 0, none⟩) n n) := by rw [hr]; exact HG.out.head hlt
      have HR := Lib.hid hr
      have CM := Lib.hid (markBoolS_any r n q _ wr (by rw [hr]; exact HG.out.rows k hlt) (by omega) (by omega))
      clear hr
      go_wp2_with (go_at_call 36; refine CM.out.mono ?_; rintro e w2 ⟨rfl, r2, o2⟩; have H2 := Lib.hid (And.intro r2 o2); clear r2 o2)
      go_roundw
      case rel =>
        have hq := HQ.out
        have hlo : lo ≤ r := by rw [HR.out]; exact (HG.out.lo _ (List.getElem_mem hlt)).1
        have hs := HG.out.heads.lt
        refine ⟨k + 1, q + n, by omega, by go_num, rfl, by rw [hq, Nat.add_mul, Nat.one_mul]; omega, HG.out.row (T' := fun i j => if i < k + 1 then mk3 (K + i * n + j) else T i j) hlt ?_ ?_ ?_, HBE.out.trans (H2.out.2.below hlo (by have := HG.out.lt r (by rw [HR.out]; exact List.getElem_mem hlt); omega))⟩
        · rw [← HR.out]
          refine H2.out.1.congr fun b _ => ?_
          simp only [Nat.lt_succ_self, if_true]
          rw [hq]
        · rw [← HR.out]
          exact H2.out.2
        · intro a b ha
          by_cases e : a < k
          · rw [if_pos e, if_pos (by omega)]
          · rw [if_neg e, if_neg (by omega)]
      case measure => simp [intOf]; omega
    · have hkn : k = rs.length := by omega
      have HE := Lib.hid (show BGrid lo wr n (fun i j => mk3 (K + i * n + j)) Ao co rs from HG.out.congr fun i j hi _ => by rw [if_pos (by omega)])
      have HQ2 := Lib.hid (show q = K + rs.length * n by rw [HQ.out, hkn])
      clear hkn hq
      go_wp2_with fail
      go_ret
      exact ⟨by rw [← HQ2.out]; rfl, HE.out, HBE.out⟩

set_option maxHeartbeats 4000000 in
set_option maxRecDepth 100000 in
theorem heldBoolSS_any (lo n co K : Nat) (Ao : Option Addr) (rs : List Nat) (w : World) (h : BGrid lo w n (fun i k => mk3 (K + i * n + k)) Ao co rs) (hn : n ≤ 24) (hrs : rs.length ≤ 24) (hK : K ≤ 1048576) :
    Calls Tryd.prog 14 #[.slice Ao rs.length co, .int .i64 (K : Int)] w fun e w' => e = .returned (.int .i64 ((K + rs.length * n : Nat) : Int)) ∧ Below w.heap.size w w' := by
  have H := Lib.hid h
  clear h
  go_enter Tryd.func14, Tryd.ntmps14
  go_wp2_with fail
  go_loopw [1, 5] (fun a i wr => ∃ k q : Nat, k ≤ rs.length ∧ i = .int .i64 k ∧ a = .int .i64 (q : Int) ∧ q = K + k * n ∧ Below w.heap.size w wr) (fun _ i _ => rs.length - (intOf i).toNat)
  case atStart => exact ⟨0, K, Nat.zero_le _, rfl, rfl, by simp, Below.refl _ _⟩
  case round =>
    obtain ⟨k, q, hk, rfl, rfl, hq, hbe⟩ := hrel
    have HG := Lib.hid (H.out.below hbe)
    have HBE := Lib.hid hbe
    have HQ := Lib.hid hq
    clear hbe
    by_cases hlt : k < rs.length
    · have hqk : q ≤ 1049152 := by
        have : k * n ≤ 24 * 24 := Nat.mul_le_mul (by omega) hn
        omega
      clear hq
      obtain ⟨gx, rfl, hgx⟩ := HG.out.form (by omega)
      obtain ⟨r, hr⟩ : ∃ r, r = rs[k] := ⟨_, rfl⟩
      have c1 : wr.cell? ⟨gx, k, none⟩ = some (.slice (some ⟨r, 0, none⟩) n n) := by rw [hr]; exact HG.out.head hlt
      have CM := Lib.hid (heldBoolS_any r n q wr (by rw [hr, HQ.out]; exact HG.out.rows k hlt) (by omega) (by omega))
      have hge : decide (((q + n : Nat) : Int) < 0) = false := by simp; omega
      clear hr
      go_wp2_with (go_at_call 37; refine CM.out.mono ?_; rintro e w2 ⟨rfl, b2⟩; have B2 := Lib.hid (bthen HBE.out b2); clear b2)
      go_roundw
      case rel =>
        have hq := HQ.out
        exact ⟨k + 1, q + n, by omega, by go_num, rfl, by rw [hq, Nat.add_mul, Nat.one_mul]; omega, B2.out⟩
      case measure => simp [intOf]; omega
    · have hkn : k = rs.length := by omega
      have HQ2 := Lib.hid (show q = K + rs.length * n by rw [HQ.out, hkn])
      clear hkn hq
      go_wp2_with fail
      go_ret
      exact ⟨by rw [← HQ2.out]; rfl, HBE.out⟩

set_option maxHeartbeats 4000000 in
set_option maxRecDepth 100000 in
theorem eqBoolSS_any (lo lo2 n co co2 m : Nat) (T : Nat → Nat → Bool) (Ao Bo : Option Addr) (rs qs : List Nat) (w : World) (h : BGrid lo w n T Ao co rs) (h2 : BGrid lo2 w n T Bo co2 qs) (hn : n ≤ 24) (hm : m ≤ 24) (hrs : rs.length = m) (hqs : qs.length = m) :
    Calls Tryd.prog 10 #[.slice Ao m co, .slice Bo m co2] w fun e w' => e = .returned (.bool true) ∧ Below w.heap.size w w' := by
  have H := Lib.hid h
  have H2 := Lib.hid h2
  have HM := Lib.hid (And.intro hrs hqs)
  have hl1 : ((m : Int) != (m : Int)) = false := by simp
  clear h h2 hrs hqs
  go_enter Tryd.func10, Tryd.ntmps10
  go_wp2_with fail
  go_loopw [5] (fun i wr => ∃ k : Nat, k ≤ m ∧ i = .int .i64 k ∧ Below w.heap.size w wr) (fun i _ => m - (intOf i).toNat)
  case atStart => exact ⟨0, Nat.zero_le _, rfl, Below.refl _ _⟩
  case round =>
    obtain ⟨k, hk, rfl, hbe⟩ := hrel
    by_cases hlt : k < m
    · have h1 := H.out.below hbe
      have h3 := H2.out.below hbe
      have hk1 : k < rs.length := by rw [HM.out.1]; exact hlt
      have hk2 : k < qs.length := by rw [HM.out.2]; exact hlt
      obtain ⟨g1, rfl, hg1⟩ := h1.form (by omega)
      obtain ⟨g2, rfl, hg2⟩ := h3.form (by omega)
      have M0 := later_cell (h1.head hk1)
      have M1 := later_cell (h3.head hk2)
      obtain ⟨r1, hr1⟩ : ∃ r, r = rs[k] := ⟨_, rfl⟩
      obtain ⟨r2, hr2⟩ : ∃ r, r = qs[k] := ⟨_, rfl⟩
      have CE := Lib.hid (fun q : Later wr => eqBoolS_any r1 r2 n (T k) q.val (by rw [hr1]; exact (h1.rows k hk1).of_block (q.2.block _ (h1.rows k hk1).lt)) (by rw [hr2]; exact (h3.rows k hk2).of_block (q.2.block _ (h3.rows k hk2).lt)) (by omega))
      rw [← hr1] at M0
      rw [← hr2] at M1
      clear h1 h3 hr1 hr2 hk1 hk2 hg1 hg2
      go_wp2_with fail
      refine wp_region_later (by kernel_rfl) (by kernel_rfl) ?_
      repeat (go_big_quiet_step ((go_at_call 33; exact later_of (CE.out _))))
      refine wpQuiet_nil ?_
      rintro _ ⟨xq, rfl⟩
      go_wp2_with fail
      go_roundw
      case rel => exact ⟨k + 1, by omega, by go_num, bthen hbe xq.2⟩
      case measure => simp [intOf]; omega
    · go_wp2_with fail
      go_ret
      exact ⟨rfl, hbe⟩

end Go.Proofs.YtcoelmhlkfignaaDoor
/-
  A table of Booleans as the result of a law: owned, compared, marked, held.
-/
namespace Go.Proofs.YtcoelmhlkfignaaDoor
open Go.RowKit

/-- A table: so many rows, each of so many Booleans. -/
structure GR where
  length : Nat
  n : Nat
  T : Nat → Nat → Bool
def OwnGrid (w : World) (lo hi : Nat) (v : Value) (R : GR) : Prop :=
  ∃ Ao co rs, v = .slice Ao R.length co ∧ rs.length = R.length ∧ BGrid lo w R.n R.T Ao co rs ∧ (∀ g, (Value.slice Ao rs.length co).ownBlock = some g → g < hi) ∧ ∀ r ∈ rs, r < hi
section
variable {w w' : World} {lo hi lo' hi' B : Nat} {v : Value} {R : GR}
theorem OwnGrid.below (h : OwnGrid w lo hi v R) (hb : Below B w w') (hB : hi ≤ B) : OwnGrid w' lo hi v R := by
  obtain ⟨Ao, co, rs, e, hl, hg, h1, h2⟩ := h
  exact ⟨Ao, co, rs, e, hl, hg.keep fun b hb' => hb.block b (by rcases hb' with h | h; exact Nat.lt_of_lt_of_le (h2 b h) hB; exact Nat.lt_of_lt_of_le (h1 b h) hB), h1, h2⟩
theorem OwnGrid.only (h : OwnGrid w lo hi v R) (ho : Only lo' hi' w w') (hd : hi ≤ lo' ∨ hi' ≤ lo) : OwnGrid w' lo hi v R := by
  obtain ⟨Ao, co, rs, e, hl, hg, h1, h2⟩ := h
  refine ⟨Ao, co, rs, e, hl, hg.keep fun b hb' => ?_, h1, h2⟩
  rcases hb' with h | h
  · exact ho.block b (hg.lt b h) (by have := h2 b h; have := (hg.lo b h).1; omega)
  · exact ho.block b (hg.heads.lt b h).2 (by have := h1 b h; have := (hg.heads.lt b h).1; omega)
theorem OwnGrid.mono (h : OwnGrid w lo hi v R) (h1 : lo' ≤ lo) (h2 : hi ≤ hi') : OwnGrid w lo' hi' v R := by
  obtain ⟨Ao, co, rs, e, hl, hg, k1, k2⟩ := h
  exact ⟨Ao, co, rs, e, hl, ⟨ownsRow_mono hg.heads h1, hg.rows, fun r hr => ⟨Nat.le_trans h1 (hg.lo r hr).1, (hg.lo r hr).2⟩, hg.nodup⟩, fun g hg2 => Nat.lt_of_lt_of_le (k1 g hg2) h2, fun r hr => Nat.lt_of_lt_of_le (k2 r hr) h2⟩
theorem OwnGrid.of {Ao : Option Addr} {co m n : Nat} {T : Nat → Nat → Bool} {rs : List Nat} (hm : rs.length = m) (h : BGrid lo w n T Ao co rs) : OwnGrid w lo w.heap.size (.slice Ao m co) ⟨m, n, T⟩ :=
  ⟨Ao, co, rs, rfl, hm, h, fun g hg => (h.heads.lt g hg).2, h.lt⟩
end
/-- What Reaches answers. -/
def reachG (p : LProg) : GR := if progOk p = true then ⟨p.1.length, p.1.length, fwM (askT p) p.1.length⟩ else ⟨0, 0, fun _ _ => false⟩
theorem reachG_few (p : LProg) : (reachG p).length ≤ 24 ∧ (reachG p).n ≤ 24 := by
  unfold reachG
  split
  · rename_i h
    exact ⟨(asksOf_fits h).1, (asksOf_fits h).1⟩
  · exact ⟨by simp, by simp⟩
theorem ReachOut.own {lo : Nat} {w : World} {p : LProg} {v : Value} (h : ReachOut lo w p v) : ∃ A c, v = .slice A (reachG p).length c ∧ OwnGrid w lo w.heap.size (.slice A (reachG p).length c) (reachG p) := by
  rcases h with ⟨h, rfl⟩ | ⟨h, Ao, co, rs, rfl, hn, hg⟩
  · have e : reachG p = ⟨0, 0, fun _ _ => false⟩ := by unfold reachG; rw [if_neg (by rw [h]; decide)]
    rw [e]
    exact ⟨none, 0, rfl, none, 0, [], rfl, rfl, ⟨World.ownsRow_nil _ _ _ _, fun i h => absurd h (by simp), fun r h => absurd h (by simp), by simp⟩, fun g hg => by simp [Value.ownBlock] at hg, fun r h => absurd h (by simp)⟩
  · have e : reachG p = ⟨p.1.length, p.1.length, fwM (askT p) p.1.length⟩ := by unfold reachG; rw [if_pos h]
    rw [e]
    refine ⟨Ao, co, by rw [hn], ?_⟩
    exact OwnGrid.of hn hg
theorem specReachesG_any (v : Value) (p : LProg) (w : World) (h : RdProg w w.heap.size v p) (hs : szP p ≤ 1048576) :
    Calls Tryd.prog 7 #[v] w fun e w' => ∃ A' c', e = .returned (.slice A' (reachG p).length c') ∧ OwnGrid w' w.heap.size w'.heap.size (.slice A' (reachG p).length c') (reachG p) ∧ Below w.heap.size w w' := by
  refine (specReaches_any v p w h hs).mono ?_
  rintro e w' ⟨u, rfl, hr, hb⟩
  obtain ⟨A, c, rfl, ho⟩ := hr.own
  exact ⟨A, c, rfl, ho, hb⟩
theorem implReachesG_any (v : Value) (p : LProg) (w : World) (h : RdProg w w.heap.size v p) (hs : szP p ≤ 1048576) (hT : Tab w) :
    Calls Tryd.prog 9 #[v] w fun e w' => ∃ A' c', e = .returned (.slice A' (reachG p).length c') ∧ OwnGrid w' w.heap.size w'.heap.size (.slice A' (reachG p).length c') (reachG p) ∧ Below w.heap.size w w' := by
  refine (implReaches_all v p w h hs hT).mono ?_
  rintro e w' ⟨u, rfl, hr, hb⟩
  obtain ⟨A, c, rfl, ho⟩ := hr.own
  exact ⟨A, c, rfl, ho, hb⟩

theorem eqGrid_any (va vb : Value) (lo hi lo2 hi2 : Nat) (R : GR) (w : World) (h : OwnGrid w lo hi va R) (h2 : OwnGrid w lo2 hi2 vb R) (hf : R.length ≤ 24 ∧ R.n ≤ 24) :
    Calls Tryd.prog 10 #[va, vb] w fun e w' => e = .returned (.bool true) ∧ Below w.heap.size w w' := by
  obtain ⟨Ao, co, rs, rfl, hl, hg, _, _⟩ := h
  obtain ⟨Bo, co2, qs, rfl, hl2, hg2, _, _⟩ := h2
  exact eqBoolSS_any lo lo2 R.n co co2 R.length R.T Ao Bo rs qs w hg hg2 hf.2 hf.1 hl hl2

/-- The marks from k on stand in a table, and end at z. -/
def HdGrid (w : World) (lo hi : Nat) (v : Value) (R : GR) (k z : Int) : Prop := ∃ K : Nat, (k = K ∧ z = ((K + R.length * R.n : Nat) : Int) ∧ K ≤ 1048576 ∧ R.length ≤ 24 ∧ R.n ≤ 24) ∧ OwnGrid w lo hi v ⟨R.length, R.n, fun i j => mk3 (K + i * R.n + j)⟩
theorem HdGrid.below {w w' : World} {lo hi B : Nat} {v : Value} {R : GR} {k z : Int} (h : HdGrid w lo hi v R k z) (hb : Below B w w') (hB : hi ≤ B) : HdGrid w' lo hi v R k z := by
  obtain ⟨K, h1, h2⟩ := h
  exact ⟨K, h1, h2.below hb hB⟩
theorem um_grid {v : Value} {R : GR} {lo hi : Nat} {w : World} (h : OwnGrid w lo hi v R) (hf : R.length ≤ 24 ∧ R.n ≤ 24) :
    Calls Tryd.prog 13 #[v, .int .i64 1] w fun e w' => ∃ z, e = .returned (.int .i64 z) ∧ 1 ≤ z ∧ z ≤ 1 + 576 ∧ HdGrid w' lo hi v R 1 z ∧ Only lo w.heap.size w w' := by
  obtain ⟨Ao, co, rs, rfl, hl, hg, h1, h2⟩ := h
  have hm : R.length * R.n ≤ 576 := Nat.mul_le_mul hf.1 hf.2
  have hC := markBoolSS_any lo R.n co 1 R.T Ao rs w hg hf.2 (by omega) (by omega)
  rw [hl] at hC
  refine hC.mono ?_
  rintro e w' ⟨rfl, hg2, hb⟩
  exact ⟨_, rfl, by omega, by omega, ⟨1, ⟨rfl, rfl, by omega, hf⟩, Ao, co, rs, rfl, hl, hg2, h1, h2⟩, ⟨hb.os, hb.tape, hb.output, hb.size, fun b hb1 hb2 => hb.block b (by omega)⟩⟩
theorem uh_grid {v : Value} {R : GR} {lo hi : Nat} {w : World} {k z : Int} (h : HdGrid w lo hi v R k z) :
    Calls Tryd.prog 14 #[v, .int .i64 k] w fun e w' => e = .returned (.int .i64 z) ∧ Below w.heap.size w w' := by
  obtain ⟨K, ⟨rfl, rfl, hK, f1, f2⟩, Ao, co, rs, rfl, hl, hg, _, _⟩ := h
  have hC := heldBoolSS_any lo R.n co K Ao rs w hg f2 (by have : rs.length = R.length := hl; omega) hK
  have hl' : rs.length = R.length := hl
  rw [hl'] at hC
  exact hC

end Go.Proofs.YtcoelmhlkfignaaDoor
