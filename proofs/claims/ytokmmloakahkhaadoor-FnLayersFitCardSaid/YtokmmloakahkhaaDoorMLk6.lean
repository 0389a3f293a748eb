/-
  Texts that the claim's last one imports, laid together: part 6 of 9. No condition of its own.
-/
import Derived.Laws.BitsAllLaws
import Derived.Deep.RegionHeld3
import Derived.Deep.RegionWith
import Derived.Deep.RegionLaw
import Derived.Deep.WholeRow
import Derived.Laws.CopyOwn
import Derived.Deep.DeepCutAuto
import Derived.Test.YtokmmloakahkhaaDoorMLk1
import Derived.Test.YtokmmloakahkhaaDoorMLk2
import Derived.Test.YtokmmloakahkhaaDoorMLk3
import Derived.Test.YtokmmloakahkhaaDoorMLk5
/-
  Words of links: the walks of hasBit, (*asking).all, askingOf.
-/
namespace Go.Proofs.YtokmmloakahkhaaDoor
open Go.RowKit

theorem bit_one (x n : Nat) (hx : x < 18446744073709551616) : (bits .and .u64 ((x : Int) / 2 ^ n) 1 == 1) = x.testBit n := by
  have e : ((x : Int) / 2 ^ n) = ((x / 2 ^ n : Nat) : Int) := by simp
  have h1 : x / 2 ^ n < 18446744073709551616 := Nat.lt_of_le_of_lt (Nat.div_le_self _ _) hx
  rw [e, show (1 : Int) = ((1 : Nat) : Int) from rfl, u64_and_nat _ 1 h1 (by decide), Nat.and_one_is_mod]
  have h2 : x.testBit n = decide (x / 2 ^ n % 2 = 1) := by
    rw [Nat.testBit, Nat.shiftRight_eq_div_pow, Nat.one_and_eq_mod_two]
    have := Nat.mod_two_eq_zero_or_one (x / 2 ^ n)
    rcases this with h | h <;> simp [h]
  rw [h2, Bool.eq_iff_iff, beq_iff_eq, decide_eq_true_eq]
  omega

set_option maxHeartbeats 1000000 in
theorem hasBit_any (x n : Nat) (hx : x < 18446744073709551616) (hn : n < 64) (w : World) :
    Calls Tryd.prog 48 #[.int .u64 x, .int .i64 n] w fun e w' => e = .returned (.bool (x.testBit n)) ∧ w = w' := by
  go_enter Tryd.func48, Tryd.ntmps48
  go_wp2_with (fail)
  go_ret
  exact ⟨ret_bool (bit_one x n hx), rfl⟩

/-- The words of links: for each predicate those that it asks by a LitYes, then by a LitNo. -/
def askCells (Y N : List Nat) : Array Value := ((Y ++ N).map fun x => Value.int .u64 ((x : Nat) : Int)).toArray
def AskAt (w : World) (g : Nat) (Y N : List Nat) : Prop := Blk w g 70 (askCells Y N) ∧ Y.length = 24 ∧ N.length = 24
theorem AskAt.yes {w : World} {g p : Nat} {Y N : List Nat} (h : AskAt w g Y N) (hp : p < 24) : w.cell? ⟨g, p, none⟩ = some (.int .u64 ((Y.getD p 0 : Nat) : Int)) := by
  rw [h.1.cell p]
  have : p < Y.length := by rw [h.2.1]; exact hp
  simp [askCells, List.getElem?_append_left, this]
theorem AskAt.no {w : World} {g p : Nat} {Y N : List Nat} (h : AskAt w g Y N) (hp : p < 24) : w.cell? ⟨g, 24 + p, none⟩ = some (.int .u64 ((N.getD p 0 : Nat) : Int)) := by
  rw [h.1.cell (24 + p)]
  have h1 : p < N.length := by rw [h.2.2]; exact hp
  have h2 : Y.length ≤ 24 + p := by rw [h.2.1]; omega
  have h3 : 24 + p - Y.length = p := by rw [h.2.1]; omega
  simp [askCells, List.getElem?_append_right, h2, h3, h1]
theorem AskAt.setYes {w : World} {g p x : Nat} {Y N : List Nat} (h : AskAt w g Y N) (hp : p < 24) : AskAt (w.setCell ⟨g, p, none⟩ (.int .u64 ((x : Nat) : Int))) g (Y.set p x) N := by
  obtain ⟨h1, h2, h3⟩ := h
  refine ⟨?_, by simp [h2], h3⟩
  have := h1.set_ p (.int .u64 ((x : Nat) : Int))
  have e : askCells (Y.set p x) N = (askCells Y N).setIfInBounds p (.int .u64 ((x : Nat) : Int)) := by
    unfold askCells
    rw [← List.set_append_left _ _ (by rw [h2]; exact hp), List.map_set]
    simp
  rw [e]
  exact this
theorem AskAt.setNo {w : World} {g p x : Nat} {Y N : List Nat} (h : AskAt w g Y N) (hp : p < 24) : AskAt (w.setCell ⟨g, 24 + p, none⟩ (.int .u64 ((x : Nat) : Int))) g Y (N.set p x) := by
  obtain ⟨h1, h2, h3⟩ := h
  refine ⟨?_, h2, by simp [h3]⟩
  have := h1.set_ (24 + p) (.int .u64 ((x : Nat) : Int))
  have e : askCells Y (N.set p x) = (askCells Y N).setIfInBounds (24 + p) (.int .u64 ((x : Nat) : Int)) := by
    unfold askCells
    have e2 : (Y ++ N).set (24 + p) x = Y ++ N.set p x := by
      rw [List.set_append_right _ _ (by rw [h2]; omega), h2]
      congr 2
      omega
    rw [← e2, List.map_set]
    simp
  rw [e]
  exact this
theorem AskAt.below {w w' : World} {g B : Nat} {Y N : List Nat} (h : AskAt w g Y N) (hb : Below B w w') (hg : g < B) : AskAt w' g Y N := ⟨h.1.below hb hg, h.2⟩
theorem AskAt.only {w w' : World} {g lo hi : Nat} {Y N : List Nat} (h : AskAt w g Y N) (ho : Only lo hi w w') (hg : g < lo ∨ hi ≤ g) : AskAt w' g Y N := ⟨h.1.only ho hg, h.2⟩

set_option maxHeartbeats 1000000 in
theorem askAll_any (g p : Nat) (Y N : List Nat) (w : World) (h : AskAt w g Y N) (hp : p < 24) (hy : Y.getD p 0 < 18446744073709551616) (hn : N.getD p 0 < 18446744073709551616) :
    Calls Tryd.prog 47 #[.pointer (some ⟨g, 0, none⟩), .int .i64 p] w fun e w' => e = .returned (.int .u64 ((Y.getD p 0 ||| N.getD p 0 : Nat) : Int)) ∧ Below w.heap.size w w' := by
  have c0 := h.yes hp
  have c1 := h.no hp
  obtain ⟨y, hye⟩ : ∃ y, y = Y.getD p 0 := ⟨_, rfl⟩
  obtain ⟨z, hze⟩ : ∃ z, z = N.getD p 0 := ⟨_, rfl⟩
  rw [← hye] at c0 hy ⊢
  rw [← hze] at c1 hn ⊢
  have ho : bits .or .u64 (y : Int) (z : Int) = ((y ||| z : Nat) : Int) := u64_or_nat y z hy hn
  clear h hye hze
  go_enter Tryd.func47, Tryd.ntmps47
  go_wp2_with (fail)
  go_big_region
  go_wp2_with (fail)
  go_ret
  exact ⟨rfl, (Below.refl _ _).drew⟩

def zeroA : List Nat := List.replicate 24 0
theorem askWords_nil (kd : Int) : askWords kd [] = zeroA := by unfold askWords askMask zeroA; rfl
theorem asksOf_snoc (rs : List LRule) (k : Nat) (h : k < rs.length) : asksOf (rs.take (k + 1)) = asksOf (rs.take k) ++ rs[k].2.map fun l => (rs[k].1.1, l) := by
  unfold asksOf
  rw [take_snoc rs k h, List.flatMap_append]
  simp
theorem AskAt.drewn {w : World} {g : Nat} {Y N : List Nat} (h : AskAt w g Y N) : AskAt w.drew g Y N := ⟨h.1, h.2⟩
theorem AskAt.new (w : World) : AskAt (w.alloc (Obj.cells (askCells zeroA zeroA) 70)) w.heap.size zeroA zeroA := ⟨Blk.new _ _ _, by simp [zeroA], by simp [zeroA]⟩
theorem Only.drewn {lo hi : Nat} {w w' : World} (h : Only lo hi w w') : Only lo hi w w'.drew := h.trans (Only.of_below (Below.refl _ _).drew)
theorem asksOf_mem {rs : List LRule} {k m : Nat} (hk : k < rs.length) (hm : m < rs[k].2.length) : (rs[k].1.1, rs[k].2[m]) ∈ asksOf rs :=
  List.mem_flatMap.2 ⟨rs[k], List.getElem_mem hk, List.mem_map.2 ⟨rs[k].2[m], List.getElem_mem hm, rfl⟩⟩
theorem asksOf_take_sub {rs : List LRule} {k m : Nat} (hk : k < rs.length) : ∀ x ∈ asksOf (rs.take k) ++ (rs[k].2.take m).map (fun l => (rs[k].1.1, l)), x ∈ asksOf rs := by
  intro x hx
  rcases List.mem_append.1 hx with h | h
  · unfold asksOf at *
    obtain ⟨r, hr, h⟩ := List.mem_flatMap.1 h
    exact List.mem_flatMap.2 ⟨r, List.mem_of_mem_take hr, h⟩
  · obtain ⟨l, hl, rfl⟩ := List.mem_map.1 h
    exact List.mem_flatMap.2 ⟨rs[k], List.getElem_mem hk, List.mem_map.2 ⟨l, List.mem_of_mem_take hl, rfl⟩⟩

set_option maxHeartbeats 4000000 in
set_option maxRecDepth 100000 in
theorem askingOf_any (v : Value) (rs : List LRule) (n : Nat) (w : World) (h : RdRules w w.heap.size v rs) (hn : n ≤ 24) (hf : ∀ x ∈ asksOf rs, AskFits n x) (hl : rs.length ≤ 1048576) (hb : ∀ r ∈ rs, r.2.length ≤ 1048576) :
    Calls Tryd.prog 46 #[v] w fun e w' => e = .returned (.agg (askCells (askWords 0 (asksOf rs)) (askWords 1 (asksOf rs)))) ∧ Below w.heap.size w w' := by
  have H := Lib.hid h
  have HF := Lib.hid hf
  have HBL := Lib.hid hb
  obtain ⟨A, c, rfl, hcA, _⟩ := h
  clear hf hb
  go_enter Tryd.func46, Tryd.ntmps46
  go_upto_region 2 with fail
  obtain ⟨w0, hw0⟩ : ∃ w0, w0 = (w.alloc (Obj.cells (askCells zeroA zeroA) 70)).alloc (Obj.cells (askCells zeroA zeroA) 70) := ⟨_, rfl⟩
  obtain ⟨g, hg⟩ : ∃ g, g = w.heap.size + 1 := ⟨_, rfl⟩
  have T0 : AskAt w0 g zeroA zeroA := by rw [hw0, hg]; have := AskAt.new (w.alloc (Obj.cells (askCells zeroA zeroA) 70)); simpa using this
  have R0 : AskAt w0 w.heap.size zeroA zeroA := by rw [hw0]; exact (AskAt.new w).below (below1 _ _) (by simp)
  have B0 : Below w.heap.size w w0 := by rw [hw0]; exact bthen (below1 _ _) (below1 _ _)
  rw [show ((w.alloc (Obj.cells #[Value.int IntKind.u64 0, Value.int IntKind.u64 0, Value.int IntKind.u64 0, Value.int IntKind.u64 0, Value.int IntKind.u64 0, Value.int IntKind.u64 0, Value.int IntKind.u64 0, Value.int IntKind.u64 0, Value.int IntKind.u64 0, Value.int IntKind.u64 0, Value.int IntKind.u64 0, Value.int IntKind.u64 0, Value.int IntKind.u64 0, Value.int IntKind.u64 0, Value.int IntKind.u64 0, Value.int IntKind.u64 0, Value.int IntKind.u64 0, Value.int IntKind.u64 0, Value.int IntKind.u64 0, Value.int IntKind.u64 0, Value.int IntKind.u64 0, Value.int IntKind.u64 0, Value.int IntKind.u64 0, Value.int IntKind.u64 0, Value.int IntKind.u64 0, Value.int IntKind.u64 0, Value.int IntKind.u64 0, Value.int IntKind.u64 0, Value.int IntKind.u64 0, Value.int IntKind.u64 0, Value.int IntKind.u64 0, Value.int IntKind.u64 0, Value.int IntKind.u64 0, Value.int IntKind.u64 0, Value.int IntKind.u64 0, Value.int IntKind.u64 0, Value.int IntKind.u64 0, Value.int IntKind.u64 0, Value.int IntKind.u64 0, Value.int IntKind.u64 0, Value.int IntKind.u64 0, Value.int IntKind.u64 0, Value.int IntKind.u64 0, Value.int IntKind.u64 0, Value.int IntKind.u64 0, Value.int IntKind.u64 0, Value.int IntKind.u64 0, Value.int IntKind.u64 0] 70)).alloc (Obj.cells #[Value.int IntKind.u64 0, Value.int IntKind.u64 0, Value.int IntKind.u64 0, Value.int IntKind.u64 0, Value.int IntKind.u64 0, Value.int IntKind.u64 0, Value.int IntKind.u64 0, Value.int IntKind.u64 0, Value.int IntKind.u64 0, Value.int IntKind.u64 0, Value.int IntKind.u64 0, Value.int IntKind.u64 0, Value.int IntKind.u64 0, Value.int IntKind.u64 0, Value.int IntKind.u64 0, Value.int IntKind.u64 0, Value.int IntKind.u64 0, Value.int IntKind.u64 0, Value.int IntKind.u64 0, Value.int IntKind.u64 0, Value.int IntKind.u64 0, Value.int IntKind.u64 0, Value.int IntKind.u64 0, Value.int IntKind.u64 0, Value.int IntKind.u64 0, Value.int IntKind.u64 0, Value.int IntKind.u64 0, Value.int IntKind.u64 0, Value.int IntKind.u64 0, Value.int IntKind.u64 0, Value.int IntKind.u64 0, Value.int IntKind.u64 0, Value.int IntKind.u64 0, Value.int IntKind.u64 0, Value.int IntKind.u64 0, Value.int IntKind.u64 0, Value.int IntKind.u64 0, Value.int IntKind.u64 0, Value.int IntKind.u64 0, Value.int IntKind.u64 0, Value.int IntKind.u64 0, Value.int IntKind.u64 0, Value.int IntKind.u64 0, Value.int IntKind.u64 0, Value.int IntKind.u64 0, Value.int IntKind.u64 0, Value.int IntKind.u64 0, Value.int IntKind.u64 0] 70)) = w0 from by rw [hw0]; rfl, show w.heap.size + 1 = g from hg.symm]
  have hgs : g < w0.heap.size := T0.1.lt
  have hgw : w.heap.size ≤ g := by omega
  have HT0 := Lib.hid T0
  have HR0 := Lib.hid R0
  have HGE := Lib.hid hg
  clear hw0 T0 R0 hg
  go_wp2_with fail
  go_loopw [10] (fun i wr => ∃ (k : Nat), k ≤ rs.length ∧ i = .int .i64 k ∧ AskAt wr g (askWords 0 (asksOf (rs.take k))) (askWords 1 (asksOf (rs.take k))) ∧ Only g (g + 1) w0 wr) (fun i _ => rs.length - (intOf i).toNat)
  case atStart => exact ⟨0, Nat.zero_le _, rfl, by simpa [asksOf, askWords_nil] using HT0.out, Only.refl _ _ _⟩
  case round =>
    obtain ⟨k, hk, rfl, hat, hon⟩ := hrel
    have BW : Below w.heap.size w wr := Only.then_ B0 hon hgw
    have HON := Lib.hid hon
    have hsz0 := hon.size
    by_cases hlt : k < rs.length
    · obtain ⟨b, o, u0, u1, u2, rfl, hbB, k0, k1, k2, rfl, q1, q2⟩ := (H.out.below BW (Nat.le_refl _)).get hlt
      have hwr : w.heap.size ≤ wr.heap.size := BW.size
      have Q2 := Lib.hid q2
      obtain ⟨A3, c3, rfl, _⟩ := q1
      obtain ⟨A4, c4, rfl, _⟩ := q2
      have hbl := HBL.out _ (List.getElem_mem hlt)
      clear hon
      go_upto_region 5 with fail
      obtain ⟨wv, hwv⟩ : ∃ wv, wv = wr.alloc (Obj.cells #[Value.int .i64 rs[k].1.1, Value.slice A3 rs[k].1.2.length c3, Value.slice A4 rs[k].2.length c4] 53) := ⟨_, rfl⟩
      have bv : Below wr.heap.size wr wv := by rw [hwv]; exact below1 _ _
      have X : Blk wv wr.heap.size 53 #[.int .i64 rs[k].1.1, .slice A3 rs[k].1.2.length c3, .slice A4 rs[k].2.length c4] := by rw [hwv]; exact Blk.new _ _ _
      rw [← hwv]
      have hvl := X.lt
      clear hwv k0 k1 k2
      have x2 : wv.cell? ⟨wr.heap.size, 2, none⟩ = some (.slice A4 rs[k].2.length c4) := X.cell 2
      have hgr : g + 1 ≤ wr.heap.size := hat.1.lt
      have HATV := Lib.hid (hat.below bv hat.1.lt)
      have HX := Lib.hid X
      have HBV := Lib.hid bv
      clear hat X bv
      go_wp2_with fail
      clear x2
      obtain ⟨wo, rfl⟩ : ∃ wo, wo = wr := ⟨_, rfl⟩
      go_loopw [17] (fun i wr => ∃ m : Nat, m ≤ rs[k].2.length ∧ i = .int .i64 m ∧ AskAt wr g (askWords 0 (asksOf (rs.take k) ++ (rs[k].2.take m).map fun l => (rs[k].1.1, l))) (askWords 1 (asksOf (rs.take k) ++ (rs[k].2.take m).map fun l => (rs[k].1.1, l))) ∧ Only g (g + 1) wv wr) (fun i _ => rs[k].2.length - (intOf i).toNat)
      case atStart => exact ⟨0, Nat.zero_le _, rfl, by simpa using HATV.out, Only.refl _ _ _⟩
      case round =>
        obtain ⟨m, hm, rfl, hax, honx⟩ := hrel
        have hsx := honx.size
        by_cases hltm : m < rs[k].2.length
        · obtain ⟨b5, o5, y0, y1, y2, rfl, hb5, l0, l1, l2, rfl, rfl, q5⟩ := (Q2.out.below ((HBV.out.mono hwr).trans (honx.below hgw (by omega))) (Nat.le_refl _)).get hltm
          obtain ⟨A5, c5, rfl, _⟩ := q5
          have HFX := Lib.hid (HF.out _ (asksOf_mem hlt hltm))
          obtain ⟨ps, hps⟩ : ∃ ps, ps = asksOf (rs.take k) ++ (rs[k].2.take m).map fun l => (rs[k].1.1, l) := ⟨_, rfl⟩
          have HSUB := Lib.hid (show ∀ x ∈ ps, AskFits n x from by rw [hps]; exact fun x hx => HF.out x (asksOf_take_sub hlt x hx))
          have HPS := Lib.hid (show asksOf (rs.take k) ++ (rs[k].2.take (m + 1)).map (fun l => (rs[k].1.1, l)) = ps ++ [(rs[k].1.1, rs[k].2[m])] from by
            rw [take_snoc _ _ hltm, List.map_append, ← List.append_assoc, ← hps]; rfl)
          rw [← hps] at hax
          obtain ⟨p, hpe⟩ : ∃ p : Nat, rs[k].1.1 = (p : Int) := ⟨rs[k].1.1.toNat, by have := HFX.out.1; omega⟩
          have hp24 : p < 24 := by have := HFX.out.1; omega
          have Xx := HX.out.only honx (.inr hgr)
          have x0 : wr.cell? ⟨wo.heap.size, 0, none⟩ = some (.int .i64 p) := by rw [← hpe]; exact Xx.cell 0
          clear hps Xx
          go_upto_region 8 with fail
          obtain ⟨wl, hwl⟩ : ∃ wl, wl = wr.alloc (Obj.cells #[Value.int .i64 rs[k].2[m].1, Value.int .i64 rs[k].2[m].2.1, Value.slice A5 rs[k].2[m].2.2.length c5] 55) := ⟨_, rfl⟩
          have bl : Below wr.heap.size wr wl := by rw [hwl]; exact below1 _ _
          have Y : Blk wl wr.heap.size 55 #[.int .i64 rs[k].2[m].1, .int .i64 rs[k].2[m].2.1, .slice A5 rs[k].2[m].2.2.length c5] := by rw [hwl]; exact Blk.new _ _ _
          rw [← hwl]
          clear hwl l0 l1 l2
          have e0 : wl.cell? ⟨wr.heap.size, 0, none⟩ = some (.int .i64 rs[k].2[m].1) := Y.cell 0
          have z0 : wl.drew.cell? ⟨wo.heap.size, 0, none⟩ = some (.int .i64 p) := (bl.cell (World.block_lt_of_cell? _ _ x0)).trans x0
          have HAL := Lib.hid (hax.below bl hax.1.lt)
          have HOL := Lib.hid (honx.trans (Only.of_below bl))
          have hpi : (p : Int) < 24 := by omega
          clear x0 hax honx
          by_cases hk0 : rs[k].2[m].1 = 0
          · obtain ⟨hx1, hx2⟩ : 0 ≤ rs[k].2[m].2.1 ∧ rs[k].2[m].2.1 < n := HFX.out.2 (.inl hk0)
            obtain ⟨q, hqe⟩ : ∃ q : Nat, rs[k].2[m].2.1 = (q : Int) := ⟨rs[k].2[m].2.1.toNat, by omega⟩
            have hq24 : q < 24 := by omega
            clear hx1 hx2
            have z1 : wl.drew.cell? ⟨wr.heap.size, 1, none⟩ = some (.int .i64 q) := by rw [← hqe]; exact Y.cell 1
            obtain ⟨y, hye⟩ : ∃ y, y = (askWords 0 ps).getD p 0 := ⟨_, rfl⟩
            have hy : y < 18446744073709551616 := by rw [hye, askWords_at hp24]; have := askMask_lt (i := p) hn (.inl rfl) HSUB.out; omega
            have z2 : wl.drew.cell? ⟨g, p, none⟩ = some (.int .u64 ((y : Nat) : Int)) := by rw [hye]; exact HAL.out.yes hp24
            have z3 : wl.drew.frozen? ⟨g, p, none⟩ = false := HAL.out.1.frozen p
            obtain ⟨mm, hmm⟩ : ∃ mm, mm = 2 ^ q := ⟨_, rfl⟩
            have hml : mm < 18446744073709551616 := by rw [hmm]; exact Nat.lt_of_lt_of_le (Nat.pow_lt_pow_right (by decide) hq24) (by decide)
            have hwr2 : IntKind.u64.wrap (2 ^ q) = (mm : Int) := by
              have e : ((2 : Int) ^ q) = ((mm : Nat) : Int) := by rw [hmm]; simp
              rw [e]
              unfold IntKind.wrap
              simp [IntKind.bits, IntKind.signed] <;> omega
            have hor : bits .or .u64 (y : Int) (mm : Int) = ((y ||| mm : Nat) : Int) := u64_or_nat y mm hy hml
            have HN := Lib.hid (show AskAt (wl.setCell ⟨g, p, none⟩ (.int .u64 ((y ||| mm : Nat) : Int))).drew g (askWords 0 (ps ++ [(rs[k].1.1, rs[k].2[m])])) (askWords 1 (ps ++ [(rs[k].1.1, rs[k].2[m])])) from by
              rw [askWords_yes (x := (rs[k].1.1, rs[k].2[m])) hk0 hpe, askWords_no (x := (rs[k].1.1, rs[k].2[m])) (by show rs[k].2[m].1 ≠ 1; omega), hye, askWords_at hp24, hmm]
              show AskAt _ g ((askWords 0 ps).set p (askMask 0 ps p ||| 2 ^ rs[k].2[m].2.1.toNat)) _
              rw [hqe]
              exact (HAL.out.setYes hp24).drewn)
            have hb0 : (rs[k].2[m].1 == 0) = true := by simp [hk0]
            clear hye hmm hk0 hqe hpe Y
            go_upto_region 10 with fail
            go_region_law (fail)
            all_goals
              go_wp2_with fail
              go_roundw
              case rel => exact ⟨m + 1, by omega, by go_num, by rw [HPS.out]; exact HN.out, (HOL.out.setCell ⟨Nat.le_refl g, Nat.lt_succ_self g⟩ _).drewn⟩
              case measure => simp [intOf]; omega
          · have hb0 : (rs[k].2[m].1 == 0) = false := by simp [hk0]
            by_cases hk1 : rs[k].2[m].1 = 1
            · obtain ⟨hx1, hx2⟩ : 0 ≤ rs[k].2[m].2.1 ∧ rs[k].2[m].2.1 < n := HFX.out.2 (.inr hk1)
              obtain ⟨q, hqe⟩ : ∃ q : Nat, rs[k].2[m].2.1 = (q : Int) := ⟨rs[k].2[m].2.1.toNat, by omega⟩
              have hq24 : q < 24 := by omega
              clear hx1 hx2
              have z1 : wl.drew.cell? ⟨wr.heap.size, 1, none⟩ = some (.int .i64 q) := by rw [← hqe]; exact Y.cell 1
              obtain ⟨y, hye⟩ : ∃ y, y = (askWords 1 ps).getD p 0 := ⟨_, rfl⟩
              have hy : y < 18446744073709551616 := by rw [hye, askWords_at hp24]; have := askMask_lt (i := p) hn (.inr rfl) HSUB.out; omega
              have z2 : wl.drew.cell? ⟨g, 24 + p, none⟩ = some (.int .u64 ((y : Nat) : Int)) := by rw [hye]; exact HAL.out.no hp24
              have z3 : wl.drew.frozen? ⟨g, 24 + p, none⟩ = false := HAL.out.1.frozen (24 + p)
              obtain ⟨mm, hmm⟩ : ∃ mm, mm = 2 ^ q := ⟨_, rfl⟩
              have hml : mm < 18446744073709551616 := by rw [hmm]; exact Nat.lt_of_lt_of_le (Nat.pow_lt_pow_right (by decide) hq24) (by decide)
              have hwr2 : IntKind.u64.wrap (2 ^ q) = (mm : Int) := by
                have e : ((2 : Int) ^ q) = ((mm : Nat) : Int) := by rw [hmm]; simp
                rw [e]
                unfold IntKind.wrap
                simp [IntKind.bits, IntKind.signed] <;> omega
              have hor : bits .or .u64 (y : Int) (mm : Int) = ((y ||| mm : Nat) : Int) := u64_or_nat y mm hy hml
              have HN := Lib.hid (show AskAt (wl.setCell ⟨g, 24 + p, none⟩ (.int .u64 ((y ||| mm : Nat) : Int))).drew g (askWords 0 (ps ++ [(rs[k].1.1, rs[k].2[m])])) (askWords 1 (ps ++ [(rs[k].1.1, rs[k].2[m])])) from by
                rw [askWords_no (x := (rs[k].1.1, rs[k].2[m])) (show rs[k].2[m].1 ≠ 0 from hk0), askWords_yes (kd := 1) (x := (rs[k].1.1, rs[k].2[m])) hk1 hpe, hye, askWords_at hp24, hmm]
                show AskAt _ g _ ((askWords 1 ps).set p (askMask 1 ps p ||| 2 ^ rs[k].2[m].2.1.toNat))
                rw [hqe]
                exact (HAL.out.setNo hp24).drewn)
              have hb1 : (rs[k].2[m].1 == 1) = true := by simp [hk1]
              clear hye hmm hk0 hk1 hqe hpe Y
              go_upto_region 12 with fail
              go_region_law (fail)
              all_goals
                go_wp2_with fail
                go_roundw
                case rel => exact ⟨m + 1, by omega, by go_num, by rw [HPS.out]; exact HN.out, (HOL.out.setCell ⟨Nat.le_refl g, Nat.lt_succ_self g⟩ _).drewn⟩
                case measure => simp [intOf]; omega
            · have hb1 : (rs[k].2[m].1 == 1) = false := by simp [hk1]
              have HN := Lib.hid (show AskAt wl g (askWords 0 (ps ++ [(rs[k].1.1, rs[k].2[m])])) (askWords 1 (ps ++ [(rs[k].1.1, rs[k].2[m])])) from by
                rw [askWords_no (x := (rs[k].1.1, rs[k].2[m])) (show rs[k].2[m].1 ≠ 0 from hk0), askWords_no (x := (rs[k].1.1, rs[k].2[m])) (show rs[k].2[m].1 ≠ 1 from hk1)]
                exact HAL.out)
              clear hk0 hk1 hpe Y
              go_wp2_with fail
              go_roundw
              case rel => exact ⟨m + 1, by omega, by go_num, by rw [HPS.out]; exact HN.out, HOL.out⟩
              case measure => simp [intOf]; omega
        · have HE := Lib.hid (show AskAt wr g (askWords 0 (asksOf (rs.take (k + 1)))) (askWords 1 (asksOf (rs.take (k + 1)))) from by
            rw [show m = rs[k].2.length by omega, List.take_length] at hax
            rw [asksOf_snoc rs k hlt]
            exact hax)
          have HO2 := Lib.hid (HON.out.trans ((Only.of_below HBV.out).trans honx))
          clear hax honx
          go_wp2_with fail
          go_roundw
          case rel => exact ⟨k + 1, by omega, by go_num, HE.out, HO2.out⟩
          case measure => simp [intOf]; omega
    · obtain rfl : k = rs.length := by omega
      rw [List.take_length] at hat
      obtain ⟨cs, hcs⟩ : ∃ cs, cs = askCells (askWords 0 (asksOf rs)) (askWords 1 (asksOf rs)) := ⟨_, rfl⟩
      have G := hat.1
      rw [← hcs] at G
      have RR := HR0.out.only hon (.inl (by have := HGE.out; omega))
      have hcz : cs.size = 48 := by rw [hcs]; simp [askCells, askWords_len]
      have HONE := Lib.hid (show cs.all (·.oneCell') = true from by
        rw [hcs]
        unfold askCells
        rw [List.all_toArray, List.all_map, List.all_eq_true]
        intro x _
        rfl)
      have hsi : (Tryd.prog.info? 70).map (·.size) = some cs.size := by rw [hcz]; kernel_rfl
      have HOLD := Lib.hid (show (askCells zeroA zeroA).size = cs.size by rw [hcz]; rfl)
      have HBE := Lib.hid BW
      have HSI := Lib.hid hsi
      have HBK := Lib.hid G
      have HRR := Lib.hid RR.1
      have HCS := Lib.hid hcs
      clear hat hon hcs hcz hsi G RR
      go_wp2_with (first
        | (refine wpList_load_row rfl 70 _ rfl g rfl 70 cs (0, 0) _ HBK.out Tryd.underlying70 rfl HSI.out ?_)
        | (refine wpList_store_row rfl 70 _ _ rfl w.heap.size cs rfl rfl 70 (askCells zeroA zeroA) HRR.out HSI.out HOLD.out HONE.out ?_))
      refine bodyPost_ret_by (v := .agg cs) (results_cell_row Tryd.results46 _ _ w.heap.size _ cs (0, 0) _ rfl (setRow_heap _ _ _ cs _ _ HRR.out) Tryd.underlying70 rfl HSI.out) rfl ?_
      exact ⟨by rw [HCS.out], below_setRow HBE.out (Nat.le_refl _) _⟩

end Go.Proofs.YtokmmloakahkhaaDoor
/-
  Marks on rules and programs that are not read again: markRuleS, markProgram.
-/
namespace Go.Proofs.YtokmmloakahkhaaDoor
open Go.RowKit

theorem endR_le (k : Int) (r : LRule) : k ≤ endR k r ∧ endR k r ≤ k + 2 * (szR r : Int) := by
  unfold endR endL szR
  omega
theorem totR_take_le (rs : List LRule) (j : Nat) : totR (rs.take j) ≤ totR rs := by
  have := congrArg (fun l => (l.map szR).sum) (List.take_append_drop j rs)
  simp only [List.map_append, List.sum_append] at this
  unfold totR
  omega

end Go.Proofs.YtokmmloakahkhaaDoor
/-
  What comes in, its lengths.
-/
namespace Go.Proofs.YtokmmloakahkhaaDoor
open Go.RowKit

theorem ruleLens_in {r : LRule} (h : ruleFitsIn r) : ruleLens r := by
  obtain ⟨h1, h2, h3⟩ := h
  unfold maxLen at *
  exact ⟨by omega, by omega, fun k hk => by have := h3 k hk; omega⟩
theorem progLens_in {p : LProg} (h : p.1.length ≤ maxLen ∧ p.2.length ≤ maxLen ∧ ∀ k (h : k < p.2.length), ruleFitsIn p.2[k]) : progLens p := by
  obtain ⟨h1, h2, h3⟩ := h
  refine ⟨?_, ?_, fun k hk => ruleLens_in (h3 k hk)⟩ <;> (unfold maxLen at *; omega)

end Go.Proofs.YtokmmloakahkhaaDoor
/-
  Programs that a call has made, and their sizes and marks, in the one form that the laws' walks ask.
-/
namespace Go.Proofs.YtokmmloakahkhaaDoor
open Go.RowKit

/-- A program whose two rows stand in blocks from lo on and below hi. -/
def OwnProg (w : World) (lo hi : Nat) (v : Value) (p : LProg) : Prop := ∃ a b, v = .agg #[a, b] ∧ OwnInts w lo hi a p.1 ∧ OwnRules w lo hi b p.2
theorem RdProg.more {w : World} {B B' : Nat} {v : Value} {p : LProg} (h : RdProg w B v p) (hB : B ≤ B') : RdProg w B' v p := by
  obtain ⟨a, b, rfl, h1, h2⟩ := h
  exact ⟨a, b, rfl, h1.more hB, h2.more hB⟩
theorem OwnProg.below {w w' : World} {lo hi B : Nat} {v : Value} {p : LProg} (h : OwnProg w lo hi v p) (hb : Below B w w') (hB : hi ≤ B) : OwnProg w' lo hi v p := by
  obtain ⟨a, b, rfl, h1, h2⟩ := h
  exact ⟨a, b, rfl, h1.below hb hB, h2.below hb hB⟩
theorem OwnProg.only {w w' : World} {lo hi lo' hi' : Nat} {v : Value} {p : LProg} (h : OwnProg w lo hi v p) (ho : Only lo' hi' w w') (hd : hi ≤ lo' ∨ hi' ≤ lo) (hh : hi ≤ w.heap.size) : OwnProg w' lo hi v p := by
  obtain ⟨a, b, rfl, h1, h2⟩ := h
  exact ⟨a, b, rfl, h1.only ho hd, h2.keep fun g h3 h4 => ho.block g (by omega) (by omega)⟩
theorem OwnProg.rd {w : World} {lo hi : Nat} {v : Value} {p : LProg} (h : OwnProg w lo hi v p) : RdProg w hi v p := by
  obtain ⟨a, b, rfl, h1, h2⟩ := h
  exact ⟨a, b, rfl, h1.rd, h2.rd⟩

end Go.Proofs.YtokmmloakahkhaaDoor
/-
  Rows of links: one that is read, one of the call's own; the walk of the program's LinksOf.
-/
namespace Go.Proofs.YtokmmloakahkhaaDoor
open Go.RowKit

theorem Tryd.infoLink : (Tryd.prog.info? 37).map (fun i => (i.zero, i.size, i.bytes)) = some (some (.agg #[.int .i64 0, .int .i64 0, .bool false]), 3, 24) := by kernel_rfl

def flatK (ls : List LLink) : List Value := ls.flatMap fun l => [.int .i64 l.1, .int .i64 l.2.1, .bool l.2.2]
theorem flatK_snoc (ls : List LLink) (l : LLink) : flatK (ls ++ [l]) = flatK ls ++ [.int .i64 l.1, .int .i64 l.2.1, .bool l.2.2] := by simp [flatK]
theorem flatK_at : ∀ (ls : List LLink) (k : Nat) (hk : k < ls.length), (flatK ls)[k * 3]? = some (.int .i64 ls[k].1) ∧ (flatK ls)[k * 3 + 1]? = some (.int .i64 ls[k].2.1) ∧ (flatK ls)[k * 3 + 2]? = some (.bool ls[k].2.2)
  | [], k, hk => absurd hk (by simp)
  | l :: ls, 0, _ => by simp [flatK]
  | l :: ls, k + 1, hk => by
    have := flatK_at ls k (by simpa using hk)
    have e : flatK (l :: ls) = .int .i64 l.1 :: .int .i64 l.2.1 :: .bool l.2.2 :: flatK ls := rfl
    rw [e]
    simpa [Nat.add_mul] using this

/-- A link, as three cells read. -/
def QLink (_ : World) (_ : Nat) (u0 u1 u2 : Value) (l : LLink) : Prop := u0 = .int .i64 l.1 ∧ u1 = .int .i64 l.2.1 ∧ u2 = .bool l.2.2
def RdLinks (w : World) (B : Nat) (v : Value) (ls : List LLink) : Prop := RdRow QLink w B v ls
def OwnLinks (w : World) (lo hi : Nat) (v : Value) (ls : List LLink) : Prop := w.ownsRow lo 37 3 v ls.length (flatK ls) ∧ ∀ g, v.ownBlock = some g → g < hi
section
variable {w w' : World} {lo hi lo' hi' B B' : Nat} {v : Value} {ls : List LLink}
theorem RdLinks.below (h : RdLinks w B v ls) (hb : Below B' w w') (hB : B ≤ B') : RdLinks w' B v ls := RdRow.below (Q := QLink) (by intro u0 u1 u2 x q; exact q) h hb hB
theorem RdLinks.more (h : RdLinks w B v ls) (hB : B ≤ B') : RdLinks w B' v ls := RdRow.more (Q := QLink) (by intro u0 u1 u2 x q; exact q) h hB
theorem RdLinks.on (h : RdLinks w w.heap.size v ls) (hb : Below w.heap.size w w') : RdLinks w' w'.heap.size v ls := (h.below hb (Nat.le_refl _)).more hb.size
theorem OwnLinks.rd (h : OwnLinks w lo hi v ls) : RdLinks w hi v ls := by
  obtain ⟨h, hlt⟩ := h
  have hcells := @World.ownsRow.cells w lo 37 3 v ls.length (flatK ls) h
  obtain ⟨hlen, h⟩ := h
  rcases h with ⟨rfl, h0⟩ | ⟨g, cap, cur, rfl, hb, hg, hn, hm, hs, ht⟩
  · have : ls = [] := List.eq_nil_of_length_eq_zero h0
    subst this
    exact ⟨none, 0, rfl, by simp, fun h => absurd h (by simp)⟩
  · refine ⟨_, cap, rfl, hn, fun _ => ⟨g, 0, rfl, hlt g rfl, fun k hk => ?_⟩⟩
    obtain ⟨c0, c1, c2⟩ := flatK_at ls k hk
    have d0 := hcells (g := g) rfl _ _ c0
    have d1 := hcells (g := g) rfl _ _ c1
    have d2 := hcells (g := g) rfl _ _ c2
    rw [Go.WideShapes.add_plain] at d0 d1 d2
    exact ⟨_, _, _, d0, d1, d2, rfl, rfl, rfl⟩
theorem OwnLinks.below (h : OwnLinks w lo hi v ls) (hb : Below B w w') (hB : hi ≤ B) : OwnLinks w' lo hi v ls := ⟨ownsRow_only h.1 fun g hg => hb.block g (by have := h.2 g hg; omega), h.2⟩
theorem OwnLinks.mono (h : OwnLinks w lo hi v ls) (h1 : lo' ≤ lo) (h2 : hi ≤ hi') : OwnLinks w lo' hi' v ls := by
  obtain ⟨⟨hlen, h⟩, hlt⟩ := h
  refine ⟨⟨hlen, ?_⟩, fun g hg => by have := hlt g hg; omega⟩
  rcases h with h | ⟨g, cap, cur, rfl, hbg, r⟩
  · exact .inl h
  · exact .inr ⟨g, cap, cur, rfl, by omega, r⟩
theorem OwnLinks.only (h : OwnLinks w lo hi v ls) (ho : Only lo' hi' w w') (hd : hi ≤ lo' ∨ hi' ≤ lo) : OwnLinks w' lo hi v ls :=
  ⟨ownsRow_only h.1 fun g hg => ho.block g (h.1.lt g hg).2 (by have := h.1.lt g hg; have := h.2 g hg; omega), h.2⟩
theorem OwnLinks.form (h : OwnLinks w lo hi v ls) : ∃ A c, v = .slice A ls.length c := by
  rcases h.1.2 with ⟨rfl, h0⟩ | ⟨g, cap, _, rfl, _⟩
  · exact ⟨none, 0, by rw [h0]⟩
  · exact ⟨_, _, rfl⟩
end

/-- The relation of a loop that collects links: the row lies from lo on. -/
structure ColK (lo : Nat) (wr : World) (ls : List LLink) (A : Option Addr) (c : Nat) : Prop where
  own : OwnLinks wr lo wr.heap.size (.slice A ls.length c) ls
theorem ColK.nil (lo : Nat) (w : World) : ColK lo w [] none 0 := ⟨⟨by simpa [flatK] using World.ownsRow_nil w lo 37 3, fun g hg => by cases hg⟩⟩
theorem ColK.empty {lo : Nat} {w : World} (h : lo ≤ w.heap.size) : ColK lo (w.alloc (.cells #[] 37)) [] (some ⟨w.heap.size, 0, none⟩) 0 :=
  ⟨⟨World.ownsRow_made w #[] 0 h (by decide) rfl, fun g hg => by simp [Value.ownBlock] at hg; subst hg; simp⟩⟩
theorem ColK.on {lo : Nat} {wr w2 : World} {ls : List LLink} {A : Option Addr} {c : Nat} (h : ColK lo wr ls A c) (hb : Below wr.heap.size wr w2) : ColK lo w2 ls A c := ⟨(h.own.below hb (Nat.le_refl _)).mono (Nat.le_refl _) hb.size⟩
theorem ColK.push {lo : Nat} {w4 : World} {ls : List LLink} {g cap : Nat} {l : LLink}
    (hown : w4.ownsRow lo 37 3 (.slice (some ⟨g, 0, none⟩) (ls.length + 1) cap) (ls.length + 1) (flatK ls ++ [.int .i64 l.1, .int .i64 l.2.1, .bool l.2.2])) :
    ColK lo w4 (ls ++ [l]) (some ⟨g, 0, none⟩) cap := by
  have hl : (ls ++ [l]).length = ls.length + 1 := by simp
  refine ⟨?_⟩
  rw [hl]
  refine ⟨?_, fun b hb' => (hown.lt b hb').2⟩
  rw [hl, flatK_snoc]
  exact hown
theorem news3 (w : World) (x y z : Value) (t : TypeId) (n : Nat) (hn : w.heap.size = n) : ∀ j u, [x, y, z][j]? = some u → (w.alloc (.cells #[x, y, z] t)).cell? ((⟨n, 0, none⟩ : Addr).add j) = some u := hn ▸ World.news_of_block (cs := #[x, y, z]) (heap_alloc_new w _)

theorem int_ne_link {w : World} {base n lo hi g : Nat} {v a : Value} {zs : List Value} {xs : List Int} (hr : w.ownsRow base 37 3 v n zs) (hv : v.ownBlock = some g) (ha : OwnInts w lo hi a xs) : a.ownBlock ≠ some g := by
  rcases hr.2 with ⟨rfl, _⟩ | ⟨g1, c1, cur1, rfl, _, h1, _⟩
  · cases hv
  · have e : g1 = g := by simpa [Value.ownBlock] using hv
    subst e
    rcases ha.1.2 with ⟨rfl, _⟩ | ⟨g2, c2, cur2, rfl, _, h2, _⟩
    · simp [Value.ownBlock]
    · intro e
      have e : g2 = g1 := by simpa [Value.ownBlock] using e
      subst e
      rw [h1] at h2
      injection h2 with h2
      injection h2 with _ h2
      exact absurd h2 (by decide)
/-- One more link: what lies below stays, and so does a row of integers. -/
theorem ColK.more {lo : Nat} {w2 wr w4 : World} {ls : List LLink} {A : Option Addr} {c g cap lb hb : Nat} {l : LLink} {vb : Value} {xs : List Int} {o : Obj} (h : ColK lo wr ls A c) (hbe : Below lo w2 wr) (hlo : lo ≤ wr.heap.size) (hx : OwnInts wr lb hb vb xs)
    (hg : (wr.alloc o).grownBy w4 (Value.slice A ls.length c).ownBlock)
    (hown : w4.ownsRow lo 37 3 (.slice (some ⟨g, 0, none⟩) (ls.length + 1) cap) (ls.length + 1) (flatK ls ++ [.int .i64 l.1, .int .i64 l.2.1, .bool l.2.2])) :
    ColK lo w4 (ls ++ [l]) (some ⟨g, 0, none⟩) cap ∧ Below lo w2 w4 ∧ OwnInts w4 lb hb vb xs ∧ wr.heap.size ≤ w4.heap.size := by
  have hg2 := grown_from_alloc hg
  exact ⟨ColK.push hown, hbe.grown hg2 hlo (fun k hk => (h.own.1.lt k hk).1), hx.kept fun b hb' => hg2.block b (hx.lt hb').2.2 (fun e => int_ne_link h.own.1 e.symm hx hb'), hg2.size⟩

end Go.Proofs.YtokmmloakahkhaaDoor
/-
  The walk of the program's LinksOf.
-/
namespace Go.Proofs.YtokmmloakahkhaaDoor
open Go.RowKit

theorem bitsN_len (x : Nat) : (bitsN x).length ≤ 64 := by
  unfold bitsN
  exact Nat.le_trans (List.length_filter_le _ _) (by simp)

set_option maxHeartbeats 4000000 in
set_option maxRecDepth 100000 in
theorem implLinksOf_any (v : Value) (p : LProg) (w : World) (h : RdProg w w.heap.size v p) (hs : szP p ≤ 1048576) (hT : Tab w) :
    Calls Tryd.prog 15 #[v] w fun e w' => ∃ A' c', e = .returned (.slice A' (linksOf p).length c') ∧ OwnLinks w' w.heap.size w'.heap.size (.slice A' (linksOf p).length c') (linksOf p) ∧ Below w.heap.size w w' := by
  obtain ⟨i0, hi0, hz0, hz1, hz2⟩ := info_parts Tryd.infoLink
  have HP := Lib.hid h
  have HT := Lib.hid hT
  have hs' := hs
  unfold szP at hs'
  obtain ⟨a, b, rfl, hA, hR⟩ := h
  have HR := Lib.hid hR
  obtain ⟨A, c, rfl, hcA, _⟩ := hA
  obtain ⟨A2, c2, rfl, hcR, _⟩ := hR
  clear hT
  obtain ⟨po, hpo⟩ : ∃ po, po = progOk p := ⟨_, rfl⟩
  go_enter Tryd.func15, Tryd.ntmps15
  go_upto_region 1 with fail
  obtain ⟨w1, hw1⟩ : ∃ w1, w1 = w.alloc (Obj.cells #[Value.slice A p.1.length c, Value.slice A2 p.2.length c2] 26) := ⟨_, rfl⟩
  have X1 : Blk w1 w.heap.size 26 #[.slice A p.1.length c, .slice A2 p.2.length c2] := by rw [hw1]; exact Blk.new _ _ _
  have B1 : Below w.heap.size w w1 := by rw [hw1]; exact below1 _ _
  rw [← hw1]
  clear hw1
  have x0 : w1.cell? ⟨w.heap.size, 0, none⟩ = some (.slice A p.1.length c) := X1.cell 0
  have x1 : w1.cell? ⟨w.heap.size, 1, none⟩ = some (.slice A2 p.2.length c2) := X1.cell 1
  have CP := Lib.hid ((implProgramOk_any _ p w1 (HP.out.on B1) hs).mono fun e w' (hh : e = .returned (.bool (progOk p)) ∧ Below w1.heap.size w1 w') => (⟨by rw [hh.1, hpo], hh.2⟩ : e = .returned (.bool po) ∧ Below w1.heap.size w1 w'))
  have HPO := Lib.hid hpo
  have HX1 := Lib.hid X1
  clear hpo X1
  cases po
  · go_wp2_with (go_at_call 12; refine CP.out.mono ?_; rintro e w2 ⟨rfl, b2⟩; have B2 := Lib.hid (bthen B1 b2); clear b2)
    go_ret
    have e : linksOf p = [] := by unfold linksOf; rw [← HPO.out]; rfl
    rw [e]
    exact ⟨none, 0, rfl, ⟨by simpa [flatK] using World.ownsRow_nil _ _ 37 3, fun g hg => by cases hg⟩, B2.out⟩
  obtain ⟨hn24, hfit⟩ := asksOf_fits HPO.out.symm
  have HFIT := Lib.hid hfit
  have HRL := Lib.hid (show ∀ r ∈ p.2, r.2.length ≤ 1048576 from fun r hr => by
    obtain ⟨k, hk, rfl⟩ := List.getElem_of_mem hr
    have := sz_le_totR p.2 k hk
    unfold szR at this
    omega)
  obtain ⟨ps, hps⟩ : ∃ ps, ps = asksOf p.2 := ⟨_, rfl⟩
  have HLK := Lib.hid (show linksOf p = linksL p.1.length p.1.length ps by unfold linksOf; rw [if_pos HPO.out.symm, hps])
  have CA := Lib.hid (fun W (hW : Below w.heap.size w W) => (askingOf_any (.slice A2 p.2.length c2) p.2 p.1.length W (HR.out.on hW) hn24 hfit (by omega) HRL.out).mono fun e w' (hh : e = .returned (.agg (askCells (askWords 0 (asksOf p.2)) (askWords 1 (asksOf p.2)))) ∧ Below W.heap.size W w') => (⟨by rw [hh.1, hps], hh.2⟩ : e = .returned (.agg (askCells (askWords 0 ps) (askWords 1 ps))) ∧ Below W.heap.size W w'))
  have HF := Lib.hid (show ∀ x ∈ ps, AskFits p.1.length x by rw [hps]; exact hfit)
  clear hfit hps
  go_upto_region 4 with (first
    | (go_at_call 12; refine CP.out.mono ?_; rintro e w2 ⟨rfl, b2⟩; have B2 := Lib.hid (bthen B1 b2)
       have HX2 := Lib.hid (HX1.out.below b2 HX1.out.lt)
       have x21 : w2.cell? ⟨w.heap.size, 1, none⟩ = some (.slice A2 p.2.length c2) := HX2.out.cell 1
       clear b2)
    | (go_at_call 46; refine (CA.out _ B2.out).mono ?_; rintro e w3 ⟨rfl, b3⟩; have B3 := Lib.hid (bthen B2.out b3)
       have HX3 := Lib.hid (HX2.out.below b3 HX2.out.lt)
       obtain ⟨cs, hcs⟩ : ∃ cs, cs = askCells (askWords 0 ps) (askWords 1 ps) := ⟨_, rfl⟩
       rw [← hcs]
       have HCZ := Lib.hid (show cs.size = 48 by rw [hcs]; simp [askCells, askWords_len])
       have HONE := Lib.hid (show cs.all (·.oneCell') = true by
         rw [hcs]
         unfold askCells
         rw [List.all_toArray, List.all_map, List.all_eq_true]
         intro x _
         rfl)
       have HSI := Lib.hid (show (Tryd.prog.info? 70).map (·.size) = some cs.size by rw [HCZ.out]; kernel_rfl)
       have HCS := Lib.hid hcs
       clear b3 hcs)
    | (refine wpList_store_row rfl 70 _ _ rfl w3.heap.size cs rfl rfl 70 _ (heap_alloc_new w3 _) HSI.out (by rw [HCZ.out]; rfl) HONE.out ?_))
  obtain ⟨zs, hzs⟩ : ∃ zs, zs = askCells zeroA zeroA := ⟨_, rfl⟩
  rw [show (#[Value.int IntKind.u64 0, Value.int IntKind.u64 0, Value.int IntKind.u64 0, Value.int IntKind.u64 0, Value.int IntKind.u64 0, Value.int IntKind.u64 0, Value.int IntKind.u64 0, Value.int IntKind.u64 0, Value.int IntKind.u64 0, Value.int IntKind.u64 0, Value.int IntKind.u64 0, Value.int IntKind.u64 0, Value.int IntKind.u64 0, Value.int IntKind.u64 0, Value.int IntKind.u64 0, Value.int IntKind.u64 0, Value.int IntKind.u64 0, Value.int IntKind.u64 0, Value.int IntKind.u64 0, Value.int IntKind.u64 0, Value.int IntKind.u64 0, Value.int IntKind.u64 0, Value.int IntKind.u64 0, Value.int IntKind.u64 0, Value.int IntKind.u64 0, Value.int IntKind.u64 0, Value.int IntKind.u64 0, Value.int IntKind.u64 0, Value.int IntKind.u64 0, Value.int IntKind.u64 0, Value.int IntKind.u64 0, Value.int IntKind.u64 0, Value.int IntKind.u64 0, Value.int IntKind.u64 0, Value.int IntKind.u64 0, Value.int IntKind.u64 0, Value.int IntKind.u64 0, Value.int IntKind.u64 0, Value.int IntKind.u64 0, Value.int IntKind.u64 0, Value.int IntKind.u64 0, Value.int IntKind.u64 0, Value.int IntKind.u64 0, Value.int IntKind.u64 0, Value.int IntKind.u64 0, Value.int IntKind.u64 0, Value.int IntKind.u64 0, Value.int IntKind.u64 0] : Array Value) = zs from by rw [hzs]; rfl]
  clear hzs
  obtain ⟨w5, hw5⟩ : ∃ w5, w5 = (w3.alloc (Obj.cells zs 70)).setRow w3.heap.size cs := ⟨_, rfl⟩
  obtain ⟨g, hg⟩ : ∃ g, g = w3.heap.size := ⟨_, rfl⟩
  have G5 : AskAt w5 g (askWords 0 ps) (askWords 1 ps) := by rw [hw5, hg]; refine ⟨?_, askWords_len _ _, askWords_len _ _⟩; rw [← HCS.out]; exact setRow_heap _ _ _ cs _ _ (heap_alloc_new w3 _)
  have b5 : Below w3.heap.size w3 w5 := by rw [hw5]; exact below_setRow (below1 _ _) (Nat.le_refl _) _
  have hs5 : w5.heap.size = w3.heap.size + 1 := by rw [hw5]; simp
  rw [← hw5, show w3.heap.size = g from hg.symm]
  have HX5 := Lib.hid (HX3.out.below b5 HX3.out.lt)
  have B5 := Lib.hid (bthen B3.out b5)
  have HA := Lib.hid G5
  have HGL := Lib.hid (show g < w5.heap.size by omega)
  have x50 : w5.cell? ⟨w.heap.size, 0, none⟩ = some (.slice A p.1.length c) := HX5.out.cell 0
  have hw5s := B5.out.size
  clear hw5 G5 b5 hs5 hg HX1 CP CA x0 x1
  obtain ⟨lo, hlo⟩ : ∃ lo, lo = w5.heap.size := ⟨_, rfl⟩
  rw [← hlo] at HGL hw5s
  have HTB := Lib.hid (fun W (hW : Below lo w5 W) => HT.out.below (B5.out.trans (hW.mono hw5s)))
  have HLO := Lib.hid hlo
  have hlw : lo ≤ w5.heap.size := by omega
  clear hlo
  go_wp2_with fail
  go_loopw [4, 17] (fun o i wr => ∃ (k : Nat) (A' : Option Addr) (c' : Nat), k ≤ p.1.length ∧ i = .int .i64 k ∧ o = .slice A' (linksL p.1.length k ps).length c' ∧ ColK lo wr (linksL p.1.length k ps) A' c' ∧ Below lo w5 wr ∧ lo ≤ wr.heap.size) (fun _ i _ => p.1.length - (intOf i).toNat)
  case atStart => exact ⟨0, none, 0, Nat.zero_le _, rfl, rfl, ColK.nil _ _, Below.refl _ _, by rw [HLO.out]; exact Nat.le_refl _⟩
  case round =>
    obtain ⟨k, A', c', hk, rfl, rfl, hcol, hbe, hsz⟩ := hrel
    have hll := linksL_len p.1.length k ps
    by_cases hlt : k < p.1.length
    · have hk24 : k < 24 := by omega
      obtain ⟨Y, hY⟩ : ∃ Y, Y = (askWords 0 ps).getD k 0 := ⟨_, rfl⟩
      obtain ⟨N, hN⟩ : ∃ N, N = (askWords 1 ps).getD k 0 := ⟨_, rfl⟩
      have hYm : Y = askMask 0 ps k := by rw [hY, askWords_at hk24]
      have hNm : N = askMask 1 ps k := by rw [hN, askWords_at hk24]
      have HYL := Lib.hid (show Y < 18446744073709551616 by rw [hYm]; have := askMask_lt (i := k) hn24 (.inl rfl) HF.out; omega)
      have HNL := Lib.hid (show N < 18446744073709551616 by rw [hNm]; have := askMask_lt (i := k) hn24 (.inr rfl) HF.out; omega)
      have HYN := Lib.hid (show Y ||| N < 18446744073709551616 by exact Nat.or_lt_two_pow (n := 64) HYL.out HNL.out)
      have CAL := Lib.hid (fun W (hW : AskAt W g (askWords 0 ps) (askWords 1 ps)) => askAll_any g k _ _ W hW hk24 (by rw [← hY]; exact HYL.out) (by rw [← hN]; exact HNL.out))
      rw [← hY, ← hN] at CAL
      obtain ⟨X, hX⟩ : ∃ X, X = Y ||| N := ⟨_, rfl⟩
      rw [← hX] at CAL HYN
      have CBN := Lib.hid (fun W (hW : Tab W) => bitNumbers_any X HYN.out W hW)
      obtain ⟨B, hB⟩ : ∃ B, B = bitsN X := ⟨_, rfl⟩
      have hBb : bitsOf X = B.map fun j : Nat => (j : Int) := by rw [hB]; rfl
      rw [hBb] at CBN
      have HBL := Lib.hid (show B.length ≤ 64 by rw [hB]; exact bitsN_len _)
      have HBM := Lib.hid (show ∀ x ∈ B, x < 64 by rw [hB]; exact fun x hx => (bitsN_mem.1 hx).1)
      have HFM := Lib.hid (show B.flatMap (linkAt ps k) = linksFrom p.1.length ps k by rw [hB, hX, hYm, hNm]; exact linksFrom_bits hn24 HF.out k)
      have HYB := Lib.hid (show ∀ x, Y.testBit x = asked 0 ps k x from fun x => by rw [Bool.eq_iff_iff, hYm]; exact has_mask (.inl rfl) k x ps HF.out)
      have HNB := Lib.hid (show ∀ x, N.testBit x = asked 1 ps k x from fun x => by rw [Bool.eq_iff_iff, hNm]; exact has_mask (.inr rfl) k x ps HF.out)
      have HY := Lib.hid hY
      have HN := Lib.hid hN
      have ha0 : AskAt wr g (askWords 0 ps) (askWords 1 ps) := HA.out.below hbe HGL.out
      have HA0 := Lib.hid ha0
      have HCOL := Lib.hid hcol
      have HBE := Lib.hid hbe
      have hml : (B.map fun j : Nat => (j : Int)).length = B.length := by simp
      have HML := Lib.hid hml
      clear hY hN hYm hNm hX hB hBb ha0 hcol hbe hml
      go_wp2_with (first
        | (go_at_call 47; refine (CAL.out _ HA0.out).mono ?_; rintro e w6 ⟨rfl, b6⟩; have H6 := Lib.hid b6; clear b6)
        | (go_at_call 39; refine (CBN.out _ (HTB.out _ (HBE.out.trans (H6.out.mono hsz)))).mono ?_; rintro e w7 ⟨Ab, cb, rfl, o7, b7⟩; rw [HML.out]; have H7 := Lib.hid (And.intro o7 b7); clear o7 b7))
      obtain ⟨o7, b7⟩ := H7.out
      rw [HML.out] at o7
      have b67 := bthen H6.out b7
      have hs7 := b67.size
      have HC := Lib.hid (And.intro (HCOL.out.on b67) (And.intro (HBE.out.trans (b67.mono hsz)) (And.intro o7 (Nat.le_trans hsz hs7))))
      clear o7 b7 b67 H6 H7
      obtain ⟨lb, hlb⟩ : ∃ lb, lb = w6.heap.size := ⟨_, rfl⟩
      rw [← hlb] at HC
      obtain ⟨hb, hhb⟩ : ∃ hb, hb = w7.heap.size := ⟨_, rfl⟩
      have HC := Lib.hid (show ColK lo w7 (linksL p.1.length k ps) A' c' ∧ Below lo w5 w7 ∧ OwnInts w7 lb hb (.slice Ab B.length cb) (B.map fun j : Nat => (j : Int)) ∧ lo ≤ w7.heap.size from hhb ▸ HC.out)
      clear hlb hhb
      rename World => w7'
      go_loopw [4, 24] (fun o i wr => ∃ (m : Nat) (X0 : List LLink) (A' : Option Addr) (c' : Nat), m ≤ B.length ∧ i = .int .i64 m ∧ o = .slice A' X0.length c' ∧ X0 = linksL p.1.length k ps ++ (B.take m).flatMap (linkAt ps k) ∧ ColK lo wr X0 A' c' ∧ Below lo w5 wr ∧ OwnInts wr lb hb (.slice Ab B.length cb) (B.map fun j : Nat => (j : Int)) ∧ lo ≤ wr.heap.size) (fun _ i _ => B.length - (intOf i).toNat)
      case atStart => exact ⟨0, linksL p.1.length k ps, A', c', Nat.zero_le _, rfl, rfl, by simp, HC.out⟩
      case round =>
        obtain ⟨m, X0, A', c', hm, rfl, rfl, hX0, hC⟩ := hrel
        have HC := Lib.hid hC
        have HX0 := Lib.hid hX0
        have hlX : X0.length ≤ k * (p.1.length * 2) + m * 2 := by
          have h1 := flatMap_len (linkAt_len ps k) (B.take m)
          rw [hX0, List.length_append]
          rw [List.length_take] at h1
          have h2 : min m B.length = m := by omega
          rw [h2] at h1
          omega
        have hlX2 : X0.length ≤ 1280 := by
          have h1 : k * (p.1.length * 2) ≤ 24 * 48 := Nat.mul_le_mul (by omega) (by omega)
          have := HBL.out
          omega
        clear hlX
        have hB64 := HBL.out
        by_cases hltm : m < B.length
        · obtain ⟨A7, c7, e7, _, hx⟩ := hC.2.2.1.rd
          injection e7 with e7 e9 e8
          clear e9
          subst e7 e8
          obtain ⟨b7, o7, rfl, _, hx⟩ := hx (by rw [HML.out]; omega)
          obtain ⟨b, hbe⟩ : ∃ b, b = B[m] := ⟨_, rfl⟩
          have hck : wr.cell? ⟨b7, o7 + m, none⟩ = some (.int .i64 b) := by
            have := hx m (by rw [HML.out]; exact hltm)
            rw [this, hbe]
            simp
          have hb64 : b < 64 := by rw [hbe]; exact HBM.out _ (List.getElem_mem hltm)
          have HT := Lib.hid (show linksL p.1.length k ps ++ (B.take (m + 1)).flatMap (linkAt ps k) = X0 ++ linkAt ps k b from by
            rw [take_snoc B m hltm, List.flatMap_append, ← List.append_assoc, ← hX0, hbe]; simp)
          have hq0 : wr.cell? ⟨g, k, none⟩ = some (.int .u64 ((Y : Nat) : Int)) := by rw [HY.out]; exact (HA.out.below hC.2.1 HGL.out).yes hk24
          have hs0 : wr.cell? ⟨g, 24 + k, none⟩ = some (.int .u64 ((N : Nat) : Int)) := by rw [HN.out]; exact (HA.out.below hC.2.1 HGL.out).no hk24
          have hki : (k : Int) < 24 := by omega
          clear hx hbe hX0 hC
          obtain ⟨a0, ha0⟩ : ∃ a, a = asked 0 ps k b := ⟨_, rfl⟩
          obtain ⟨a1, ha1⟩ : ∃ a, a = asked 1 ps k b := ⟨_, rfl⟩
          have HB0 := Lib.hid (show Y.testBit b = a0 by rw [HYB.out, ha0])
          have HB1 := Lib.hid (show N.testBit b = a1 by rw [HNB.out, ha1])
          have HA0 := Lib.hid ha0.symm
          have HA1 := Lib.hid ha1.symm
          clear ha0 ha1
          cases a0 <;> cases a1
          · go_wp2_with (first
              | (go_at_call 48; refine (hasBit_any _ _ HYL.out hb64 _).mono ?_; rw [HB0.out]; rintro e w' ⟨rfl, rfl⟩)
              | (go_at_call 48; refine (hasBit_any _ _ HNL.out hb64 _).mono ?_; rw [HB1.out]; rintro e w' ⟨rfl, rfl⟩))
            go_roundw
            case rel => exact ⟨m + 1, X0, A', c', by omega, by go_num, rfl, by rw [HT.out, linkAt, HA0.out, HA1.out]; simp, HC.out⟩
            case measure => simp [intOf]; omega
          · go_wp2_with (first
              | (go_at_call 48; refine (hasBit_any _ _ HYL.out hb64 _).mono ?_; rw [HB0.out]; rintro e w' ⟨rfl, rfl⟩)
              | (go_at_call 48; refine (hasBit_any _ _ HNL.out hb64 _).mono ?_; rw [HB1.out]; rintro e w' ⟨rfl, rfl⟩)
              | (at_builtin; refine wpList_append_lies _ rfl (.tmp 46) (.tmp 50) 34 rfl lo 37 i0 (.agg #[.int .i64 0, .int .i64 0, .bool false]) 3 24 Tryd.underlying34 hi0 hz0 hz1 hz2 rfl (by decide) (.slice A' X0.length c') X0.length (flatK X0) rfl ?c1 ⟨_, 0, none⟩ 1 1 [.int .i64 k, .int .i64 b, .bool true] rfl rfl (news3 _ _ _ _ _ _ (by simp)) ?c2 (by omega) (by unfold maxLen; omega) (by omega) ?c3 _ rfl ?_))
            case c1 => exact HC.out.1.own.1.alloc _
            case c2 => intro u hu; simp at hu; rcases hu with rfl | rfl | rfl <;> rfl
            case c3 => have := HC.out.2.2.2; simp; omega
            intro g1 cap1 v1 hown1 hg1 _ _
            obtain ⟨r1, r2, r3, r4⟩ := ColK.more (l := ((k : Int), (b : Int), true)) HC.out.1 HC.out.2.1 HC.out.2.2.2 HC.out.2.2.1 hg1 hown1
            have HC1 := Lib.hid (And.intro r1 (And.intro r2 (And.intro r3 (Nat.le_trans HC.out.2.2.2 r4))))
            have hq1 : v1.cell? ⟨g, k, none⟩ = some (.int .u64 ((Y : Nat) : Int)) := by rw [HY.out]; exact (HA.out.below r2 HGL.out).yes hk24
            have hs1 : v1.cell? ⟨g, 24 + k, none⟩ = some (.int .u64 ((N : Nat) : Int)) := by rw [HN.out]; exact (HA.out.below r2 HGL.out).no hk24
            obtain ⟨X1, hX1⟩ : ∃ X, X = X0 ++ [((k : Int), (b : Int), true)] := ⟨_, rfl⟩
            have hl1 : X0.length + 1 = X1.length := by rw [hX1]; simp
            rw [← hX1] at HC1
            rw [hl1]
            have hz1' : X1.length ≤ X0.length + 1 := by omega
            have HX1 := Lib.hid hX1
            clear hl1 hX1 r1 r2 r3 r4 hown1 hg1
            go_wp2_with (first
              | (go_at_call 48; refine (hasBit_any _ _ HYL.out hb64 _).mono ?_; rw [HB0.out]; rintro e w' ⟨rfl, rfl⟩)
              | (go_at_call 48; refine (hasBit_any _ _ HNL.out hb64 _).mono ?_; rw [HB1.out]; rintro e w' ⟨rfl, rfl⟩))
            go_roundw
            case rel => exact ⟨m + 1, X1, (some ⟨g1, 0, none⟩), cap1, by omega, by go_num, rfl, by rw [HT.out, HX1.out, linkAt, HA0.out, HA1.out]; simp, HC1.out⟩
            case measure => simp [intOf]; omega
          · go_wp2_with (first
              | (go_at_call 48; refine (hasBit_any _ _ HYL.out hb64 _).mono ?_; rw [HB0.out]; rintro e w' ⟨rfl, rfl⟩)
              | (go_at_call 48; refine (hasBit_any _ _ HNL.out hb64 _).mono ?_; rw [HB1.out]; rintro e w' ⟨rfl, rfl⟩)
              | (at_builtin; refine wpList_append_lies _ rfl (.tmp 34) (.tmp 38) 34 rfl lo 37 i0 (.agg #[.int .i64 0, .int .i64 0, .bool false]) 3 24 Tryd.underlying34 hi0 hz0 hz1 hz2 rfl (by decide) (.slice A' X0.length c') X0.length (flatK X0) rfl ?c1 ⟨_, 0, none⟩ 1 1 [.int .i64 k, .int .i64 b, .bool false] rfl rfl (news3 _ _ _ _ _ _ (by simp)) ?c2 (by omega) (by unfold maxLen; omega) (by omega) ?c3 _ rfl ?_))
            case c1 => exact HC.out.1.own.1.alloc _
            case c2 => intro u hu; simp at hu; rcases hu with rfl | rfl | rfl <;> rfl
            case c3 => have := HC.out.2.2.2; simp; omega
            intro g1 cap1 v1 hown1 hg1 _ _
            obtain ⟨r1, r2, r3, r4⟩ := ColK.more (l := ((k : Int), (b : Int), false)) HC.out.1 HC.out.2.1 HC.out.2.2.2 HC.out.2.2.1 hg1 hown1
            have HC1 := Lib.hid (And.intro r1 (And.intro r2 (And.intro r3 (Nat.le_trans HC.out.2.2.2 r4))))
            have hq1 : v1.cell? ⟨g, k, none⟩ = some (.int .u64 ((Y : Nat) : Int)) := by rw [HY.out]; exact (HA.out.below r2 HGL.out).yes hk24
            have hs1 : v1.cell? ⟨g, 24 + k, none⟩ = some (.int .u64 ((N : Nat) : Int)) := by rw [HN.out]; exact (HA.out.below r2 HGL.out).no hk24
            obtain ⟨X1, hX1⟩ : ∃ X, X = X0 ++ [((k : Int), (b : Int), false)] := ⟨_, rfl⟩
            have hl1 : X0.length + 1 = X1.length := by rw [hX1]; simp
            rw [← hX1] at HC1
            rw [hl1]
            have hz1' : X1.length ≤ X0.length + 1 := by omega
            have HX1 := Lib.hid hX1
            clear hl1 hX1 r1 r2 r3 r4 hown1 hg1
            go_wp2_with (first
              | (go_at_call 48; refine (hasBit_any _ _ HYL.out hb64 _).mono ?_; rw [HB0.out]; rintro e w' ⟨rfl, rfl⟩)
              | (go_at_call 48; refine (hasBit_any _ _ HNL.out hb64 _).mono ?_; rw [HB1.out]; rintro e w' ⟨rfl, rfl⟩))
            go_roundw
            case rel => exact ⟨m + 1, X1, (some ⟨g1, 0, none⟩), cap1, by omega, by go_num, rfl, by rw [HT.out, HX1.out, linkAt, HA0.out, HA1.out]; simp, HC1.out⟩
            case measure => simp [intOf]; omega
          · go_wp2_with (first
              | (go_at_call 48; refine (hasBit_any _ _ HYL.out hb64 _).mono ?_; rw [HB0.out]; rintro e w' ⟨rfl, rfl⟩)
              | (go_at_call 48; refine (hasBit_any _ _ HNL.out hb64 _).mono ?_; rw [HB1.out]; rintro e w' ⟨rfl, rfl⟩)
              | (at_builtin; refine wpList_append_lies _ rfl (.tmp 34) (.tmp 38) 34 rfl lo 37 i0 (.agg #[.int .i64 0, .int .i64 0, .bool false]) 3 24 Tryd.underlying34 hi0 hz0 hz1 hz2 rfl (by decide) (.slice A' X0.length c') X0.length (flatK X0) rfl ?c1 ⟨_, 0, none⟩ 1 1 [.int .i64 k, .int .i64 b, .bool false] rfl rfl (news3 _ _ _ _ _ _ (by simp)) ?c2 (by omega) (by unfold maxLen; omega) (by omega) ?c3 _ rfl ?_))
            case c1 => exact HC.out.1.own.1.alloc _
            case c2 => intro u hu; simp at hu; rcases hu with rfl | rfl | rfl <;> rfl
            case c3 => have := HC.out.2.2.2; simp; omega
            intro g1 cap1 v1 hown1 hg1 _ _
            obtain ⟨r1, r2, r3, r4⟩ := ColK.more (l := ((k : Int), (b : Int), false)) HC.out.1 HC.out.2.1 HC.out.2.2.2 HC.out.2.2.1 hg1 hown1
            have HC1 := Lib.hid (And.intro r1 (And.intro r2 (And.intro r3 (Nat.le_trans HC.out.2.2.2 r4))))
            have hq1 : v1.cell? ⟨g, k, none⟩ = some (.int .u64 ((Y : Nat) : Int)) := by rw [HY.out]; exact (HA.out.below r2 HGL.out).yes hk24
            have hs1 : v1.cell? ⟨g, 24 + k, none⟩ = some (.int .u64 ((N : Nat) : Int)) := by rw [HN.out]; exact (HA.out.below r2 HGL.out).no hk24
            obtain ⟨X1, hX1⟩ : ∃ X, X = X0 ++ [((k : Int), (b : Int), false)] := ⟨_, rfl⟩
            have hl1 : X0.length + 1 = X1.length := by rw [hX1]; simp
            rw [← hX1] at HC1
            rw [hl1]
            have hz1' : X1.length ≤ X0.length + 1 := by omega
            have HX1 := Lib.hid hX1
            clear hl1 hX1 r1 r2 r3 r4 hown1 hg1
            go_wp2_with (first
              | (go_at_call 48; refine (hasBit_any _ _ HYL.out hb64 _).mono ?_; rw [HB0.out]; rintro e w' ⟨rfl, rfl⟩)
              | (go_at_call 48; refine (hasBit_any _ _ HNL.out hb64 _).mono ?_; rw [HB1.out]; rintro e w' ⟨rfl, rfl⟩)
              | (at_builtin; refine wpList_append_lies _ rfl (.tmp 46) (.tmp 50) 34 rfl lo 37 i0 (.agg #[.int .i64 0, .int .i64 0, .bool false]) 3 24 Tryd.underlying34 hi0 hz0 hz1 hz2 rfl (by decide) (.slice (some ⟨g1, 0, none⟩) X1.length cap1) X1.length (flatK X1) rfl ?c1 ⟨_, 0, none⟩ 1 1 [.int .i64 k, .int .i64 b, .bool true] rfl rfl (news3 _ _ _ _ _ _ (by simp)) ?c2 (by omega) (by unfold maxLen; omega) (by omega) ?c3 _ rfl ?_))
            case c1 => exact HC1.out.1.own.1.alloc _
            case c2 => intro u hu; simp at hu; rcases hu with rfl | rfl | rfl <;> rfl
            case c3 => have := HC1.out.2.2.2; simp; omega
            intro g2 cap2 v2 hown2 hg2 _ _
            obtain ⟨r1, r2, r3, r4⟩ := ColK.more (l := ((k : Int), (b : Int), true)) HC1.out.1 HC1.out.2.1 HC1.out.2.2.2 HC1.out.2.2.1 hg2 hown2
            have HC2 := Lib.hid (And.intro r1 (And.intro r2 (And.intro r3 (Nat.le_trans HC1.out.2.2.2 r4))))
            have hq2 : v2.cell? ⟨g, k, none⟩ = some (.int .u64 ((Y : Nat) : Int)) := by rw [HY.out]; exact (HA.out.below r2 HGL.out).yes hk24
            have hs2 : v2.cell? ⟨g, 24 + k, none⟩ = some (.int .u64 ((N : Nat) : Int)) := by rw [HN.out]; exact (HA.out.below r2 HGL.out).no hk24
            obtain ⟨X2, hX2⟩ : ∃ X, X = X1 ++ [((k : Int), (b : Int), true)] := ⟨_, rfl⟩
            have hl2 : X1.length + 1 = X2.length := by rw [hX2]; simp
            rw [← hX2] at HC2
            rw [hl2]
            have hz2' : X2.length ≤ X1.length + 1 := by omega
            have HX2 := Lib.hid hX2
            clear hl2 hX2 r1 r2 r3 r4 hown2 hg2
            go_wp2_with (first
              | (go_at_call 48; refine (hasBit_any _ _ HYL.out hb64 _).mono ?_; rw [HB0.out]; rintro e w' ⟨rfl, rfl⟩)
              | (go_at_call 48; refine (hasBit_any _ _ HNL.out hb64 _).mono ?_; rw [HB1.out]; rintro e w' ⟨rfl, rfl⟩))
            go_roundw
            case rel => exact ⟨m + 1, X2, (some ⟨g2, 0, none⟩), cap2, by omega, by go_num, rfl, by rw [HT.out, HX2.out, HX1.out, linkAt, HA0.out, HA1.out]; simp, HC2.out⟩
            case measure => simp [intOf]; omega
        · have HE := Lib.hid (show X0 = linksL p.1.length (k + 1) ps from by rw [hX0, show m = B.length by omega, List.take_length, HFM.out, linksL_snoc])
          clear hX0 hC
          go_wp2_with fail
          go_roundw
          case rel => exact ⟨k + 1, A', c', by omega, by go_num, by rw [HE.out], by rw [← HE.out]; exact HC.out.1, HC.out.2.1, HC.out.2.2.2⟩
          case measure => simp [intOf]; omega
    · have hkn : k = p.1.length := by omega
      rw [hkn] at hcol
      have HO := Lib.hid (hcol.own.mono (Nat.le_trans hw5s (Nat.le_refl _)) (Nat.le_refl _))
      have HBE := Lib.hid (B5.out.trans (hbe.mono hw5s))
      rw [← HLK.out] at HO
      have HKE := Lib.hid (show linksL p.1.length k ps = linksOf p by rw [HLK.out, hkn])
      rw [HKE.out]
      clear hcol hbe hll hkn
      go_wp2_with fail
      go_ret
      exact ⟨A', c', rfl, HO.out, HBE.out⟩

end Go.Proofs.YtokmmloakahkhaaDoor
/-
  The specification's table of links: the walk of l5Links.
-/
namespace Go.Proofs.YtokmmloakahkhaaDoor
open Go.RowKit

/-- A square table of numbers: its rows lie behind its head, in their order. -/
structure GridAt (w : World) (g n : Nat) (T : Nat → Nat → Nat) : Prop where
  heads : w.rowIs g 23 n (fun i => .slice (some ⟨g + 1 + i, 0, none⟩) n n)
  rows : ∀ i, i < n → w.rowIs (g + 1 + i) 3 n (fun k => .int .i64 ((T i k : Nat) : Int))
section
variable {w w' : World} {g n lo hi B : Nat} {T T' : Nat → Nat → Nat}
theorem GridAt.cell (h : GridAt w g n T) {i k : Nat} (hi : i < n) (hk : k < n) : w.cell? ⟨g + 1 + i, k, none⟩ = some (.int .i64 ((T i k : Nat) : Int)) := (h.rows i hi).cell hk
theorem GridAt.head (h : GridAt w g n T) {i : Nat} (hi : i < n) : w.cell? ⟨g, i, none⟩ = some (.slice (some ⟨g + 1 + i, 0, none⟩) n n) := h.heads.cell hi
theorem GridAt.below (h : GridAt w g n T) (hb : Below B w w') (hg : g + 1 + n ≤ B) : GridAt w' g n T :=
  ⟨h.heads.of_block (hb.block g (by omega)), fun i hi => (h.rows i hi).of_block (hb.block _ (by omega))⟩
theorem GridAt.drewn (h : GridAt w g n T) : GridAt w.drew g n T := ⟨h.heads, h.rows⟩
theorem GridAt.set (h : GridAt w g n T) {i k x : Nat} (hi : i < n) (hT : ∀ a b, T' a b = if a = i ∧ b = k then x else T a b) : GridAt (w.setCell ⟨g + 1 + i, k, none⟩ (.int .i64 ((x : Nat) : Int))) g n T' := by
  refine ⟨h.heads.setOther (by show g ≠ g + 1 + i; omega) _, fun j hj => ?_⟩
  by_cases e : j = i
  · subst e
    refine ((h.rows j hj).set k (.int .i64 ((x : Nat) : Int))).congr fun b _ => ?_
    rw [hT]
    by_cases e2 : b = k <;> simp [e2]
  · refine ((h.rows j hj).setOther (by show g + 1 + j ≠ g + 1 + i; omega) _).congr fun b _ => ?_
    rw [hT, if_neg (fun h => e h.1)]
theorem GridAt.congr (h : GridAt w g n T) (e : ∀ i k, i < n → k < n → T i k = T' i k) : GridAt w g n T' := ⟨h.heads, fun i hi => (h.rows i hi).congr fun k hk => by rw [e i k hi hk]⟩
theorem GridAt.lt (h : GridAt w g n T) : g < w.heap.size := h.heads.lt
end

set_option maxHeartbeats 4000000 in
set_option maxRecDepth 100000 in
theorem l5Links_any (v : Value) (p : LProg) (w : World) (h : RdProg w w.heap.size v p) (hs : szP p ≤ 1048576) (hn : p.1.length ≤ 24) (hf : ∀ x ∈ asksOf p.2, AskFits p.1.length x) :
    Calls Tryd.prog 54 #[v] w fun e w' => ∃ g, e = .returned (.slice (some ⟨g, 0, none⟩) p.1.length p.1.length) ∧ GridAt w' g p.1.length (cellV (asksOf p.2)) ∧ w.heap.size ≤ g ∧ g + 1 + p.1.length ≤ w'.heap.size ∧ Below w.heap.size w w' := by
  have HP := Lib.hid h
  have HF := Lib.hid hf
  have hs' := hs
  unfold szP at hs'
  have HBL := Lib.hid (show ∀ r ∈ p.2, r.2.length ≤ 1048576 from fun r hr => by
    obtain ⟨k, hk, rfl⟩ := List.getElem_of_mem hr
    have := sz_le_totR p.2 k hk
    unfold szR at this
    omega)
  obtain ⟨a, b, rfl, hA, hR⟩ := h
  have HR := Lib.hid hR
  obtain ⟨A, c, rfl, hcA, _⟩ := hA
  obtain ⟨A2, c2, rfl, hcR, _⟩ := hR
  have hmk1 := fun W => run_make_row' (P := Tryd.prog) 43 23 (.slice none 0 0) 24 Tryd.underlying43 Tryd.infoIntS rfl .i64 .i64 p.1.length (by omega) (by omega) W
  have hmk2 := fun W => run_make_row' (P := Tryd.prog) 23 3 (.int .i64 0) 8 Tryd.underlying23 Tryd.infoInt rfl .i64 .i64 p.1.length (by omega) (by omega) W
  clear hf
  obtain ⟨n, hne⟩ : ∃ n, n = p.1.length := ⟨_, rfl⟩
  rw [← hne] at hmk1 hmk2 hn HF hs' hcA ⊢
  obtain ⟨rs, hrs⟩ : ∃ rs, rs = p.2 := ⟨_, rfl⟩
  rw [← hrs] at HF HBL HR hs' hcR ⊢
  clear hne hrs
  go_enter Tryd.func54, Tryd.ntmps54
  go_upto_region 1 with fail
  obtain ⟨w1, hw1⟩ : ∃ w1, w1 = w.alloc (Obj.cells #[Value.slice A n c, Value.slice A2 rs.length c2] 26) := ⟨_, rfl⟩
  have X1 : Blk w1 w.heap.size 26 #[.slice A n c, .slice A2 rs.length c2] := by rw [hw1]; exact Blk.new _ _ _
  have B1 : Below w.heap.size w w1 := by rw [hw1]; exact below1 _ _
  have hs1 : w1.heap.size = w.heap.size + 1 := by rw [hw1]; simp
  rw [← hw1]
  have x0 : w1.cell? ⟨w.heap.size, 0, none⟩ = some (.slice A n c) := X1.cell 0
  clear hw1
  go_upto_region 2 with fail
  obtain ⟨g, hg⟩ : ∃ g, g = w.heap.size + 1 := ⟨_, rfl⟩
  obtain ⟨w2, hw2⟩ : ∃ w2, w2 = w1.alloc (Obj.cells (madeCells #[Value.slice none 0 0] n) 23) := ⟨_, rfl⟩
  have R2 : w2.rowIs g 23 n (fun _ => .slice none 0 0) := by rw [hw2, hg, ← hs1]; exact World.rowIs_made _ _ _ _
  have B2 : Below w.heap.size w w2 := by rw [hw2]; exact bthen B1 (below1 _ _)
  have hs2 : w2.heap.size = g + 1 := by rw [hw2, hg]; simp [hs1]
  have X2 : Blk w2 w.heap.size 26 #[.slice A n c, .slice A2 rs.length c2] := by rw [hw2]; exact X1.alloc _
  rw [← hw2, show w.heap.size + 1 = g from hg.symm]
  have hgw : w.heap.size < g := by omega
  have HS2 := Lib.hid hs2
  have HR2 := Lib.hid R2
  have HX2 := Lib.hid X2
  have HB2 := Lib.hid B2
  clear hw2 hg hs1 R2 X2 B2 X1 B1 hs2 hmk1 x0
  go_wp2_with fail
  go_loopw [4] (fun i wr => ∃ k : Nat, k ≤ n ∧ i = .int .i64 k ∧ wr.rowIs g 23 n (fun j => if j < k then .slice (some ⟨g + 1 + j, 0, none⟩) n n else .slice none 0 0) ∧ (∀ j, j < k → wr.rowIs (g + 1 + j) 3 n (fun _ => .int .i64 0)) ∧ wr.heap.size = g + 1 + k ∧ Below w.heap.size w wr ∧ Blk wr w.heap.size 26 #[.slice A n c, .slice A2 rs.length c2]) (fun i _ => n - (intOf i).toNat)
  case atStart => exact ⟨0, Nat.zero_le _, rfl, HR2.out.congr (fun j _ => by simp), fun j h => absurd h (Nat.not_lt_zero _), HS2.out, HB2.out, HX2.out⟩
  case round =>
    obtain ⟨k, hk, rfl, hr, hrows, hsz, hbe, hX⟩ := hrel
    have q0 : wr.cell? ⟨w.heap.size, 0, none⟩ = some (.slice A n c) := hX.cell 0
    by_cases hlt : k < n
    · have hck := hr.cell hlt
      rw [if_neg (Nat.lt_irrefl k)] at hck
      have hfk := hr.frozen k
      have hck3 : (wr.alloc (Obj.cells (madeCells #[Value.int .i64 0] n) 3)).cell? ⟨g, k, none⟩ = some (.slice none 0 0) := ((below1 wr _).cell (p := ⟨g, k, none⟩) (by show g < _; omega)).trans hck
      have hfk3 : (wr.alloc (Obj.cells (madeCells #[Value.int .i64 0] n) 3)).frozen? ⟨g, k, none⟩ = false := (hr.alloc _).frozen k
      have HN := Lib.hid (show ((wr.alloc (Obj.cells (madeCells #[Value.int .i64 0] n) 3)).setCell ⟨g, k, none⟩ (.slice (some ⟨g + 1 + k, 0, none⟩) n n)).rowIs g 23 n (fun j => if j < k + 1 then .slice (some ⟨g + 1 + j, 0, none⟩) n n else .slice none 0 0) ∧ (∀ j, j < k + 1 → ((wr.alloc (Obj.cells (madeCells #[Value.int .i64 0] n) 3)).setCell ⟨g, k, none⟩ (.slice (some ⟨g + 1 + k, 0, none⟩) n n)).rowIs (g + 1 + j) 3 n (fun _ => .int .i64 0)) ∧ ((wr.alloc (Obj.cells (madeCells #[Value.int .i64 0] n) 3)).setCell ⟨g, k, none⟩ (.slice (some ⟨g + 1 + k, 0, none⟩) n n)).heap.size = g + 1 + (k + 1) ∧ Below w.heap.size w ((wr.alloc (Obj.cells (madeCells #[Value.int .i64 0] n) 3)).setCell ⟨g, k, none⟩ (.slice (some ⟨g + 1 + k, 0, none⟩) n n)) ∧ Blk ((wr.alloc (Obj.cells (madeCells #[Value.int .i64 0] n) 3)).setCell ⟨g, k, none⟩ (.slice (some ⟨g + 1 + k, 0, none⟩) n n)) w.heap.size 26 #[.slice A n c, .slice A2 rs.length c2] from by
        refine ⟨((hr.alloc _).set k _).congr fun j hj => ?_, fun j hj => ?_, by simp [hsz]; omega, (hbe.alloc hbe.size _).setCell (by show w.heap.size ≤ g; omega) _, (hX.alloc _).far (by show w.heap.size ≠ g; omega) _⟩
        · by_cases e : j = k
          · subst e
            simp
          · rw [if_neg e]
            by_cases e2 : j < k
            · rw [if_pos e2, if_pos (by omega)]
            · rw [if_neg e2, if_neg (by omega)]
        · by_cases e : j = k
          · subst e
            have h1 := World.rowIs_made wr (.int .i64 0) n 3
            rw [hsz] at h1
            exact h1.setOther (by show g + 1 + j ≠ g; omega) _
          · exact ((hrows j (by omega)).alloc _).setOther (by show g + 1 + j ≠ g; omega) _)
      have hwsz : wr.heap.size = g + 1 + k := hsz
      clear hr hrows hbe hX hck hfk
      go_wp2_with fail
      go_roundw
      case rel => exact ⟨k + 1, by omega, by go_num, HN.out⟩
      case measure => simp [intOf]; omega
    · have HG := Lib.hid (show GridAt wr g n (cellV []) ∧ wr.heap.size = g + 1 + n ∧ Below w.heap.size w wr ∧ Blk wr w.heap.size 26 #[.slice A n c, .slice A2 rs.length c2] from by
        obtain rfl : k = n := by omega
        exact ⟨⟨hr.congr fun j hj => by rw [if_pos hj], fun j hj => hrows j hj⟩, hsz, hbe, hX⟩)
      clear hr hrows hbe hX hsz q0
      go_upto_region 6 with fail
      obtain ⟨G3, hsz3, BW3, X3⟩ := HG.out
      obtain ⟨w3, rfl⟩ : ∃ w3, w3 = wr := ⟨_, rfl⟩
      have HX3 := Lib.hid X3
      have HBW3 := Lib.hid BW3
      have HSZ3 := Lib.hid hsz3
      clear X3 BW3 hsz3 HG
      have HG3 := Lib.hid G3
      clear G3
      go_wp2_with fail
      go_loopw [5] (fun i wr => ∃ k : Nat, k ≤ rs.length ∧ i = .int .i64 k ∧ GridAt wr g n (cellV (asksOf (rs.take k))) ∧ Only g (g + 1 + n) w3 wr) (fun i _ => rs.length - (intOf i).toNat)
      case atStart => exact ⟨0, Nat.zero_le _, rfl, by simpa [asksOf] using HG3.out, Only.refl _ _ _⟩
      case round =>
        obtain ⟨k, hk, rfl, hat, hon⟩ := hrel
        have hs3 := HSZ3.out
        have BW : Below w.heap.size w wr := Only.then_ HBW3.out hon (by omega)
        have HON := Lib.hid hon
        have hsz0 := hon.size
        have q1 : wr.cell? ⟨w.heap.size, 1, none⟩ = some (.slice A2 rs.length c2) := (HX3.out.only hon (.inl hgw)).cell 1
        by_cases hlt : k < rs.length
        · obtain ⟨b, o, u0, u1, u2, rfl, hbB, k0, k1, k2, rfl, q3, q2⟩ := (HR.out.below BW (Nat.le_refl _)).get hlt
          have hwr : w.heap.size ≤ wr.heap.size := BW.size
          have Q2 := Lib.hid q2
          obtain ⟨A3, c3, rfl, _⟩ := q3
          obtain ⟨A4, c4, rfl, _⟩ := q2
          have hbl := HBL.out _ (List.getElem_mem hlt)
          clear hon
          go_upto_region 10 with fail
          obtain ⟨wv, hwv⟩ : ∃ wv, wv = wr.alloc (Obj.cells #[Value.int .i64 rs[k].1.1, Value.slice A3 rs[k].1.2.length c3, Value.slice A4 rs[k].2.length c4] 53) := ⟨_, rfl⟩
          have bv : Below wr.heap.size wr wv := by rw [hwv]; exact below1 _ _
          have X : Blk wv wr.heap.size 53 #[.int .i64 rs[k].1.1, .slice A3 rs[k].1.2.length c3, .slice A4 rs[k].2.length c4] := by rw [hwv]; exact Blk.new _ _ _
          rw [← hwv]
          have hvl := X.lt
          clear hwv k0 k1 k2 q1
          have hgr : g + 1 + n ≤ wr.heap.size := by omega
          have HATV := Lib.hid (hat.below bv hgr)
          have HX := Lib.hid X
          have HBV := Lib.hid bv
          clear hat X bv
          go_wp2_with fail
          obtain ⟨wo, rfl⟩ : ∃ wo, wo = wr := ⟨_, rfl⟩
          go_loopw [7] (fun i wr => ∃ m : Nat, m ≤ rs[k].2.length ∧ i = .int .i64 m ∧ GridAt wr g n (cellV (asksOf (rs.take k) ++ (rs[k].2.take m).map fun l => (rs[k].1.1, l))) ∧ Only g (g + 1 + n) wv wr) (fun i _ => rs[k].2.length - (intOf i).toNat)
          case atStart => exact ⟨0, Nat.zero_le _, rfl, by simpa using HATV.out, Only.refl _ _ _⟩
          case round =>
            obtain ⟨m, hm, rfl, hax, honx⟩ := hrel
            have hsx := honx.size
            have Xx := HX.out.only honx (.inr hgr)
            have q2 : wr.cell? ⟨wo.heap.size, 2, none⟩ = some (.slice A4 rs[k].2.length c4) := Xx.cell 2
            by_cases hltm : m < rs[k].2.length
            · obtain ⟨b5, o5, y0, y1, y2, rfl, hb5, l0, l1, l2, rfl, rfl, q5⟩ := (Q2.out.below ((HBV.out.mono hwr).trans (honx.below (by omega) (by omega))) (Nat.le_refl _)).get hltm
              obtain ⟨A5, c5, rfl, _⟩ := q5
              obtain ⟨x, hxe⟩ : ∃ x : LAsk, x = (rs[k].1.1, rs[k].2[m]) := ⟨_, rfl⟩
              have HXE := Lib.hid (show x.2.1 = rs[k].2[m].1 by rw [hxe])
              have HFX := Lib.hid (show AskFits n x by rw [hxe]; exact HF.out _ (asksOf_mem hlt hltm))
              obtain ⟨ps, hps⟩ : ∃ ps, ps = asksOf (rs.take k) ++ (rs[k].2.take m).map fun l => (rs[k].1.1, l) := ⟨_, rfl⟩
              have HPS := Lib.hid (show asksOf (rs.take k) ++ (rs[k].2.take (m + 1)).map (fun l => (rs[k].1.1, l)) = ps ++ [x] from by
                rw [take_snoc _ _ hltm, List.map_append, ← List.append_assoc, ← hps, hxe]; rfl)
              rw [← hps] at hax
              obtain ⟨p, hpe⟩ : ∃ p : Nat, rs[k].1.1 = (p : Int) := ⟨rs[k].1.1.toNat, by have := HFX.out.1; rw [hxe] at this; have := this.1; omega⟩
              have hpn : p < n := by have := HFX.out.1.2; rw [hxe] at this; have : rs[k].1.1 < (n : Int) := this; omega
              have x0 : wr.cell? ⟨wo.heap.size, 0, none⟩ = some (.int .i64 p) := by rw [← hpe]; exact Xx.cell 0
              clear hps
              go_upto_region 14 with fail
              obtain ⟨wl, hwl⟩ : ∃ wl, wl = wr.alloc (Obj.cells #[Value.int .i64 rs[k].2[m].1, Value.int .i64 rs[k].2[m].2.1, Value.slice A5 rs[k].2[m].2.2.length c5] 55) := ⟨_, rfl⟩
              have bl : Below wr.heap.size wr wl := by rw [hwl]; exact below1 _ _
              have Y : Blk wl wr.heap.size 55 #[.int .i64 rs[k].2[m].1, .int .i64 rs[k].2[m].2.1, .slice A5 rs[k].2[m].2.2.length c5] := by rw [hwl]; exact Blk.new _ _ _
              rw [← hwl]
              clear hwl l0 l1 l2 q2
              have z0 : wl.cell? ⟨wo.heap.size, 0, none⟩ = some (.int .i64 p) := (bl.cell (World.block_lt_of_cell? _ _ x0)).trans x0
              have HAL := Lib.hid (hax.below bl (by omega))
              have HOL := Lib.hid (honx.trans (Only.of_below bl))
              have hpi : (p : Int) < n := by omega
              have hlt1 : g + 1 + n ≤ wr.heap.size := by omega
              clear x0 hax honx Xx
              by_cases hk0 : rs[k].2[m].1 = 0
              · have hb0 : (rs[k].2[m].1 == 0) = true := by simp [hk0]
                have hb1 : (rs[k].2[m].1 == 1) = false := by simp; omega
                obtain ⟨hx1, hx2⟩ : 0 ≤ rs[k].2[m].2.1 ∧ rs[k].2[m].2.1 < n := by have := HFX.out.2 (.inl (HXE.out.trans hk0)); rw [hxe] at this; exact this
                obtain ⟨q, hqe⟩ : ∃ q : Nat, rs[k].2[m].2.1 = (q : Int) := ⟨rs[k].2[m].2.1.toNat, by omega⟩
                have hqn : q < n := by omega
                have hqi : (q : Int) < n := by omega
                have HXK := Lib.hid (show x.1 = (p : Int) ∧ x.2.1 = 0 ∧ x.2.2.1 = (q : Int) from ⟨by rw [hxe]; exact hpe, HXE.out.trans hk0, by rw [hxe]; exact hqe⟩)
                have e0 : wl.cell? ⟨wr.heap.size, 0, none⟩ = some (.int .i64 rs[k].2[m].1) := Y.cell 0
                have z1 : wl.cell? ⟨wr.heap.size, 1, none⟩ = some (.int .i64 q) := by rw [← hqe]; exact Y.cell 1
                obtain ⟨t, ht⟩ : ∃ t, t = cellV ps p q := ⟨_, rfl⟩
                have ht3 : t ≤ 3 := by rw [ht]; exact cellV_le _ _ _
                have HTE := Lib.hid ht.symm
                have z2 : wl.cell? ⟨g, p, none⟩ = some (.slice (some ⟨g + 1 + p, 0, none⟩) n n) := HAL.out.head hpn
                have z3 : wl.cell? ⟨g + 1 + p, q, none⟩ = some (.int .i64 ((t : Nat) : Int)) := by rw [ht]; exact HAL.out.cell hpn hqn
                have z4 : wl.frozen? ⟨g + 1 + p, q, none⟩ = false := (HAL.out.rows p hpn).frozen q
                have d0 : wl.drew.cell? ⟨wo.heap.size, 0, none⟩ = some (.int .i64 p) := z0
                have d1 : wl.drew.cell? ⟨wr.heap.size, 1, none⟩ = some (.int .i64 q) := z1
                have d2 : wl.drew.cell? ⟨g, p, none⟩ = some (.slice (some ⟨g + 1 + p, 0, none⟩) n n) := z2
                have d3 : wl.drew.cell? ⟨g + 1 + p, q, none⟩ = some (.int .i64 ((t : Nat) : Int)) := z3
                have d4 : wl.drew.frozen? ⟨g + 1 + p, q, none⟩ = false := z4
                have dd0 : wl.drew.drew.cell? ⟨wo.heap.size, 0, none⟩ = some (.int .i64 p) := z0
                have dd1 : wl.drew.drew.cell? ⟨wr.heap.size, 1, none⟩ = some (.int .i64 q) := z1
                have dd2 : wl.drew.drew.cell? ⟨g, p, none⟩ = some (.slice (some ⟨g + 1 + p, 0, none⟩) n n) := z2
                have dd3 : wl.drew.drew.cell? ⟨g + 1 + p, q, none⟩ = some (.int .i64 ((t : Nat) : Int)) := z3
                have dd4 : wl.drew.drew.frozen? ⟨g + 1 + p, q, none⟩ = false := z4
                have de0 : wl.drew.cell? ⟨wr.heap.size, 0, none⟩ = some (.int .i64 rs[k].2[m].1) := e0
                have dde0 : wl.drew.drew.cell? ⟨wr.heap.size, 0, none⟩ = some (.int .i64 rs[k].2[m].1) := e0
                clear ht hx1 hx2 hxe hpe hqe
                by_cases htt : t % 2 = 0
                · have hT : (((t : Nat) : Int) % 2 == 0) = true := by simp; omega
                  have HC0 := Lib.hid (show ∀ a b, cellV (ps ++ [x]) a b = if a = p ∧ b = q then t + 1 else cellV ps a b from fun a b => by
                    rw [cellV_snoc, HXK.out.1, HXK.out.2.1, HXK.out.2.2]
                    by_cases e : a = p ∧ b = q
                    · obtain ⟨rfl, rfl⟩ := e
                      rw [if_pos (show ((a : Int) = a ∧ (b : Int) = b) from ⟨rfl, rfl⟩), HTE.out, if_pos (show ((0 : Int) = 0 ∧ t % 2 = 0) from ⟨rfl, htt⟩), if_pos (show a = a ∧ b = b from ⟨rfl, rfl⟩)]
                    · rw [if_neg e, if_neg (by omega)])
                  clear hk0
                  go_upto_region 14 with fail
                  go_big_region
                  have HAM := HAL.out.drewn
                  have HOM := HOL.out.drewn
                  clear z0 z1 z2 z3 z4 e0 dd0 dd1 dd2 dd3 dd4 dde0
                  go_upto_region 15 with fail
                  generalize wl.drew = wm at *
                  have HN := Lib.hid (show GridAt (wm.setCell ⟨g + 1 + p, q, none⟩ (.int .i64 ((t : Int) + 1))).drew.drew g n (cellV (ps ++ [x])) from (GridAt.set (x := t + 1) HAM hpn HC0.out).drewn.drewn)
                  have HO6 := Lib.hid (show Only g (g + 1 + n) wv (wm.setCell ⟨g + 1 + p, q, none⟩ (.int .i64 ((t : Int) + 1))).drew.drew from (HOM.setCell ⟨by show g ≤ g + 1 + p; omega, by show g + 1 + p < g + 1 + n; omega⟩ _).drewn.drewn)
                  have s3 : wm.drew.cell? ⟨g + 1 + p, q, none⟩ = some (.int .i64 ((t : Nat) : Int)) := d3
                  have s4 : wm.drew.frozen? ⟨g + 1 + p, q, none⟩ = false := d4
                  obtain ⟨SS, hSS⟩ : ∃ SS : World → Prop, SS = (fun W => Below wm.heap.size wm W ∧ W.cell? ⟨wo.heap.size, 0, none⟩ = some (.int .i64 p) ∧ W.cell? ⟨wr.heap.size, 1, none⟩ = some (.int .i64 q) ∧ W.cell? ⟨g, p, none⟩ = some (.slice (some ⟨g + 1 + p, 0, none⟩) n n) ∧ W.cell? ⟨g + 1 + p, q, none⟩ = some (.int .i64 ((t : Nat) : Int))) := ⟨_, rfl⟩
                  have HB := Lib.hid (show ∀ W, SS W → (Below wm.heap.size wm W ∧ W.cell? ⟨wo.heap.size, 0, none⟩ = some (.int .i64 p) ∧ W.cell? ⟨wr.heap.size, 1, none⟩ = some (.int .i64 q) ∧ W.cell? ⟨g, p, none⟩ = some (.slice (some ⟨g + 1 + p, 0, none⟩) n n) ∧ W.cell? ⟨g + 1 + p, q, none⟩ = some (.int .i64 ((t : Nat) : Int))) from by rw [hSS]; exact fun W hW => hW)
                  have HS := Lib.hid (show ∀ W, Below wm.heap.size wm W → SS W from by
                    rw [hSS]
                    exact fun W hW => ⟨hW, (hW.cell (World.block_lt_of_cell? _ _ d0)).trans d0, (hW.cell (World.block_lt_of_cell? _ _ d1)).trans d1, (hW.cell (World.block_lt_of_cell? _ _ d2)).trans d2, (hW.cell (World.block_lt_of_cell? _ _ d3)).trans d3⟩)
                  have BB : Below wm.heap.size wm wm.drew := (Below.refl _ _).drew
                  have SB := HS.out _ BB
                  clear hSS d0 d1 d2 d3 d4 HAM HOM
                  refine wp_region_rel SS 22 23 (by kernel_rfl) rfl ?_
                  refine wpAnyR_pure (i := 0) (oi := _) ?v0 rfl rfl (by kernel_rfl) (by decide) (fun _ _ _ h => h) rfl ?hy0 (fun _ => SB) ?rest0
                  case hy0 => (intro W; go_simp; (try with_reducible rfl))
                  try simp only [List.setIfInBounds_toArray, List.set_cons_zero, List.set_cons_succ]
                  refine wpAnyR_pure (i := 1) (oi := _) ?v1 rfl rfl (by kernel_rfl) (by decide) (fun _ _ _ h => h) rfl ?hy1 (fun _ => SB) ?rest1
                  case hy1 => (intro W; go_simp; (try with_reducible rfl))
                  try simp only [List.setIfInBounds_toArray, List.set_cons_zero, List.set_cons_succ]
                  refine wpAnyR_pure (i := 2) (oi := _) ?v2 rfl rfl (by kernel_rfl) (by decide) (fun _ _ _ h => h) rfl ?hy2 (fun _ => SB) ?rest2
                  case hy2 => (intro W; go_simp; (try with_reducible rfl))
                  try simp only [List.setIfInBounds_toArray, List.set_cons_zero, List.set_cons_succ]
                  refine wpAnyR_take (i := 3) (oi := _) ?v3 rfl rfl (by kernel_rfl) (fun _ _ _ h => h) rfl ?hy3 SB ?rest3
                  case hy3 => (intro W hW; obtain ⟨_, c0, c1, c2, c3⟩ := HB.out W hW; go_simp; (try with_reducible rfl))
                  try simp only [List.setIfInBounds_toArray, List.set_cons_zero, List.set_cons_succ]
                  refine wpAnyR_pure (i := 4) (oi := _) ?v4 rfl rfl (by kernel_rfl) (by decide) (fun _ _ _ h => h) rfl ?hy4 (fun _ => SB) ?rest4
                  case hy4 => (intro W; go_simp; (try with_reducible rfl))
                  try simp only [List.setIfInBounds_toArray, List.set_cons_zero, List.set_cons_succ]
                  refine wpAnyR_take (i := 5) (oi := _) ?v5 rfl rfl (by kernel_rfl) (fun _ _ _ h => h) rfl ?hy5 SB ?rest5
                  case hy5 => (intro W hW; obtain ⟨_, c0, c1, c2, c3⟩ := HB.out W hW; go_simp; (try with_reducible rfl))
                  try simp only [List.setIfInBounds_toArray, List.set_cons_zero, List.set_cons_succ]
                  refine wpAnyR_pure (i := 6) (oi := _) ?v6 rfl rfl (by kernel_rfl) (by decide) (fun _ _ _ h => h) rfl ?hy6 (fun _ => SB) ?rest6
                  case hy6 => (intro W; go_simp; (try with_reducible rfl))
                  try simp only [List.setIfInBounds_toArray, List.set_cons_zero, List.set_cons_succ]
                  refine wpAnyR_pure (i := 7) (oi := _) ?v7 rfl rfl (by kernel_rfl) (by decide) (fun _ _ _ h => h) rfl ?hy7 (fun _ => SB) ?rest7
                  case hy7 => (intro W; go_simp; (try with_reducible rfl))
                  try simp only [List.setIfInBounds_toArray, List.set_cons_zero, List.set_cons_succ]
                  refine wpAnyR_take (i := 8) (oi := _) ?v8 rfl rfl (by kernel_rfl) (fun _ _ _ h => h) rfl ?hy8 SB ?rest8
                  case hy8 => (intro W hW; obtain ⟨_, c0, c1, c2, c3⟩ := HB.out W hW; go_simp; (try with_reducible rfl))
                  try simp only [List.setIfInBounds_toArray, List.set_cons_zero, List.set_cons_succ]
                  refine wpAnyR_pure (i := 9) (oi := _) ?v9 rfl rfl (by kernel_rfl) (by decide) (fun _ _ _ h => h) rfl ?hy9 (fun _ => SB) ?rest9
                  case hy9 => (intro W; go_simp; (try with_reducible rfl))
                  try simp only [List.setIfInBounds_toArray, List.set_cons_zero, List.set_cons_succ]
                  refine wpAnyR_pure (i := 10) (oi := _) ?v10 rfl rfl (by kernel_rfl) (by decide) (fun _ _ _ h => h) rfl ?hy10 (fun _ => SB) ?rest10
                  case hy10 => (intro W; go_simp; (try with_reducible rfl))
                  try simp only [List.setIfInBounds_toArray, List.set_cons_zero, List.set_cons_succ]
                  refine wpAnyR_pure (i := 11) (oi := _) ?v11 rfl rfl (by kernel_rfl) (by decide) (fun _ _ _ h => h) rfl ?hy11 (fun _ => SB) ?rest11
                  case hy11 => (intro W; go_simp; (try with_reducible rfl))
                  try simp only [List.setIfInBounds_toArray, List.set_cons_zero, List.set_cons_succ]
                  refine wpAnyR_take (i := 12) (oi := _) ?v12 rfl rfl (by kernel_rfl) (fun _ _ _ h => h) rfl ?hy12 SB ?rest12
                  case hy12 => (intro W hW; obtain ⟨_, c0, c1, c2, c3⟩ := HB.out W hW; go_simp; (try with_reducible rfl))
                  try simp only [List.setIfInBounds_toArray, List.set_cons_zero, List.set_cons_succ]
                  refine wpAnyR_pure (i := 13) (oi := _) ?v13 rfl rfl (by kernel_rfl) (by decide) (fun _ _ _ h => h) rfl ?hy13 (fun _ => SB) ?rest13
                  case hy13 => (intro W; go_simp; (try with_reducible rfl))
                  try simp only [List.setIfInBounds_toArray, List.set_cons_zero, List.set_cons_succ]
                  refine wpAnyR_take (i := 14) (oi := _) ?v14 rfl rfl (by kernel_rfl) (fun _ _ _ h => h) rfl ?hy14 SB ?rest14
                  case hy14 => (intro W hW; obtain ⟨_, c0, c1, c2, c3⟩ := HB.out W hW; go_simp; (try with_reducible rfl))
                  try simp only [List.setIfInBounds_toArray, List.set_cons_zero, List.set_cons_succ]
                  refine wpAnyR_pure (i := 15) (oi := _) ?v15 rfl rfl (by kernel_rfl) (by decide) (fun _ _ _ h => h) rfl ?hy15 (fun _ => SB) ?rest15
                  case hy15 => (intro W; go_simp; (try with_reducible rfl))
                  try simp only [List.setIfInBounds_toArray, List.set_cons_zero, List.set_cons_succ]
                  refine wpAnyR_pure (i := 16) (oi := _) ?v16 rfl rfl (by kernel_rfl) (by decide) (fun _ _ _ h => h) rfl ?hy16 (fun _ => SB) ?rest16
                  case hy16 => (intro W; go_simp; (try with_reducible rfl))
                  try simp only [List.setIfInBounds_toArray, List.set_cons_zero, List.set_cons_succ]
                  refine wpAnyR_take (i := 17) (oi := _) ?v17 rfl rfl (by kernel_rfl) (fun _ _ _ h => h) rfl ?hy17 SB ?rest17
                  case hy17 => (intro W hW; obtain ⟨_, c0, c1, c2, c3⟩ := HB.out W hW; go_simp; (try with_reducible rfl))
                  try simp only [List.setIfInBounds_toArray, List.set_cons_zero, List.set_cons_succ]
                  refine wpAnyR_pure (i := 18) (oi := _) ?v18 rfl rfl (by kernel_rfl) (by decide) (fun _ _ _ h => h) rfl ?hy18 (fun _ => SB) ?rest18
                  case hy18 => (intro W; go_simp; (try with_reducible rfl))
                  try simp only [List.setIfInBounds_toArray, List.set_cons_zero, List.set_cons_succ]
                  refine wpAnyR_take (i := 19) (oi := _) ?v19 rfl rfl (by kernel_rfl) (fun _ _ _ h => h) rfl ?hy19 SB ?rest19
                  case hy19 => (intro W hW; obtain ⟨_, c0, c1, c2, c3⟩ := HB.out W hW; go_simp; (try with_reducible rfl))
                  try simp only [List.setIfInBounds_toArray, List.set_cons_zero, List.set_cons_succ]
                  refine wpAnyR_pure (i := 20) (oi := _) ?v20 rfl rfl (by kernel_rfl) (by decide) (fun _ _ _ h => h) rfl ?hy20 (fun _ => SB) ?rest20
                  case hy20 => (intro W; go_simp; (try with_reducible rfl))
                  try simp only [List.setIfInBounds_toArray, List.set_cons_zero, List.set_cons_succ]
                  refine wpAnyR_pure (i := 21) (oi := _) ?v21 rfl rfl (by kernel_rfl) (by decide) (fun _ _ _ h => h) rfl ?hy21 (fun _ => SB) ?rest21
                  case hy21 => (intro W; go_simp; (try with_reducible rfl))
                  try simp only [List.setIfInBounds_toArray, List.set_cons_zero, List.set_cons_succ]
                  refine wpAnyR_one (i := 22) (by kernel_rfl) rfl (fun K hK => ?_)
                  go_simp
                  refine hK.out _ _ (fun hf => absurd hf (by decide)) ?_
                  clear hK K
                  refine wpAnyR_done (by kernel_rfl) ?_
                  go_upto_region 16 with fail
                  go_big_region
                  go_wp2_with fail
                  go_roundw
                  case rel => exact ⟨m + 1, by omega, by go_num, by rw [HPS.out]; exact HN.out, HO6.out⟩
                  case measure => simp [intOf]; omega
                · have hT : (((t : Nat) : Int) % 2 == 0) = false := by simp; omega
                  have HN := Lib.hid (show GridAt wl g n (cellV (ps ++ [x])) from HAL.out.congr fun a b _ _ => by
                    rw [cellV_snoc, HXK.out.1, HXK.out.2.1, HXK.out.2.2]
                    by_cases e : (p : Int) = (a : Int) ∧ (q : Int) = (b : Int)
                    · obtain ⟨rfl, rfl⟩ : p = a ∧ q = b := by omega
                      rw [if_pos e, HTE.out, if_neg (by omega), if_neg (by omega)]
                    · rw [if_neg e])
                  clear hk0
                  go_upto_region 14 with fail
                  go_big_region
                  go_upto_region 16 with fail
                  go_big_region
                  go_wp2_with fail
                  go_roundw
                  case rel => exact ⟨m + 1, by omega, by go_num, by rw [HPS.out]; exact (HN.out.drewn).drewn, HOL.out.drewn.drewn⟩
                  case measure => simp [intOf]; omega
              · have hb0 : (rs[k].2[m].1 == 0) = false := by simp [hk0]
                by_cases hk1 : rs[k].2[m].1 = 1
                · have hb1 : (rs[k].2[m].1 == 1) = true := by simp [hk1]
                  obtain ⟨hx1, hx2⟩ : 0 ≤ rs[k].2[m].2.1 ∧ rs[k].2[m].2.1 < n := by have := HFX.out.2 (.inr (HXE.out.trans hk1)); rw [hxe] at this; exact this
                  obtain ⟨q, hqe⟩ : ∃ q : Nat, rs[k].2[m].2.1 = (q : Int) := ⟨rs[k].2[m].2.1.toNat, by omega⟩
                  have hqn : q < n := by omega
                  have hqi : (q : Int) < n := by omega
                  have HXK := Lib.hid (show x.1 = (p : Int) ∧ x.2.1 = 1 ∧ x.2.2.1 = (q : Int) from ⟨by rw [hxe]; exact hpe, HXE.out.trans hk1, by rw [hxe]; exact hqe⟩)
                  have e0 : wl.cell? ⟨wr.heap.size, 0, none⟩ = some (.int .i64 rs[k].2[m].1) := Y.cell 0
                  have z1 : wl.cell? ⟨wr.heap.size, 1, none⟩ = some (.int .i64 q) := by rw [← hqe]; exact Y.cell 1
                  obtain ⟨t, ht⟩ : ∃ t, t = cellV ps p q := ⟨_, rfl⟩
                  have ht3 : t ≤ 3 := by rw [ht]; exact cellV_le _ _ _
                  have HTE := Lib.hid ht.symm
                  have z2 : wl.cell? ⟨g, p, none⟩ = some (.slice (some ⟨g + 1 + p, 0, none⟩) n n) := HAL.out.head hpn
                  have z3 : wl.cell? ⟨g + 1 + p, q, none⟩ = some (.int .i64 ((t : Nat) : Int)) := by rw [ht]; exact HAL.out.cell hpn hqn
                  have z4 : wl.frozen? ⟨g + 1 + p, q, none⟩ = false := (HAL.out.rows p hpn).frozen q
                  have d0 : wl.drew.cell? ⟨wo.heap.size, 0, none⟩ = some (.int .i64 p) := z0
                  have d1 : wl.drew.cell? ⟨wr.heap.size, 1, none⟩ = some (.int .i64 q) := z1
                  have d2 : wl.drew.cell? ⟨g, p, none⟩ = some (.slice (some ⟨g + 1 + p, 0, none⟩) n n) := z2
                  have d3 : wl.drew.cell? ⟨g + 1 + p, q, none⟩ = some (.int .i64 ((t : Nat) : Int)) := z3
                  have d4 : wl.drew.frozen? ⟨g + 1 + p, q, none⟩ = false := z4
                  have dd0 : wl.drew.drew.cell? ⟨wo.heap.size, 0, none⟩ = some (.int .i64 p) := z0
                  have dd1 : wl.drew.drew.cell? ⟨wr.heap.size, 1, none⟩ = some (.int .i64 q) := z1
                  have dd2 : wl.drew.drew.cell? ⟨g, p, none⟩ = some (.slice (some ⟨g + 1 + p, 0, none⟩) n n) := z2
                  have dd3 : wl.drew.drew.cell? ⟨g + 1 + p, q, none⟩ = some (.int .i64 ((t : Nat) : Int)) := z3
                  have dd4 : wl.drew.drew.frozen? ⟨g + 1 + p, q, none⟩ = false := z4
                  have de0 : wl.drew.cell? ⟨wr.heap.size, 0, none⟩ = some (.int .i64 rs[k].2[m].1) := e0
                  have dde0 : wl.drew.drew.cell? ⟨wr.heap.size, 0, none⟩ = some (.int .i64 rs[k].2[m].1) := e0
                  clear ht hx1 hx2 hxe hpe hqe
                  by_cases htt : t < 2
                  · have hT : decide (((t : Nat) : Int) < 2) = true := by simp; omega
                    have HC0 := Lib.hid (show ∀ a b, cellV (ps ++ [x]) a b = if a = p ∧ b = q then t + 2 else cellV ps a b from fun a b => by
                      rw [cellV_snoc, HXK.out.1, HXK.out.2.1, HXK.out.2.2]
                      by_cases e : a = p ∧ b = q
                      · obtain ⟨rfl, rfl⟩ := e
                        rw [if_pos (show ((a : Int) = a ∧ (b : Int) = b) from ⟨rfl, rfl⟩), HTE.out, if_neg (fun h => absurd h.1 (by decide)), if_pos (show ((1 : Int) = 1 ∧ t < 2) from ⟨rfl, htt⟩), if_pos (show a = a ∧ b = b from ⟨rfl, rfl⟩)]
                      · rw [if_neg e, if_neg (by omega)])
                    clear hk0 hk1
                    go_upto_region 14 with fail
                    go_big_region
                    have HAM := HAL.out.drewn
                    have HOM := HOL.out.drewn
                    clear z0 z1 z2 z3 z4 e0 dd0 dd1 dd2 dd3 dd4 dde0
                    go_upto_region 16 with fail
                    generalize wl.drew = wa at *
                    have dd0 : wa.drew.cell? ⟨wo.heap.size, 0, none⟩ = some (.int .i64 p) := d0
                    have dd1 : wa.drew.cell? ⟨wr.heap.size, 1, none⟩ = some (.int .i64 q) := d1
                    have dd2 : wa.drew.cell? ⟨g, p, none⟩ = some (.slice (some ⟨g + 1 + p, 0, none⟩) n n) := d2
                    have dd3 : wa.drew.cell? ⟨g + 1 + p, q, none⟩ = some (.int .i64 ((t : Nat) : Int)) := d3
                    have dd4 : wa.drew.frozen? ⟨g + 1 + p, q, none⟩ = false := d4
                    have dde0 : wa.drew.cell? ⟨wr.heap.size, 0, none⟩ = some (.int .i64 rs[k].2[m].1) := de0
                    go_big_region
                    have HAM := HAM.drewn
                    have HOM := HOM.drewn
                    clear d0 d1 d2 d3 d4 de0
                    go_upto_region 17 with fail
                    generalize wa.drew = wm at *
                    have HN := Lib.hid (show GridAt (wm.setCell ⟨g + 1 + p, q, none⟩ (.int .i64 ((t : Int) + 2))).drew g n (cellV (ps ++ [x])) from (GridAt.set (x := t + 2) HAM hpn HC0.out).drewn)
                    have HO6 := Lib.hid (show Only g (g + 1 + n) wv (wm.setCell ⟨g + 1 + p, q, none⟩ (.int .i64 ((t : Int) + 2))).drew from (HOM.setCell ⟨by show g ≤ g + 1 + p; omega, by show g + 1 + p < g + 1 + n; omega⟩ _).drewn)
                    have s3 : wm.drew.cell? ⟨g + 1 + p, q, none⟩ = some (.int .i64 ((t : Nat) : Int)) := dd3
                    have s4 : wm.drew.frozen? ⟨g + 1 + p, q, none⟩ = false := dd4
                    obtain ⟨SS, hSS⟩ : ∃ SS : World → Prop, SS = (fun W => Below wm.heap.size wm W ∧ W.cell? ⟨wo.heap.size, 0, none⟩ = some (.int .i64 p) ∧ W.cell? ⟨wr.heap.size, 1, none⟩ = some (.int .i64 q) ∧ W.cell? ⟨g, p, none⟩ = some (.slice (some ⟨g + 1 + p, 0, none⟩) n n) ∧ W.cell? ⟨g + 1 + p, q, none⟩ = some (.int .i64 ((t : Nat) : Int))) := ⟨_, rfl⟩
                    have HB := Lib.hid (show ∀ W, SS W → (Below wm.heap.size wm W ∧ W.cell? ⟨wo.heap.size, 0, none⟩ = some (.int .i64 p) ∧ W.cell? ⟨wr.heap.size, 1, none⟩ = some (.int .i64 q) ∧ W.cell? ⟨g, p, none⟩ = some (.slice (some ⟨g + 1 + p, 0, none⟩) n n) ∧ W.cell? ⟨g + 1 + p, q, none⟩ = some (.int .i64 ((t : Nat) : Int))) from by rw [hSS]; exact fun W hW => hW)
                    have HS := Lib.hid (show ∀ W, Below wm.heap.size wm W → SS W from by
                      rw [hSS]
                      exact fun W hW => ⟨hW, (hW.cell (World.block_lt_of_cell? _ _ dd0)).trans dd0, (hW.cell (World.block_lt_of_cell? _ _ dd1)).trans dd1, (hW.cell (World.block_lt_of_cell? _ _ dd2)).trans dd2, (hW.cell (World.block_lt_of_cell? _ _ dd3)).trans dd3⟩)
                    have BB : Below wm.heap.size wm wm.drew := (Below.refl _ _).drew
                    have SB := HS.out _ BB
                    clear hSS dd0 dd1 dd2 dd3 dd4 HAM HOM
                    refine wp_region_rel SS 22 23 (by kernel_rfl) rfl ?_
                    refine wpAnyR_pure (i := 0) (oi := _) ?vb0 rfl rfl (by kernel_rfl) (by decide) (fun _ _ _ h => h) rfl ?hyb0 (fun _ => SB) ?restb0
                    case hyb0 => (intro W; go_simp; (try with_reducible rfl))
                    try simp only [List.setIfInBounds_toArray, List.set_cons_zero, List.set_cons_succ]
                    refine wpAnyR_pure (i := 1) (oi := _) ?vb1 rfl rfl (by kernel_rfl) (by decide) (fun _ _ _ h => h) rfl ?hyb1 (fun _ => SB) ?restb1
                    case hyb1 => (intro W; go_simp; (try with_reducible rfl))
                    try simp only [List.setIfInBounds_toArray, List.set_cons_zero, List.set_cons_succ]
                    refine wpAnyR_pure (i := 2) (oi := _) ?vb2 rfl rfl (by kernel_rfl) (by decide) (fun _ _ _ h => h) rfl ?hyb2 (fun _ => SB) ?restb2
                    case hyb2 => (intro W; go_simp; (try with_reducible rfl))
                    try simp only [List.setIfInBounds_toArray, List.set_cons_zero, List.set_cons_succ]
                    refine wpAnyR_take (i := 3) (oi := _) ?vb3 rfl rfl (by kernel_rfl) (fun _ _ _ h => h) rfl ?hyb3 SB ?restb3
                    case hyb3 => (intro W hW; obtain ⟨_, c0, c1, c2, c3⟩ := HB.out W hW; go_simp; (try with_reducible rfl))
                    try simp only [List.setIfInBounds_toArray, List.set_cons_zero, List.set_cons_succ]
                    refine wpAnyR_pure (i := 4) (oi := _) ?vb4 rfl rfl (by kernel_rfl) (by decide) (fun _ _ _ h => h) rfl ?hyb4 (fun _ => SB) ?restb4
                    case hyb4 => (intro W; go_simp; (try with_reducible rfl))
                    try simp only [List.setIfInBounds_toArray, List.set_cons_zero, List.set_cons_succ]
                    refine wpAnyR_take (i := 5) (oi := _) ?vb5 rfl rfl (by kernel_rfl) (fun _ _ _ h => h) rfl ?hyb5 SB ?restb5
                    case hyb5 => (intro W hW; obtain ⟨_, c0, c1, c2, c3⟩ := HB.out W hW; go_simp; (try with_reducible rfl))
                    try simp only [List.setIfInBounds_toArray, List.set_cons_zero, List.set_cons_succ]
                    refine wpAnyR_pure (i := 6) (oi := _) ?vb6 rfl rfl (by kernel_rfl) (by decide) (fun _ _ _ h => h) rfl ?hyb6 (fun _ => SB) ?restb6
                    case hyb6 => (intro W; go_simp; (try with_reducible rfl))
                    try simp only [List.setIfInBounds_toArray, List.set_cons_zero, List.set_cons_succ]
                    refine wpAnyR_pure (i := 7) (oi := _) ?vb7 rfl rfl (by kernel_rfl) (by decide) (fun _ _ _ h => h) rfl ?hyb7 (fun _ => SB) ?restb7
                    case hyb7 => (intro W; go_simp; (try with_reducible rfl))
                    try simp only [List.setIfInBounds_toArray, List.set_cons_zero, List.set_cons_succ]
                    refine wpAnyR_take (i := 8) (oi := _) ?vb8 rfl rfl (by kernel_rfl) (fun _ _ _ h => h) rfl ?hyb8 SB ?restb8
                    case hyb8 => (intro W hW; obtain ⟨_, c0, c1, c2, c3⟩ := HB.out W hW; go_simp; (try with_reducible rfl))
                    try simp only [List.setIfInBounds_toArray, List.set_cons_zero, List.set_cons_succ]
                    refine wpAnyR_pure (i := 9) (oi := _) ?vb9 rfl rfl (by kernel_rfl) (by decide) (fun _ _ _ h => h) rfl ?hyb9 (fun _ => SB) ?restb9
                    case hyb9 => (intro W; go_simp; (try with_reducible rfl))
                    try simp only [List.setIfInBounds_toArray, List.set_cons_zero, List.set_cons_succ]
                    refine wpAnyR_pure (i := 10) (oi := _) ?vb10 rfl rfl (by kernel_rfl) (by decide) (fun _ _ _ h => h) rfl ?hyb10 (fun _ => SB) ?restb10
                    case hyb10 => (intro W; go_simp; (try with_reducible rfl))
                    try simp only [List.setIfInBounds_toArray, List.set_cons_zero, List.set_cons_succ]
                    refine wpAnyR_pure (i := 11) (oi := _) ?vb11 rfl rfl (by kernel_rfl) (by decide) (fun _ _ _ h => h) rfl ?hyb11 (fun _ => SB) ?restb11
                    case hyb11 => (intro W; go_simp; (try with_reducible rfl))
                    try simp only [List.setIfInBounds_toArray, List.set_cons_zero, List.set_cons_succ]
                    refine wpAnyR_take (i := 12) (oi := _) ?vb12 rfl rfl (by kernel_rfl) (fun _ _ _ h => h) rfl ?hyb12 SB ?restb12
                    case hyb12 => (intro W hW; obtain ⟨_, c0, c1, c2, c3⟩ := HB.out W hW; go_simp; (try with_reducible rfl))
                    try simp only [List.setIfInBounds_toArray, List.set_cons_zero, List.set_cons_succ]
                    refine wpAnyR_pure (i := 13) (oi := _) ?vb13 rfl rfl (by kernel_rfl) (by decide) (fun _ _ _ h => h) rfl ?hyb13 (fun _ => SB) ?restb13
                    case hyb13 => (intro W; go_simp; (try with_reducible rfl))
                    try simp only [List.setIfInBounds_toArray, List.set_cons_zero, List.set_cons_succ]
                    refine wpAnyR_take (i := 14) (oi := _) ?vb14 rfl rfl (by kernel_rfl) (fun _ _ _ h => h) rfl ?hyb14 SB ?restb14
                    case hyb14 => (intro W hW; obtain ⟨_, c0, c1, c2, c3⟩ := HB.out W hW; go_simp; (try with_reducible rfl))
                    try simp only [List.setIfInBounds_toArray, List.set_cons_zero, List.set_cons_succ]
                    refine wpAnyR_pure (i := 15) (oi := _) ?vb15 rfl rfl (by kernel_rfl) (by decide) (fun _ _ _ h => h) rfl ?hyb15 (fun _ => SB) ?restb15
                    case hyb15 => (intro W; go_simp; (try with_reducible rfl))
                    try simp only [List.setIfInBounds_toArray, List.set_cons_zero, List.set_cons_succ]
                    refine wpAnyR_pure (i := 16) (oi := _) ?vb16 rfl rfl (by kernel_rfl) (by decide) (fun _ _ _ h => h) rfl ?hyb16 (fun _ => SB) ?restb16
                    case hyb16 => (intro W; go_simp; (try with_reducible rfl))
                    try simp only [List.setIfInBounds_toArray, List.set_cons_zero, List.set_cons_succ]
                    refine wpAnyR_take (i := 17) (oi := _) ?vb17 rfl rfl (by kernel_rfl) (fun _ _ _ h => h) rfl ?hyb17 SB ?restb17
                    case hyb17 => (intro W hW; obtain ⟨_, c0, c1, c2, c3⟩ := HB.out W hW; go_simp; (try with_reducible rfl))
                    try simp only [List.setIfInBounds_toArray, List.set_cons_zero, List.set_cons_succ]
                    refine wpAnyR_pure (i := 18) (oi := _) ?vb18 rfl rfl (by kernel_rfl) (by decide) (fun _ _ _ h => h) rfl ?hyb18 (fun _ => SB) ?restb18
                    case hyb18 => (intro W; go_simp; (try with_reducible rfl))
                    try simp only [List.setIfInBounds_toArray, List.set_cons_zero, List.set_cons_succ]
                    refine wpAnyR_take (i := 19) (oi := _) ?vb19 rfl rfl (by kernel_rfl) (fun _ _ _ h => h) rfl ?hyb19 SB ?restb19
                    case hyb19 => (intro W hW; obtain ⟨_, c0, c1, c2, c3⟩ := HB.out W hW; go_simp; (try with_reducible rfl))
                    try simp only [List.setIfInBounds_toArray, List.set_cons_zero, List.set_cons_succ]
                    refine wpAnyR_pure (i := 20) (oi := _) ?vb20 rfl rfl (by kernel_rfl) (by decide) (fun _ _ _ h => h) rfl ?hyb20 (fun _ => SB) ?restb20
                    case hyb20 => (intro W; go_simp; (try with_reducible rfl))
                    try simp only [List.setIfInBounds_toArray, List.set_cons_zero, List.set_cons_succ]
                    refine wpAnyR_pure (i := 21) (oi := _) ?vb21 rfl rfl (by kernel_rfl) (by decide) (fun _ _ _ h => h) rfl ?hyb21 (fun _ => SB) ?restb21
                    case hyb21 => (intro W; go_simp; (try with_reducible rfl))
                    try simp only [List.setIfInBounds_toArray, List.set_cons_zero, List.set_cons_succ]
                    refine wpAnyR_one (i := 22) (by kernel_rfl) rfl (fun K hK => ?_)
                    go_simp
                    refine hK.out _ _ (fun hf => absurd hf (by decide)) ?_
                    clear hK K
                    refine wpAnyR_done (by kernel_rfl) ?_
                    go_wp2_with fail
                    go_roundw
                    case rel => exact ⟨m + 1, by omega, by go_num, by rw [HPS.out]; exact HN.out, HO6.out⟩
                    case measure => simp [intOf]; omega
                  · have hT : decide (((t : Nat) : Int) < 2) = false := by simp; omega
                    have HN := Lib.hid (show GridAt wl g n (cellV (ps ++ [x])) from HAL.out.congr fun a b _ _ => by
                      rw [cellV_snoc, HXK.out.1, HXK.out.2.1, HXK.out.2.2]
                      by_cases e : (p : Int) = (a : Int) ∧ (q : Int) = (b : Int)
                      · obtain ⟨rfl, rfl⟩ : p = a ∧ q = b := by omega
                        rw [if_pos e, HTE.out, if_neg (by omega), if_neg (by omega)]
                      · rw [if_neg e])
                    clear hk0 hk1
                    go_upto_region 14 with fail
                    go_big_region
                    go_upto_region 16 with fail
                    go_big_region
                    go_wp2_with fail
                    go_roundw
                    case rel => exact ⟨m + 1, by omega, by go_num, by rw [HPS.out]; exact (HN.out.drewn).drewn, HOL.out.drewn.drewn⟩
                    case measure => simp [intOf]; omega
                · have hb1 : (rs[k].2[m].1 == 1) = false := by simp [hk1]
                  have e0 : wl.cell? ⟨wr.heap.size, 0, none⟩ = some (.int .i64 rs[k].2[m].1) := Y.cell 0
                  clear hxe hpe
                  have HN := Lib.hid (show GridAt wl g n (cellV (ps ++ [x])) from HAL.out.congr fun a b _ _ => by
                    rw [cellV_snoc]
                    by_cases e : x.1 = (a : Int) ∧ x.2.2.1 = (b : Int)
                    · rw [if_pos e, if_neg (fun h => hk0 (HXE.out ▸ h.1)), if_neg (fun h => hk1 (HXE.out ▸ h.1))]
                    · rw [if_neg e])
                  clear hk0 hk1
                  go_upto_region 14 with fail
                  go_big_region
                  go_upto_region 16 with fail
                  go_big_region
                  go_wp2_with fail
                  go_roundw
                  case rel => exact ⟨m + 1, by omega, by go_num, by rw [HPS.out]; exact (HN.out.drewn).drewn, HOL.out.drewn.drewn⟩
                  case measure => simp [intOf]; omega
            · have HE := Lib.hid (show GridAt wr g n (cellV (asksOf (rs.take (k + 1)))) from by
                rw [show m = rs[k].2.length by omega, List.take_length] at hax
                rw [asksOf_snoc rs k hlt]
                exact hax)
              have HO2 := Lib.hid (HON.out.trans ((Only.of_below HBV.out).trans honx))
              clear hax honx Xx
              go_wp2_with fail
              go_roundw
              case rel => exact ⟨k + 1, by omega, by go_num, HE.out, HO2.out⟩
              case measure => simp [intOf]; omega
        · rw [show k = rs.length by omega, List.take_length] at hat
          have HE := Lib.hid hat
          have HBW := Lib.hid BW
          clear hat hon
          go_wp2_with fail
          go_ret
          exact ⟨g, rfl, HE.out, by omega, by omega, HBW.out⟩

end Go.Proofs.YtokmmloakahkhaaDoor
/-
  The walk of the specification's LinksOf.
-/
namespace Go.Proofs.YtokmmloakahkhaaDoor
open Go.RowKit

theorem link_ne_row {w : World} {base n b m : Nat} {v : Value} {zs : List Value} {t : TypeId} {f : Nat → Value} (hr : w.ownsRow base 37 3 v n zs) (hv : v.ownBlock = some b) (h : w.rowIs b t m f) (ht : t ≠ 37) : False := by
  rcases hr.2 with ⟨rfl, _⟩ | ⟨g1, c1, cur1, rfl, _, h1, _⟩
  · cases hv
  · have e : g1 = b := by simpa [Value.ownBlock] using hv
    subst e
    obtain ⟨c, h2, _⟩ := h
    rw [h1] at h2
    injection h2 with h2
    injection h2 with _ h2
    exact ht h2.symm
theorem GridAt.grown {lo g n c : Nat} {w w4 : World} {T : Nat → Nat → Nat} {ls : List LLink} {A : Option Addr} (h : GridAt w g n T) (hc : ColK lo w ls A c) (hg : w.grownBy w4 (Value.slice A ls.length c).ownBlock) : GridAt w4 g n T :=
  ⟨h.heads.of_block (hg.block g h.heads.lt fun e => link_ne_row hc.own.1 e.symm h.heads (by decide)), fun i hi => (h.rows i hi).of_block (hg.block _ (h.rows i hi).lt fun e => link_ne_row hc.own.1 e.symm (h.rows i hi) (by decide))⟩
theorem ColK.moreG {lo g n : Nat} {w2 wr w4 : World} {T : Nat → Nat → Nat} {ls : List LLink} {A : Option Addr} {c g2 cap : Nat} {l : LLink} {o : Obj} (h : ColK lo wr ls A c) (hbe : Below lo w2 wr) (hlo : lo ≤ wr.heap.size) (hx : GridAt wr g n T)
    (hg : (wr.alloc o).grownBy w4 (Value.slice A ls.length c).ownBlock)
    (hown : w4.ownsRow lo 37 3 (.slice (some ⟨g2, 0, none⟩) (ls.length + 1) cap) (ls.length + 1) (flatK ls ++ [.int .i64 l.1, .int .i64 l.2.1, .bool l.2.2])) :
    ColK lo w4 (ls ++ [l]) (some ⟨g2, 0, none⟩) cap ∧ Below lo w2 w4 ∧ GridAt w4 g n T ∧ lo ≤ w4.heap.size := by
  have hg2 := grown_from_alloc hg
  exact ⟨ColK.push hown, hbe.grown hg2 hlo (fun k hk => (h.own.1.lt k hk).1), hx.grown h hg2, Nat.le_trans hlo hg2.size⟩
theorem cellV_odd (ps : List LAsk) (i k : Nat) : (((cellV ps i k : Nat) : Int) % 2 == 1) = asked 0 ps i k := by
  unfold cellV
  cases asked 0 ps i k <;> cases asked 1 ps i k <;> rfl
theorem cellV_more (ps : List LAsk) (i k : Nat) : decide ((1 : Int) < ((cellV ps i k : Nat) : Int)) = asked 1 ps i k := by
  unfold cellV
  cases asked 0 ps i k <;> cases asked 1 ps i k <;> rfl

set_option maxHeartbeats 4000000 in
set_option maxRecDepth 100000 in
theorem specLinksOf_any (v : Value) (p : LProg) (w : World) (h : RdProg w w.heap.size v p) (hs : szP p ≤ 1048576) :
    Calls Tryd.prog 24 #[v] w fun e w' => ∃ A' c', e = .returned (.slice A' (linksOf p).length c') ∧ OwnLinks w' w.heap.size w'.heap.size (.slice A' (linksOf p).length c') (linksOf p) ∧ Below w.heap.size w w' := by
  obtain ⟨i0, hi0, hz0, hz1, hz2⟩ := info_parts Tryd.infoLink
  have HP := Lib.hid h
  obtain ⟨a, b, rfl, hA, hR⟩ := h
  obtain ⟨A, c, rfl, hcA, _⟩ := hA
  obtain ⟨A2, c2, rfl, hcR, _⟩ := hR
  obtain ⟨po, hpo⟩ : ∃ po, po = progOk p := ⟨_, rfl⟩
  go_enter Tryd.func24, Tryd.ntmps24
  go_upto_region 2 with fail
  obtain ⟨lo, hlo⟩ : ∃ lo, lo = w.heap.size := ⟨_, rfl⟩
  obtain ⟨w1, hw1⟩ : ∃ w1, w1 = (w.alloc (Obj.cells #[Value.slice A p.1.length c, Value.slice A2 p.2.length c2] 26)).alloc (Obj.cells #[] 37) := ⟨_, rfl⟩
  have X1 : Blk w1 w.heap.size 26 #[.slice A p.1.length c, .slice A2 p.2.length c2] := by rw [hw1]; exact (Blk.new _ _ _).alloc _
  have B1 : Below w.heap.size w w1 := by rw [hw1]; exact below2 _ _ _
  have C1 : ColK lo w1 [] (some ⟨w.heap.size + 1, 0, none⟩) 0 := by
    rw [hw1, hlo]
    have := ColK.empty (lo := w.heap.size) (w := w.alloc (Obj.cells #[Value.slice A p.1.length c, Value.slice A2 p.2.length c2] 26)) (by simp)
    simpa using this
  rw [← hw1]
  clear hw1
  have x0 : w1.cell? ⟨w.heap.size, 0, none⟩ = some (.slice A p.1.length c) := X1.cell 0
  have x1 : w1.cell? ⟨w.heap.size, 1, none⟩ = some (.slice A2 p.2.length c2) := X1.cell 1
  have CP := Lib.hid ((specProgramOk_any _ p w1 (HP.out.on B1) hs).mono fun e w' (hh : e = .returned (.bool (progOk p)) ∧ Below w1.heap.size w1 w') => (⟨by rw [hh.1, hpo], hh.2⟩ : e = .returned (.bool po) ∧ Below w1.heap.size w1 w'))
  have HPO := Lib.hid hpo
  have HX1 := Lib.hid X1
  have HC1 := Lib.hid C1
  have HLO := Lib.hid hlo
  clear hpo X1 C1 hlo
  cases po
  · go_wp2_with (go_at_call 13; refine CP.out.mono ?_; rintro e w2 ⟨rfl, b2⟩; have B2 := Lib.hid (And.intro (bthen B1 b2) (HC1.out.on b2)); clear b2)
    go_ret
    have e : linksOf p = [] := by unfold linksOf; rw [← HPO.out]; rfl
    rw [e]
    exact ⟨_, 0, rfl, by have := B2.out.2.own; rwa [HLO.out] at this, B2.out.1⟩
  obtain ⟨hn24, hfit⟩ := asksOf_fits HPO.out.symm
  have CL := Lib.hid (fun W (hW : Below w.heap.size w W) => l5Links_any _ p W (HP.out.on hW) hs hn24 hfit)
  obtain ⟨ps, hps⟩ : ∃ ps, ps = asksOf p.2 := ⟨_, rfl⟩
  have HLK := Lib.hid (show linksOf p = linksL p.1.length p.1.length ps by unfold linksOf; rw [if_pos HPO.out.symm, hps])
  rw [← hps] at CL
  clear hfit hps
  go_upto_region 5 with (first
    | (go_at_call 13; refine CP.out.mono ?_; rintro e w2 ⟨rfl, b2⟩; have B2 := Lib.hid (bthen B1 b2)
       have HX2 := Lib.hid (HX1.out.below b2 HX1.out.lt)
       have HC2 := Lib.hid (HC1.out.on b2)
       have x20 : w2.cell? ⟨w.heap.size, 0, none⟩ = some (.slice A p.1.length c) := HX2.out.cell 0
       have x21 : w2.cell? ⟨w.heap.size, 1, none⟩ = some (.slice A2 p.2.length c2) := HX2.out.cell 1
       clear b2)
    | (go_at_call 54; refine (CL.out _ B2.out).mono ?_; rintro e w3 ⟨g, rfl, hg, h4, h5, b3⟩; have H3 := Lib.hid (And.intro hg (And.intro (HC2.out.on b3) (bthen B2.out b3))); clear hg h4 h5 b3))
  obtain ⟨hg, hc3, B3⟩ := H3.out
  have HC3 := Lib.hid (show ColK lo w3 [] (some ⟨w.heap.size + 1, 0, none⟩) 0 ∧ Below lo w w3 ∧ GridAt w3 g p.1.length (cellV ps) ∧ lo ≤ w3.heap.size from ⟨hc3, by rw [HLO.out]; exact B3, hg, by rw [HLO.out]; exact B3.size⟩)
  clear hg hc3 B3 H3 x0 x1 x20 x21
  go_wp2_with fail
  go_loopw [3, 5] (fun o i wr => ∃ (k : Nat) (A' : Option Addr) (c' : Nat), k ≤ p.1.length ∧ i = .int .i64 k ∧ o = .slice A' (linksL p.1.length k ps).length c' ∧ ColK lo wr (linksL p.1.length k ps) A' c' ∧ Below lo w wr ∧ GridAt wr g p.1.length (cellV ps) ∧ lo ≤ wr.heap.size) (fun _ i _ => p.1.length - (intOf i).toNat)
  case atStart => exact ⟨0, _, 0, Nat.zero_le _, rfl, rfl, HC3.out⟩
  case round =>
    obtain ⟨k, A', c', hk, rfl, rfl, hC⟩ := hrel
    have hll := linksL_len p.1.length k ps
    by_cases hlt : k < p.1.length
    · have HC0 := Lib.hid hC
      clear hC
      go_upto_region 9 with fail
      rename World => wk
      go_loopw [3, 6] (fun o i wr => ∃ (m : Nat) (X0 : List LLink) (A' : Option Addr) (c' : Nat), m ≤ p.1.length ∧ i = .int .i64 m ∧ o = .slice A' X0.length c' ∧ X0 = linksL p.1.length k ps ++ linksFrom m ps k ∧ ColK lo wr X0 A' c' ∧ Below lo w wr ∧ GridAt wr g p.1.length (cellV ps) ∧ lo ≤ wr.heap.size) (fun _ i _ => p.1.length - (intOf i).toNat)
      case atStart => exact ⟨0, linksL p.1.length k ps, A', c', Nat.zero_le _, rfl, rfl, by simp [linksFrom], HC0.out⟩
      case round =>
        obtain ⟨m, X0, A', c', hm, rfl, rfl, hX0, hC⟩ := hrel
        have HC := Lib.hid hC
        have hlX2 : X0.length ≤ 1280 := by
          have h1 := linksFrom_len m ps k
          have h2 : k * (p.1.length * 2) ≤ 24 * 48 := Nat.mul_le_mul (by omega) (by omega)
          rw [hX0, List.length_append]
          omega
        by_cases hltm : m < p.1.length
        · obtain ⟨t, ht⟩ : ∃ t, t = cellV ps k m := ⟨_, rfl⟩
          have HTE := Lib.hid ht
          have ht3 : t ≤ 3 := by rw [ht]; exact cellV_le _ _ _
          have HT := Lib.hid (show linksL p.1.length k ps ++ linksFrom (m + 1) ps k = X0 ++ linkAt ps k m from by
            rw [linksFrom_snoc, ← List.append_assoc, ← hX0])
          have hq0 : wr.cell? ⟨g, k, none⟩ = some (.slice (some ⟨g + 1 + k, 0, none⟩) p.1.length p.1.length) := hC.2.2.1.head hlt
          have hs0 : wr.cell? ⟨g + 1 + k, m, none⟩ = some (.int .i64 ((t : Nat) : Int)) := by rw [ht]; exact hC.2.2.1.cell hlt hltm
          obtain ⟨a0, ha0⟩ : ∃ a, a = asked 0 ps k m := ⟨_, rfl⟩
          obtain ⟨a1, ha1⟩ : ∃ a, a = asked 1 ps k m := ⟨_, rfl⟩
          have c1 : (((t : Nat) : Int) % 2 == 1) = a0 := by rw [ht, ha0]; exact cellV_odd _ _ _
          have c2 : decide ((1 : Int) < ((t : Nat) : Int)) = a1 := by rw [ht, ha1]; exact cellV_more _ _ _
          have HA0 := Lib.hid ha0.symm
          have HA1 := Lib.hid ha1.symm
          clear ha0 ha1 ht hX0 hC
          cases a0 <;> cases a1
          · go_wp2_with fail
            go_roundw
            case rel => exact ⟨m + 1, X0, A', c', by omega, by go_num, rfl, by rw [HT.out, linkAt, HA0.out, HA1.out]; simp, HC.out⟩
            case measure => simp [intOf]; omega
          · go_wp2_with (at_builtin; refine wpList_append_lies _ rfl (.tmp 49) (.tmp 53) 34 rfl lo 37 i0 (.agg #[.int .i64 0, .int .i64 0, .bool false]) 3 24 Tryd.underlying34 hi0 hz0 hz1 hz2 rfl (by decide) (.slice A' X0.length c') X0.length (flatK X0) rfl ?c1 ⟨_, 0, none⟩ 1 1 [.int .i64 k, .int .i64 m, .bool true] rfl rfl (news3 _ _ _ _ _ _ (by simp)) ?c2 (by omega) (by unfold maxLen; omega) (by omega) ?c3 _ rfl ?_)
            case c1 => exact HC.out.1.own.1.alloc _
            case c2 => intro u hu; simp at hu; rcases hu with rfl | rfl | rfl <;> rfl
            case c3 => have := HC.out.2.2.2; simp; omega
            intro g1 cap1 v1 hown1 hg1 _ _
            have HC1 := Lib.hid (ColK.moreG (l := ((k : Int), (m : Int), true)) HC.out.1 HC.out.2.1 HC.out.2.2.2 HC.out.2.2.1 hg1 hown1)
            have hq1 : v1.cell? ⟨g, k, none⟩ = some (.slice (some ⟨g + 1 + k, 0, none⟩) p.1.length p.1.length) := HC1.out.2.2.1.head hlt
            have hs1 : v1.cell? ⟨g + 1 + k, m, none⟩ = some (.int .i64 ((t : Nat) : Int)) := by rw [HTE.out]; exact HC1.out.2.2.1.cell hlt hltm
            obtain ⟨X1, hX1⟩ : ∃ X, X = X0 ++ [((k : Int), (m : Int), true)] := ⟨_, rfl⟩
            have hl1 : X0.length + 1 = X1.length := by rw [hX1]; simp
            rw [← hX1] at HC1
            rw [hl1]
            have hz1' : X1.length ≤ X0.length + 1 := by omega
            have HX1 := Lib.hid hX1
            clear hl1 hX1 hown1 hg1
            go_wp2_with fail
            go_roundw
            case rel => exact ⟨m + 1, X1, (some ⟨g1, 0, none⟩), cap1, by omega, by go_num, rfl, by rw [HT.out, HX1.out, linkAt, HA0.out, HA1.out]; simp, HC1.out⟩
            case measure => simp [intOf]; omega
          · go_wp2_with (at_builtin; refine wpList_append_lies _ rfl (.tmp 35) (.tmp 39) 34 rfl lo 37 i0 (.agg #[.int .i64 0, .int .i64 0, .bool false]) 3 24 Tryd.underlying34 hi0 hz0 hz1 hz2 rfl (by decide) (.slice A' X0.length c') X0.length (flatK X0) rfl ?c1 ⟨_, 0, none⟩ 1 1 [.int .i64 k, .int .i64 m, .bool false] rfl rfl (news3 _ _ _ _ _ _ (by simp)) ?c2 (by omega) (by unfold maxLen; omega) (by omega) ?c3 _ rfl ?_)
            case c1 => exact HC.out.1.own.1.alloc _
            case c2 => intro u hu; simp at hu; rcases hu with rfl | rfl | rfl <;> rfl
            case c3 => have := HC.out.2.2.2; simp; omega
            intro g1 cap1 v1 hown1 hg1 _ _
            have HC1 := Lib.hid (ColK.moreG (l := ((k : Int), (m : Int), false)) HC.out.1 HC.out.2.1 HC.out.2.2.2 HC.out.2.2.1 hg1 hown1)
            have hq1 : v1.cell? ⟨g, k, none⟩ = some (.slice (some ⟨g + 1 + k, 0, none⟩) p.1.length p.1.length) := HC1.out.2.2.1.head hlt
            have hs1 : v1.cell? ⟨g + 1 + k, m, none⟩ = some (.int .i64 ((t : Nat) : Int)) := by rw [HTE.out]; exact HC1.out.2.2.1.cell hlt hltm
            obtain ⟨X1, hX1⟩ : ∃ X, X = X0 ++ [((k : Int), (m : Int), false)] := ⟨_, rfl⟩
            have hl1 : X0.length + 1 = X1.length := by rw [hX1]; simp
            rw [← hX1] at HC1
            rw [hl1]
            have hz1' : X1.length ≤ X0.length + 1 := by omega
            have HX1 := Lib.hid hX1
            clear hl1 hX1 hown1 hg1
            go_wp2_with fail
            go_roundw
            case rel => exact ⟨m + 1, X1, (some ⟨g1, 0, none⟩), cap1, by omega, by go_num, rfl, by rw [HT.out, HX1.out, linkAt, HA0.out, HA1.out]; simp, HC1.out⟩
            case measure => simp [intOf]; omega
          · go_wp2_with (at_builtin; refine wpList_append_lies _ rfl (.tmp 35) (.tmp 39) 34 rfl lo 37 i0 (.agg #[.int .i64 0, .int .i64 0, .bool false]) 3 24 Tryd.underlying34 hi0 hz0 hz1 hz2 rfl (by decide) (.slice A' X0.length c') X0.length (flatK X0) rfl ?c1 ⟨_, 0, none⟩ 1 1 [.int .i64 k, .int .i64 m, .bool false] rfl rfl (news3 _ _ _ _ _ _ (by simp)) ?c2 (by omega) (by unfold maxLen; omega) (by omega) ?c3 _ rfl ?_)
            case c1 => exact HC.out.1.own.1.alloc _
            case c2 => intro u hu; simp at hu; rcases hu with rfl | rfl | rfl <;> rfl
            case c3 => have := HC.out.2.2.2; simp; omega
            intro g1 cap1 v1 hown1 hg1 _ _
            have HC1 := Lib.hid (ColK.moreG (l := ((k : Int), (m : Int), false)) HC.out.1 HC.out.2.1 HC.out.2.2.2 HC.out.2.2.1 hg1 hown1)
            have hq1 : v1.cell? ⟨g, k, none⟩ = some (.slice (some ⟨g + 1 + k, 0, none⟩) p.1.length p.1.length) := HC1.out.2.2.1.head hlt
            have hs1 : v1.cell? ⟨g + 1 + k, m, none⟩ = some (.int .i64 ((t : Nat) : Int)) := by rw [HTE.out]; exact HC1.out.2.2.1.cell hlt hltm
            obtain ⟨X1, hX1⟩ : ∃ X, X = X0 ++ [((k : Int), (m : Int), false)] := ⟨_, rfl⟩
            have hl1 : X0.length + 1 = X1.length := by rw [hX1]; simp
            rw [← hX1] at HC1
            rw [hl1]
            have hz1' : X1.length ≤ X0.length + 1 := by omega
            have HX1 := Lib.hid hX1
            clear hl1 hX1 hown1 hg1
            go_wp2_with (at_builtin; refine wpList_append_lies _ rfl (.tmp 49) (.tmp 53) 34 rfl lo 37 i0 (.agg #[.int .i64 0, .int .i64 0, .bool false]) 3 24 Tryd.underlying34 hi0 hz0 hz1 hz2 rfl (by decide) (.slice (some ⟨g1, 0, none⟩) X1.length cap1) X1.length (flatK X1) rfl ?c1 ⟨_, 0, none⟩ 1 1 [.int .i64 k, .int .i64 m, .bool true] rfl rfl (news3 _ _ _ _ _ _ (by simp)) ?c2 (by omega) (by unfold maxLen; omega) (by omega) ?c3 _ rfl ?_)
            case c1 => exact HC1.out.1.own.1.alloc _
            case c2 => intro u hu; simp at hu; rcases hu with rfl | rfl | rfl <;> rfl
            case c3 => have := HC1.out.2.2.2; simp; omega
            intro g2 cap2 v2 hown2 hg2 _ _
            have HC2 := Lib.hid (ColK.moreG (l := ((k : Int), (m : Int), true)) HC1.out.1 HC1.out.2.1 HC1.out.2.2.2 HC1.out.2.2.1 hg2 hown2)
            have hq2 : v2.cell? ⟨g, k, none⟩ = some (.slice (some ⟨g + 1 + k, 0, none⟩) p.1.length p.1.length) := HC2.out.2.2.1.head hlt
            have hs2 : v2.cell? ⟨g + 1 + k, m, none⟩ = some (.int .i64 ((t : Nat) : Int)) := by rw [HTE.out]; exact HC2.out.2.2.1.cell hlt hltm
            obtain ⟨X2, hX2⟩ : ∃ X, X = X1 ++ [((k : Int), (m : Int), true)] := ⟨_, rfl⟩
            have hl2 : X1.length + 1 = X2.length := by rw [hX2]; simp
            rw [← hX2] at HC2
            rw [hl2]
            have hz2' : X2.length ≤ X1.length + 1 := by omega
            have HX2 := Lib.hid hX2
            clear hl2 hX2 hown2 hg2
            go_wp2_with fail
            go_roundw
            case rel => exact ⟨m + 1, X2, (some ⟨g2, 0, none⟩), cap2, by omega, by go_num, rfl, by rw [HT.out, HX2.out, HX1.out, linkAt, HA0.out, HA1.out]; simp, HC2.out⟩
            case measure => simp [intOf]; omega
        · have HE := Lib.hid (show X0 = linksL p.1.length (k + 1) ps from by rw [hX0, show m = p.1.length by omega, linksL_snoc])
          clear hX0 hC
          go_wp2_with fail
          go_roundw
          case rel => exact ⟨k + 1, A', c', by omega, by go_num, by rw [HE.out], by rw [← HE.out]; exact HC.out.1, HC.out.2⟩
          case measure => simp [intOf]; omega
    · have hkn : k = p.1.length := by omega
      rw [hkn] at hC
      have HO := Lib.hid hC
      rw [← HLK.out] at HO
      have HKE := Lib.hid (show linksL p.1.length k ps = linksOf p by rw [HLK.out, hkn])
      rw [HKE.out]
      clear hC hkn hll
      go_wp2_with fail
      go_ret
      exact ⟨A', c', rfl, by have := HO.out.1.own; rwa [HLO.out] at this, by have := HO.out.2.1; rwa [HLO.out] at this⟩

end Go.Proofs.YtokmmloakahkhaaDoor
