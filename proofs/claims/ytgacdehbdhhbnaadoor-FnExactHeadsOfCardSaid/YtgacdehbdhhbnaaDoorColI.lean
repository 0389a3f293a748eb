/-
  The loop that collects integers; the walk of the specification's RulesOf.
-/
import Derived.Test.YtgacdehbdhhbnaaDoorPgms
import Derived.Test.YtgacdehbdhhbnaaDoorWrites
import Derived.Maps.AppendAt
import Derived.Deep.AppendLies
namespace Go.Proofs.YtgacdehbdhhbnaaDoor
open Go.RowKit

/-- The relation of a loop that collects integers. -/
structure ColI (w wr : World) (xs : List Int) (A : Option Addr) (c : Nat) : Prop where
  below : Below w.heap.size w wr
  own : OwnInts wr w.heap.size wr.heap.size (.slice A xs.length c) xs
theorem ColI.nil {w wr : World} (hb : Below w.heap.size w wr) : ColI w wr [] none 0 := ⟨hb, World.ownsRow_nil _ _ _ _, fun g hg => by cases hg⟩
theorem ColI.empty {w wr : World} (hb : Below w.heap.size w wr) : ColI w (wr.alloc (.cells #[] 3)) [] (some ⟨wr.heap.size, 0, none⟩) 0 :=
  ⟨hb.alloc hb.size _, World.ownsRow_made wr #[] 0 hb.size (by decide) rfl, fun g hg => by simp [Value.ownBlock] at hg; subst hg; simp⟩
theorem grown_from_alloc {w w' : World} {o : Obj} {row : Option Nat} (hg : (w.alloc o).grownBy w' row) : w.grownBy w' row :=
  (World.grownBy_alloc w o row).trans hg
theorem ColI.push {w wr w2 w4 : World} {xs : List Int} {A : Option Addr} {c g cap : Nat} {x : Int} {o : Obj} (h : ColI w wr xs A c) (hb : Below wr.heap.size wr w2)
    (hg : (w2.alloc o).grownBy w4 (Value.slice A xs.length c).ownBlock) (hown : w4.ownsRow w.heap.size 3 1 (.slice (some ⟨g, 0, none⟩) (xs.length + 1) cap) (xs.length + 1) (xs.map (Value.int .i64) ++ [.int .i64 x])) :
    ColI w w4 (xs ++ [x]) (some ⟨g, 0, none⟩) cap := by
  have hl : (xs ++ [x]).length = xs.length + 1 := by simp
  refine ⟨((bthen h.below hb).alloc (bthen h.below hb).size _).grown hg (by have := (bthen h.below hb).size; simp; omega) (fun k hk => (h.own.1.lt k hk).1), ?_⟩
  rw [hl]
  exact ⟨by simpa using hown, fun b hb' => (hown.lt b hb').2⟩
theorem news1 (w : World) (x : Value) (t : TypeId) : ∀ j u, [x][j]? = some u → (w.alloc (.cells #[x] t)).cell? ((⟨w.heap.size, 0, none⟩ : Addr).add j) = some u := World.news_of_block (cs := #[x]) (heap_alloc_new w _)

theorem news1s (w : World) (x : Value) (t : TypeId) (n : Nat) (hn : w.heap.size = n) : ∀ j u, [x][j]? = some u → (w.alloc (.cells #[x] t)).cell? ((⟨n, 0, none⟩ : Addr).add j) = some u := hn ▸ news1 w x t

/-- The indexes of rules, of the first k, whose head has a predicate. -/
def rulesTo (rs : List LRule) (pred : Int) (k : Nat) : List Int := ((List.range k).filter fun i => (rs.getD i ((0, []), [])).1.1 == pred).map fun i : Nat => (i : Int)
def rulesOf (p : LProg) (pred : Int) : List Int := rulesTo p.2 pred p.2.length
theorem rulesTo_yes {rs : List LRule} {pred : Int} {k : Nat} (h : k < rs.length) (e : rs[k].1.1 = pred) : rulesTo rs pred (k + 1) = rulesTo rs pred k ++ [(k : Int)] := by
  unfold rulesTo
  rw [List.range_succ, List.filter_append, List.map_append]
  congr 1
  simp [h, e]
theorem rulesTo_no {rs : List LRule} {pred : Int} {k : Nat} (h : k < rs.length) (e : rs[k].1.1 ≠ pred) : rulesTo rs pred (k + 1) = rulesTo rs pred k := by
  unfold rulesTo
  rw [List.range_succ, List.filter_append, List.map_append]
  simp [h, e]
theorem rulesTo_length (rs : List LRule) (pred : Int) (k : Nat) : (rulesTo rs pred k).length ≤ k := by
  unfold rulesTo
  rw [List.length_map]
  exact Nat.le_trans (List.length_filter_le _ _) (by simp)

set_option maxHeartbeats 1000000 in
set_option maxRecDepth 100000 in
theorem specRulesOf_any (v : Value) (p : LProg) (pred : Int) (w : World) (h : RdProg w w.heap.size v p) (hs : szP p ≤ 1048576) :
    Calls Tryd.prog 33 #[v, .int .i64 pred] w fun e w' => ∃ A' c', e = .returned (.slice A' (rulesOf p pred).length c') ∧ OwnInts w' w.heap.size w'.heap.size (.slice A' (rulesOf p pred).length c') (rulesOf p pred) ∧ Below w.heap.size w w' := by
  obtain ⟨i0, hi0, hz0, hz1, hz2⟩ := info_parts Tryd.infoInt
  unfold szP at hs
  obtain ⟨a, b, rfl, h, h2⟩ := h
  have H2 := Lib.hid h2
  obtain ⟨A, c, rfl, hc, _⟩ := h
  obtain ⟨A2, c2, rfl, hc2, _⟩ := h2
  go_enter Tryd.func33, Tryd.ntmps33
  go_wp2_with (fail)
  obtain ⟨w2, hw2⟩ : ∃ w2, w2 = w.alloc (Obj.cells #[Value.slice A p.1.length c, Value.slice A2 p.2.length c2] 47) := ⟨_, rfl⟩
  have B2 : Below w.heap.size w w2 := by rw [hw2]; exact below1 _ _
  have x2 : Blk w2 w.heap.size 47 #[.slice A p.1.length c, .slice A2 p.2.length c2] := by rw [hw2]; exact Blk.new _ _ _
  have S2 := Lib.hid (show w2.heap.size = w.heap.size + 1 by rw [hw2]; simp)
  rw [← hw2]
  clear hw2
  go_loopw [5, 6] (fun o i wr => ∃ (k : Nat) (A' : Option Addr) (c' : Nat), k ≤ p.2.length ∧ i = .int .i64 k ∧ o = .slice A' (rulesTo p.2 pred k).length c' ∧ ColI w2 wr (rulesTo p.2 pred k) A' c') (fun _ i _ => p.2.length - (intOf i).toNat)
  case atStart => exact ⟨0, _, 0, Nat.zero_le _, rfl, rfl, by rw [← S2.out]; exact ColI.empty (Below.refl _ _)⟩
  case round =>
    obtain ⟨k, A', c', hk, rfl, rfl, hr⟩ := hrel
    have hln := rulesTo_length p.2 pred k
    have BW := bthen B2 hr.below
    have xr := x2.below hr.below x2.lt
    have q1 : wr.cell? ⟨w.heap.size, 1, none⟩ = some (.slice A2 p.2.length c2) := xr.cell 1
    by_cases hlt : k < p.2.length
    · obtain ⟨b, o, u0, u1, u2, rfl, hbB, k0, k1, k2, rfl, p3, p4⟩ := (H2.out.on BW).get hlt
      obtain ⟨A4, c4, rfl, hc4, _⟩ := p3
      obtain ⟨A5, c5, rfl, hc5, _⟩ := p4
      by_cases he : p.2[k].1.1 = pred
      · have heb : (p.2[k].1.1 == pred) = true := by simp [he]
        have HS := Lib.hid (rulesTo_yes hlt he)
        have HP := Lib.hid hr
        clear he hr
        go_wp2_with (at_builtin; refine wpList_append_lies _ rfl (.tmp 24) (.tmp 26) 22 rfl w2.heap.size 3 i0 (.int .i64 0) 1 8 Tryd.underlying22 hi0 hz0 hz1 hz2 rfl (by decide) (.slice A' (rulesTo p.2 pred k).length c') (rulesTo p.2 pred k).length ((rulesTo p.2 pred k).map (Value.int .i64)) rfl ?c1 ⟨_, 0, none⟩ 1 1 [.int .i64 k] rfl rfl (news1s _ _ _ _ (by simp)) ?c2 (by omega) (by unfold maxLen; omega) (by omega) ?c3 _ rfl ?_)
        case c1 => exact HP.out.own.1.alloc _
        case c2 => intro u hu; simp at hu; subst hu; rfl
        case c3 => have := HP.out.below.size; simp; omega
        intro g cap w4 hown hg _ _
        have hcol := HP.out.push (Below.refl _ _) hg hown
        rw [← HS.out] at hcol
        have hlen : (rulesTo p.2 pred k).length + 1 = (rulesTo p.2 pred (k + 1)).length := by rw [HS.out]; simp
        rw [hlen]
        have HC := Lib.hid hcol
        clear hcol hlen hown hg
        go_wp2_with (fail)
        go_roundw
        case rel => exact ⟨k + 1, _, _, by omega, by go_num, rfl, HC.out⟩
        case measure => simp [intOf]; omega
      · have heb : (p.2[k].1.1 == pred) = false := by simp [he]
        have HS := Lib.hid (rulesTo_no hlt he)
        have HP := Lib.hid hr
        clear he hr
        go_wp2_with (fail)
        go_roundw
        case rel => exact ⟨k + 1, _, _, by omega, by go_num, by rw [HS.out], by rw [HS.out]; exact HP.out⟩
        case measure => simp [intOf]; omega
    · have hkn : k = p.2.length := by omega
      have HO := Lib.hid (show OwnInts wr w2.heap.size wr.heap.size (.slice A' (rulesOf p pred).length c') (rulesOf p pred) ∧ rulesTo p.2 pred k = rulesOf p pred by
        have := hr.own
        rw [hkn] at this ⊢
        exact ⟨this, rfl⟩)
      have hsz2 := B2.size
      rw [HO.out.2]
      clear hkn hr
      go_wp2_with (fail)
      go_ret
      exact ⟨_, _, rfl, HO.out.1.mono hsz2 (Nat.le_refl _), BW⟩

end Go.Proofs.YtgacdehbdhhbnaaDoor
