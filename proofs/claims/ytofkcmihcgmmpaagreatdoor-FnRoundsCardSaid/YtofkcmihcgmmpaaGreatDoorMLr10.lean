/-
  Texts that the claim's last one imports, laid together: part 10 of 16. No condition of its own.
-/
import Derived.Laws.IdiomCopy
import Derived.Deep.RegionLaw
import Derived.Deep.RegionHeld3
import Derived.Deep.DeepCutAuto
import Derived.Deep.RegionWith
import Derived.Test.YtofkcmihcgmmpaaGreatDoorMLr2
import Derived.Test.YtofkcmihcgmmpaaGreatDoorMLr3
import Derived.Test.YtofkcmihcgmmpaaGreatDoorMLr5
import Derived.Test.YtofkcmihcgmmpaaGreatDoorMLr6
import Derived.Test.YtofkcmihcgmmpaaGreatDoorMLr9
namespace Go.Proofs.YtofkcmihcgmmpaaGreatDoor
set_option maxRecDepth 100000
open Go.RowKit
abbrev QV := Value × Value × Value × Value
def zaG : List QV -> List Value
 | [] => []
 | u :: us => u.1 :: u.2.1 :: u.2.2.1 :: u.2.2.2 :: zaG us
theorem zdw : ∀ us : List QV, (zaG us).length = us.length * 4
 | [] => rfl
 | u :: us => by simp only [zaG, List.length_cons, zdw us]; omega
theorem zdx : ∀ us vs : List QV, zaG (us ++ vs) = zaG us ++ zaG vs
 | [], vs => rfl
 | u :: us, vs => by simp only [List.cons_append, zaG, zdx us vs]
theorem zlr : ∀ (us : List QV) (k : Nat) (h : k < us.length), (zaG us)[k * 4]? = some us[k].1 /\ (zaG us)[k * 4 + 1]? = some us[k].2.1 /\ (zaG us)[k * 4 + 2]? = some us[k].2.2.1 /\ (zaG us)[k * 4 + 3]? = some us[k].2.2.2
 | u :: us, 0, _ => ⟨rfl, rfl, rfl, rfl⟩
 | u :: us, k + 1, h => by
  have ih := zlr us k (by simpa using h)
  have e : ∀ r, (zaG (u :: us))[(k + 1) * 4 + r]? = (zaG us)[k * 4 + r]? := fun r => by
   rw [show (k + 1) * 4 + r = (k * 4 + r) + 1 + 1 + 1 + 1 by omega]
   rfl
  have e0 := e 0
  rw [Nat.add_zero, Nat.add_zero] at e0
  rw [e0, e 1, e 2, e 3]
  exact ih
theorem ziY : ∀ (us : List QV) (i : Nat), zaG (us.take i) = (zaG us).take (i * 4)
 | [], i => by simp [zaG]
 | u :: us, 0 => by simp [zaG]
 | u :: us, i + 1 => by
  rw [show (i + 1) * 4 = i * 4 + 1 + 1 + 1 + 1 by omega]
  simp only [List.take_succ_cons, zaG, ziY us i]
theorem ziZ : ∀ (us : List QV) (i : Nat), zaG (us.drop i) = (zaG us).drop (i * 4)
 | [], i => by simp [zaG]
 | u :: us, 0 => by simp
 | u :: us, i + 1 => by
  rw [show (i + 1) * 4 = i * 4 + 1 + 1 + 1 + 1 by omega]
  simp only [List.drop_succ_cons, zaG, ziZ us i]
def AtQ (w : World) (g c : Nat) (us : List QV) : Prop :=
 ∃ cur, w.heap[g]? = some (.cells cur 135 (0, 0)) /\ us.length <= c /\ c <= maxLen /\ cur.size = c * 4 /\ cur.toList.take (us.length * 4) = zaG us
def zbX (w : World) (B : Nat) (us : List QV) (qs : List LQ) : Prop := us.length = qs.length /\ ∀ k (h : k < us.length) (h2 : k < qs.length), zmI w B us[k].1 us[k].2.1 us[k].2.2.1 us[k].2.2.2 qs[k]
section
variable {w w' : World} {g c lo hi B : Nat} {us : List QV} {qs : List LQ}
theorem AtQ.lt (h : AtQ w g c us) : g < w.heap.size := by
 obtain ⟨cur, hg, _⟩ := h
 exact Blk.lt hg
theorem AtQ.cell (h : AtQ w g c us) {j : Nat} (hj : j < us.length * 4) : w.cell? ⟨g, j, none⟩ = (zaG us)[j]? := by
 obtain ⟨cur, hg, h1, h2, h3, h4⟩ := h
 rw [Blk.cell hg, <- h4, List.getElem?_take_of_lt hj, Array.getElem?_toList]
theorem AtQ.frozen (h : AtQ w g c us) (j : Nat) : w.frozen? ⟨g, j, none⟩ = false := by
 obtain ⟨cur, hg, _⟩ := h
 exact Blk.frozen hg j
theorem AtQ.cells (h : AtQ w g c us) {k : Nat} (hk : k < us.length) : w.cell? ⟨g, k * 4, none⟩ = some us[k].1 /\ w.cell? ⟨g, k * 4 + 1, none⟩ = some us[k].2.1 /\ w.cell? ⟨g, k * 4 + 2, none⟩ = some us[k].2.2.1 /\ w.cell? ⟨g, k * 4 + 3, none⟩ = some us[k].2.2.2 := by
 obtain ⟨a, b, d, e⟩ := zlr us k hk
 exact ⟨by rw [h.cell (by omega), a], by rw [h.cell (by omega), b], by rw [h.cell (by omega), d], by rw [h.cell (by omega), e]⟩
theorem AtQ.only (h : AtQ w g c us) (ho : zl lo hi w w') (hd : g < lo \/ hi <= g) : AtQ w' g c us := by
 obtain ⟨cur, hg, r⟩ := h
 exact ⟨cur, (ho.block g (Blk.lt hg) hd).trans hg, r⟩
theorem AtQ.below (h : AtQ w g c us) (hb : Below B w w') (hg : g < B) : AtQ w' g c us := by
 obtain ⟨cur, e, r⟩ := h
 exact ⟨cur, (hb.block g hg).trans e, r⟩
theorem zbX.below {B' : Nat} (h : zbX w B us qs) (hb : Below B' w w') (hB : B <= B') : zbX w' B us qs := ⟨h.1, fun k h1 h2 => by
 obtain ⟨a, b, d, e⟩ := h.2 k h1 h2
 exact ⟨a, b, d.below hb hB, e.below hb hB⟩⟩
end
theorem zcG (g : Nat) : ∀ (vs : List Value) (o : Nat) (w : World) (cur : Array Value) (t : TypeId), w.heap[g]? = some (.cells cur t (0, 0)) -> o + vs.length <= cur.size ->
 ∃ cur', (w.setCells g o vs).heap[g]? = some (.cells cur' t (0, 0)) /\ cur'.size = cur.size /\ (∀ j, cur'[j]? = if o <= j /\ j < o + vs.length then vs[j - o]? else cur[j]?) /\ zl g (g + 1) w (w.setCells g o vs)
 | [], o, w, cur, t, h, _ => ⟨cur, h, rfl, fun j => by rw [if_neg (by simp only [List.length_nil]; omega)], zl.refl _ _ _⟩
 | v :: vs, o, w, cur, t, h, hs => by
  simp only [List.length_cons] at hs
  obtain ⟨cur', h1, h2, h3, h4⟩ := zcG g vs (o + 1) (w.setCell ⟨g, o, none⟩ v) _ t (Blk.set_ (show Blk w g t cur from h) o v) (by simp; omega)
  refine ⟨cur', h1, by simpa using h2, fun j => ?_, (zl.setCell (p := ⟨g, o, none⟩) (zl.refl g (g + 1) w) ⟨Nat.le_refl g, Nat.lt_succ_self g⟩ v).trans h4⟩
  rw [h3 j, Array.getElem?_setIfInBounds]
  by_cases e : o = j
  ·subst e
   rw [if_neg (by omega), if_pos rfl, if_pos (by omega), if_pos (by simp)]
   simp
  ·by_cases e2 : o + 1 <= j /\ j < o + 1 + vs.length
   ·rw [if_pos e2, if_pos (by simp; omega)]
    rw [show j - o = (j - (o + 1)) + 1 by omega]
    simp
   ·rw [if_neg e2, if_neg e, if_neg (by simp; omega)]
theorem Tryz.infoQuestion : (Tryz.prog.info? 135).map (fun i => (i.zero, i.size, i.bytes)) = some (some (.agg #[.int .i64 0, .int .i64 0, .slice none 0 0, .slice none 0 0]), 4, 64) := by kernel_rfl
theorem AtQ.past {w : World} {g c o : Nat} {us : List QV} {vs : List Value} (h : AtQ w g c us) (ho : us.length * 4 <= o) (hl : o + vs.length <= c * 4) : AtQ (w.setCells g o vs) g c us /\ zl g (g + 1) w (w.setCells g o vs) := by
 obtain ⟨cur, hg, h1, h2, h3, h4⟩ := h
 obtain ⟨cur', g1, g2, g3, g4⟩ := zcG g vs o w cur _ hg (by omega)
 refine ⟨⟨cur', g1, h1, h2, by omega, ?_⟩, g4⟩
 rw [<- h4]
 apply List.ext_getElem?
 intro j
 rw [List.getElem?_take, List.getElem?_take]
 split
 ·rw [Array.getElem?_toList, Array.getElem?_toList, g3 j, if_neg (by omega)]
 ·rfl
theorem AtQ.deleted {w : World} {g c i : Nat} {us : List QV} (h : AtQ w g c us) (hi : i < us.length) : AtQ (w.setCells g (i * 4) ((zaG us).drop ((i + 1) * 4))) g c (us.eraseIdx i) /\ zl g (g + 1) w (w.setCells g (i * 4) ((zaG us).drop ((i + 1) * 4))) := by
 obtain ⟨cur, hg, h1, h2, h3, h4⟩ := h
 have hfl := zdw us
 have hdl : ((zaG us).drop ((i + 1) * 4)).length = us.length * 4 - (i + 1) * 4 := by rw [List.length_drop, hfl]
 obtain ⟨cur', g1, g2, g3, g4⟩ := zcG g ((zaG us).drop ((i + 1) * 4)) (i * 4) w cur _ hg (by omega)
 have hel : (us.eraseIdx i).length = us.length - 1 := List.length_eraseIdx_of_lt hi
 refine ⟨⟨cur', g1, by omega, h2, by omega, ?_⟩, g4⟩
 rw [hel, List.eraseIdx_eq_take_drop_succ, zdx, ziY, ziZ]
 apply List.ext_getElem?
 intro j
 by_cases hj : j < (us.length - 1) * 4
 ·rw [List.getElem?_take_of_lt hj, Array.getElem?_toList, g3 j]
  by_cases h5 : j < i * 4
  ·rw [if_neg (by omega), List.getElem?_append_left (by rw [List.length_take, hfl]; omega), List.getElem?_take_of_lt h5, <- h4, List.getElem?_take_of_lt (by omega), Array.getElem?_toList]
  ·rw [if_pos (by omega), List.getElem?_append_right (by rw [List.length_take, hfl]; omega), List.length_take, hfl]
   congr 1
   omega
 ·rw [List.getElem?_eq_none (by simp; omega), List.getElem?_eq_none (by simp [hfl]; omega)]
theorem zkV {w : World} {g k : Nat} {cur : Array Value} (hg : Blk w g 135 cur) (hk : k * 4 + 4 <= cur.size) (d : Nat) (ty : TypeId) :
 (Builtin.clear_ #[99] ty #[.slice (some ⟨g, k * 4, none⟩) 1 d]).run Tryz.prog w = .ok (.tuple #[]) (w.setCells g (k * 4) [.int .i64 0, .int .i64 0, .slice none 0 0, .slice none 0 0]) := by
 have hz : ∀ W, (zeroValue 135).run Tryz.prog W = .ok (.agg #[.int .i64 0, .int .i64 0, .slice none 0 0, .slice none 0 0]) W := Tryz.zeroValue135
 obtain ⟨zc, hzc⟩ : ∃ zc : List Value, zc = [.int .i64 0, .int .i64 0, .slice none 0 0, .slice none 0 0] := ⟨_, rfl⟩
 have hst := run_storeCells_cells (P := Tryz.prog) g (k * 4) zc 0 w (fun j hj => by
  have : j < 4 := by rw [hzc] at hj; exact hj
  rw [Blk.cell hg, Array.getElem?_eq_getElem (by omega)]
  rfl) (fun j _ => Blk.frozen hg _) (by rw [hzc]; intro v hv; simp at hv; rcases hv with rfl | rfl <;> rfl)
 rw [Nat.add_zero] at hst
 have hzz : (Builtin.zeroCells #[Value.int IntKind.i64 0, Value.int IntKind.i64 0, Value.slice none 0 0, Value.slice none 0 0] 1).toList = zc := by rw [hzc]; simp [Builtin.zeroCells, List.range_succ]
 rw [<- hzc]
 simp only [Builtin.clear_]
 simp [run_underlying Tryz.underlying99, hz, Value.cells, hzz, hst]
set_option maxHeartbeats 4000000 in
theorem zlB (g c i m : Nat) (us : List QV) (w : World) (h : AtQ w g c us) (hm : us.length = m + 1) (hi : i <= m) (hn : m <= 1048576) (h1c : ∀ u ∈ zaG us, u.oneCell' = true) :
 Calls Tryz.prog 137 #[.slice (some ⟨g, 0, none⟩) (m + 1 : Nat) c, .int .i64 i, .int .i64 ((i : Int) + 1)] w fun e w' =>
  e = .returned (.slice (some ⟨g, 0, none⟩) m c) /\ AtQ w' g c (us.eraseIdx i) /\ zl g (g + 1) w w' := by
 obtain ⟨i0, hi0, hz0, hz1, hz2⟩ := info_parts Tryz.infoQuestion
 have hcap : m + 1 <= c := by obtain ⟨_, _, h1, _⟩ := h; omega
 have hcm : c <= maxLen := by obtain ⟨_, _, _, h2, _⟩ := h; exact h2
 have hcm2 : c <= 9223372036854775807 := by unfold maxLen at hcm; omega
 obtain ⟨news, hnews⟩ : ∃ news, news = (zaG us).drop ((i + 1) * 4) := ⟨_, rfl⟩
 have hfl := zdw us
 have hnl : news.length = (m - i) * 4 := by rw [hnews, List.length_drop, hfl, hm]; omega
 -- where the moved questions stand
 obtain ⟨A, hA, hsrc⟩ : ∃ A : Addr, (if c = i + 1 then some (⟨g, 0, none⟩ : Addr) else some ⟨g, (i + 1) * 4, none⟩) = some A /\ Hid (∀ t u, news[t]? = some u -> w.drew.cell? (A.add t) = some u) := by
  by_cases e : c = i + 1
  ·refine ⟨⟨g, 0, none⟩, by simp [e], fun t u hu => ?_⟩
   have h0 : news.length = 0 := by omega
   rw [List.length_eq_zero_iff.1 h0] at hu
   simp at hu
  ·refine ⟨⟨g, (i + 1) * 4, none⟩, by simp [e], fun t u hu => ?_⟩
   have ht : t < news.length := (List.getElem?_eq_some_iff.1 hu).1
   rw [hnews, List.getElem?_drop] at hu
   rw [Go.WideShapes.add_plain]
   show w.cell? ⟨g, (i + 1) * 4 + t, none⟩ = _
   rw [h.cell (by omega), hu]
 have s2 : Hid (∀ u ∈ news, u.oneCell' = true) := fun u hu => h1c u (by rw [hnews] at hu; exact List.mem_of_mem_drop hu)
 have s3 : Hid (∀ t, t < news.length -> (w.drew.cell? ⟨g, 0 + i * 4 + t, none⟩).isSome = true /\ w.drew.frozen? ⟨g, 0 + i * 4 + t, none⟩ = false) := fun t ht => by
  rw [Nat.zero_add]
  refine ⟨?_, h.frozen _⟩
  show (w.cell? ⟨g, i * 4 + t, none⟩).isSome = true
  rw [h.cell (by omega), List.getElem?_eq_getElem (by rw [hfl]; omega)]
  rfl
 obtain ⟨W1, hW1⟩ : ∃ W1, W1 = w.drew.setCells g (0 + i * 4) news := ⟨_, rfl⟩
 have hd : AtQ W1 g c (us.eraseIdx i) /\ zl g (g + 1) w W1 := by
  have h' : AtQ w.drew g c us := h
  have := h'.deleted (i := i) (by omega)
  rw [<- hnews] at this
  rw [hW1, Nat.zero_add]
  exact ⟨this.1, (zl.of_below (zX (Below.refl _ w) 1)).trans this.2⟩
 have hel : (us.eraseIdx i).length = m := by rw [List.length_eraseIdx_of_lt (by omega)]; omega
 have hcl : ∀ ty, (Builtin.clear_ #[99] ty #[.slice (some ⟨g, m * 4, none⟩) 1 (c - m)]).run Tryz.prog W1 = .ok (.tuple #[]) (W1.setCells g (m * 4) [.int .i64 0, .int .i64 0, .slice none 0 0, .slice none 0 0]) := fun ty => by
  obtain ⟨cur, hg, _, _, hs, _⟩ := hd.1
  exact zkV hg (by omega) _ ty
 have HP := Lib.hid (hd.1.past (o := m * 4) (vs := [.int .i64 0, .int .i64 0, .slice none 0 0, .slice none 0 0]) (by rw [hel]; exact Nat.le_refl _) (by simp only [List.length_cons, List.length_nil]; omega))
 have HO := Lib.hid hd.2
 have hW : Hid (W1 = w.drew.setCells g (0 + i * 4) news) := hW1
 have hic : i <= c := by omega
 have hjc : i + 1 <= c := by omega
 have hip : (0 : Int) <= (i : Int) + 1 := by omega
 have hmp : (0 : Int) <= (m : Int) + 1 := by omega
 have hml : Hid (i + (m - i) = m) := by show _ = _; omega
 clear hW1 hd h hnews hfl hcm h1c hel hm
 go_enter Tryz.func137, Tryz.ntmps137
 go_wp2_with fail
 go_region_law (refine step_append_room rfl (.tmp 22) (.tmp 25) 99 rfl 135 i0 4 Tryz.underlying99 hi0 hz1 g 0 i c (by simp [Act.eval, Act.put]) A (m - i) (c - (i + 1)) news (by simp [Act.eval, Act.put]) hnl hsrc.out s2.out (by omega) s3.out ?_; rw [<- hW.out, hml.out])
 have hcne : ¬ c = m := by omega
 have hmm : m <= m + 1 := by omega
 have hmi : (m : Int) <= (m : Int) + 1 := by omega
 go_wp2_with (simp only [hcl])
 go_ret
 exact ⟨rfl, HP.out.1, HO.out.trans HP.out.2⟩
open Go.RowKit
theorem zbX.more {w : World} {B B' : Nat} {us : List QV} {qs : List LQ} (h : zbX w B us qs) (hB : B <= B') : zbX w B' us qs := ⟨h.1, fun k h1 h2 => by
 obtain ⟨a, b, d, e⟩ := h.2 k h1 h2
 exact ⟨a, b, d.more hB, e.more hB⟩⟩
theorem zbX.only {w w' : World} {B lo hi : Nat} {us : List QV} {qs : List LQ} (h : zbX w B us qs) (ho : zl lo hi w w') (hB : B <= lo) (hs : B <= w.heap.size) : zbX w' B us qs := h.below (ho.below hB hs) (Nat.le_refl _)
theorem AtQ.quest {w : World} {g c B k : Nat} {us : List QV} {qs : List LQ} (h : AtQ w g c us) (hr : zbX w B us qs) (hk : k < qs.length) : ∃ A2 c2 A3 c3,
 w.cell? ⟨g, k * 4, none⟩ = some (.int .i64 qs[k].1.1) /\ w.cell? ⟨g, k * 4 + 1, none⟩ = some (.int .i64 qs[k].1.2.1) /\ w.cell? ⟨g, k * 4 + 2, none⟩ = some (.slice A2 qs[k].1.2.2.length c2) /\ w.cell? ⟨g, k * 4 + 3, none⟩ = some (.slice A3 qs[k].2.length c3) /\
 zmI w B (.int .i64 qs[k].1.1) (.int .i64 qs[k].1.2.1) (.slice A2 qs[k].1.2.2.length c2) (.slice A3 qs[k].2.length c3) qs[k] := by
 have hku : k < us.length := by rw [hr.1]; exact hk
 obtain ⟨e0, e1, e2, e3⟩ := h.cells hku
 obtain ⟨a0, a1, a2, a3⟩ := hr.2 k hku hk
 have b2 := a2
 have b3 := a3
 obtain ⟨A2, c2, f2, _⟩ := a2
 obtain ⟨A3, c3, f3, _⟩ := a3
 rw [f2] at e2 b2
 rw [f3] at e3 b3
 rw [a0] at e0
 rw [a1] at e1
 exact ⟨A2, c2, A3, c3, e0, e1, e2, e3, rfl, rfl, b2, b3⟩
def zoy (K : Nat) (q : LQ) : Prop := q.1.1 = 0 \/ ∀ v, v < 4 -> (maskOf q.1.2.2).testBit v = true -> K.testBit v = true
theorem zdO {a b : Nat} : zci a b 4 = true <-> ∀ v, v < 4 -> a.testBit v = true -> b.testBit v = true := by
 unfold zci
 rw [List.all_eq_true]
 constructor
 ·intro h v hv ha
  have := h v (List.mem_range.2 hv)
  rw [ha] at this
  simpa using this
 ·intro h v hv
  have := h v (List.mem_range.1 hv)
  cases ha : a.testBit v
  ·rfl
  ·rw [this ha]; rfl
set_option maxHeartbeats 1000000 in
theorem znu (B : Nat) (q : LQ) (u0 u1 u2 u3 : Value) (w : World) (hq : zmI w B u0 u1 u2 u3 q) :
 Calls Tryz.prog 161 #[.agg #[u0, u1, u2, u3]] w fun e w' => e = .returned (.bool (q.1.1 == 0)) /\ Below w.heap.size w w' := by
 obtain ⟨rfl, rfl, hu2, hu3⟩ := hq
 obtain ⟨A2, c2, rfl, hc2, _⟩ := hu2
 obtain ⟨A3, c3, rfl, hc3, _⟩ := hu3
 go_enter Tryz.func161, Tryz.ntmps161
 go_wp2_with fail
 go_ret
 exact ⟨rfl, ze _ _⟩
set_option maxHeartbeats 2000000 in
theorem zkp (g c B : Nat) (us : List QV) (qs : List LQ) (w : World) (h : AtQ w g c us) (hr : zbX w B us qs) (hB : B <= w.heap.size) (hn : qs.length <= 1048576) (hex : ∃ i, ∃ h : i < qs.length, qs[i].1.1 = 0) :
 Calls Tryz.prog 160 #[.slice (some ⟨g, 0, none⟩) qs.length c, .func (.func 161) #[] #[]] w fun e w' =>
  ∃ i : Nat, e = .returned (.int .i64 i) /\ (∃ h : i < qs.length, qs[i].1.1 = 0) /\ Below w.heap.size w w' := by
 have H := Lib.hid h
 have HR := Lib.hid hr
 have HX := Lib.hid hex
 clear hex
 go_enter Tryz.func160, Tryz.ntmps160
 go_wp2_with fail
 go_loopw [8] (fun i wr => ∃ k : Nat, k <= qs.length /\ i = .int .i64 k /\ (∀ j (h : j < qs.length), j < k -> qs[j].1.1 ≠ 0) /\ Below w.heap.size w wr) (fun i _ => qs.length - (intOf i).toNat)
 case atStart => exact ⟨0, Nat.zero_le _, rfl, fun j _ h => absurd h (by omega), Below.refl _ _⟩
 case round =>
  obtain ⟨k, hk, rfl, hs, hbe⟩ := hrel
  by_cases hlt : k < qs.length
  ·obtain ⟨A2, c2, A3, c3, q0, q1, q2, q3, hq⟩ := (H.out.below hbe H.out.lt).quest (HR.out.below hbe hB) hlt
   have CI := Lib.hid (znu B qs[k] _ _ _ _ wr hq)
   have HS := Lib.hid hs
   have HBE := Lib.hid hbe
   clear hq hs hbe
   by_cases h0 : qs[k].1.1 = 0
   ·have CI2 : Hid _ := CI
    have hd : (qs[k].1.1 == 0) = true := by simpa using h0
    rw [hd] at CI
    have H0 := Lib.hid h0
    clear h0 CI2
    go_wp2_with (go_at_call 161; refine CI.out.mono ?_; rintro e w2 ⟨rfl, hb2⟩; have HB2 := Lib.hid (zf HBE.out hb2); clear hb2)
    go_ret
    exact ⟨k, rfl, ⟨hlt, H0.out⟩, HB2.out⟩
   ·have hd : (qs[k].1.1 == 0) = false := by simpa using h0
    rw [hd] at CI
    have H0 := Lib.hid h0
    clear h0
    go_wp2_with (go_at_call 161; refine CI.out.mono ?_; rintro e w2 ⟨rfl, hb2⟩; have HB2 := Lib.hid (zf HBE.out hb2); clear hb2)
    go_roundw
    case rel => exact ⟨k + 1, by omega, by go_num, fun j h hj => by
     by_cases e : j = k
     ·subst e; exact H0.out
     ·exact HS.out j h (by omega), HB2.out⟩
    case measure => simp [intOf]; omega
  ·obtain ⟨i, hi, h0⟩ := HX.out
   exact absurd h0 (hs i hi (by omega))
set_option maxHeartbeats 2000000 in
theorem zjq (g c B K : Nat) (us : List QV) (qs : List LQ) (w : World) (h : AtQ w g c us) (hr : zbX w B us qs) (hB : B <= w.heap.size) (hK : K < 16) (hn : qs.length <= 1048576) (ha : ∀ q ∈ qs, q.1.2.2.length <= 1048576)
 (hex : ∃ i, ∃ h : i < qs.length, zoy K qs[i]) :
 Calls Tryz.prog 134 #[.slice (some ⟨g, 0, none⟩) qs.length c, .int .u64 (K : Nat)] w fun e w' =>
  ∃ i : Nat, e = .returned (.int .i64 i) /\ (∃ h : i < qs.length, zoy K qs[i]) /\ Below w.heap.size w w' := by
 have H := Lib.hid h
 have HR := Lib.hid hr
 have HX := Lib.hid hex
 have HA := Lib.hid ha
 clear hex ha
 go_enter Tryz.func134, Tryz.ntmps134
 go_wp2_with fail
 go_loopw [9] (fun i wr => ∃ k : Nat, k <= qs.length /\ i = .int .i64 k /\ (∀ j (h : j < qs.length), j < k -> zci (maskOf qs[j].1.2.2) K 4 = false) /\ Below w.heap.size w wr) (fun i _ => qs.length - (intOf i).toNat)
 case atStart => exact ⟨0, Nat.zero_le _, rfl, fun j _ h => absurd h (by omega), Below.refl _ _⟩
 case round =>
  obtain ⟨k, hk, rfl, hs, hbe⟩ := hrel
  by_cases hlt : k < qs.length
  ·obtain ⟨A2, c2, A3, c3, q0, q1, q2, q3, hq⟩ := (H.out.below hbe H.out.lt).quest (HR.out.below hbe hB) hlt
   have hln := HA.out _ (List.getElem_mem hlt)
   have hsz := hbe.size
   have CA := Lib.hid (fun W (hW : Below wr.heap.size wr W) => zcD (.slice A2 qs[k].1.2.2.length c2) qs[k].1.2.2 wr.heap.size W ((hq.2.2.1.more (by omega)).below hW (Nat.le_refl _)) hln)
   have hsb := zjF ⟨maskOf qs[k].1.2.2, zbr _⟩ ⟨K, hK⟩
   simp only at hsb
   have HS := Lib.hid hs
   have HBE := Lib.hid hbe
   clear hq hs hbe
   cases hsf : zci (maskOf qs[k].1.2.2) K 4
   ·rw [hsf] at hsb
    have H0 := Lib.hid hsf
    clear hsf
    go_wp2_with (go_at_call 136; refine (CA.out _ (ze _ _)).mono ?_; rintro e w2 ⟨rfl, rfl⟩)
    go_roundw
    case rel => exact ⟨k + 1, by omega, by go_num, fun j h hj => by
     by_cases e : j = k
     ·subst e; exact H0.out
     ·exact HS.out j h (by omega), zf HBE.out (ze _ _)⟩
    case measure => simp [intOf]; omega
   ·rw [hsf] at hsb
    have H0 := Lib.hid (zdO.1 hsf)
    clear hsf
    go_wp2_with (go_at_call 136; refine (CA.out _ (ze _ _)).mono ?_; rintro e w2 ⟨rfl, rfl⟩)
    go_ret
    exact ⟨k, rfl, ⟨hlt, .inr H0.out⟩, zf HBE.out (ze _ _)⟩
  ·have hsz := hbe.size
   have CI := Lib.hid (zkp g c B us qs wr (H.out.below hbe H.out.lt) (HR.out.below hbe hB) (by omega) hn (by
    obtain ⟨i, hi, h0⟩ := HX.out
    rcases h0 with h0 | h0
    ·exact ⟨i, hi, h0⟩
    ·have := hs i hi (by omega)
     rw [zdO.2 h0] at this
     cases this))
   have HBE := Lib.hid hbe
   clear hs hbe
   go_wp2_with (go_at_call 160; refine CI.out.mono ?_; rintro e w2 ⟨i, rfl, hi, hb2⟩; have HB2 := Lib.hid (And.intro hi hb2); clear hi hb2)
   go_ret
   exact ⟨i, rfl, ⟨HB2.out.1.1, .inl HB2.out.1.2⟩, zf HBE.out HB2.out.2⟩
open Go.RowKit
open Go.RowKit
theorem AtQ.made (w : World) (cs : Array Value) (n : Nat) (hs : cs.size = n * 4) (hm : n <= maxLen) : AtQ (w.alloc (.cells cs 135)) w.heap.size n [] :=
 ⟨cs, Blk.new _ _ _, Nat.zero_le _, hm, hs, by simp [zaG]⟩
theorem AtQ.push {w : World} {g c : Nat} {us : List QV} (h : AtQ w g c us) (hl : us.length < c) (u : QV) :
 AtQ (w.setCells g (us.length * 4) [u.1, u.2.1, u.2.2.1, u.2.2.2]) g c (us ++ [u]) /\ zl g (g + 1) w (w.setCells g (us.length * 4) [u.1, u.2.1, u.2.2.1, u.2.2.2]) := by
 obtain ⟨cur, hg, h1, h2, h3, h4⟩ := h
 have hfl := zdw us
 obtain ⟨cur', g1, g2, g3, g4⟩ := zcG g [u.1, u.2.1, u.2.2.1, u.2.2.2] (us.length * 4) w cur _ hg (by simp; omega)
 refine ⟨⟨cur', g1, by simp; omega, h2, by omega, ?_⟩, g4⟩
 rw [zdx]
 apply List.ext_getElem?
 intro j
 rw [List.length_append, List.length_singleton]
 by_cases hj : j < (us.length + 1) * 4
 ·rw [List.getElem?_take_of_lt hj, Array.getElem?_toList, g3 j]
  by_cases hj2 : j < us.length * 4
  ·rw [if_neg (by simp; omega), List.getElem?_append_left (by omega), <- h4, List.getElem?_take_of_lt hj2, Array.getElem?_toList]
  ·rw [if_pos (by simp; omega), List.getElem?_append_right (by omega), hfl]
   rfl
 ·rw [List.getElem?_eq_none (by simp; omega), List.getElem?_eq_none (by simp [zaG, hfl]; omega)]
theorem AtQ.free {w : World} {g c : Nat} {us : List QV} (h : AtQ w g c us) {j : Nat} (hj : j < c * 4) : ∃ x, w.cell? ⟨g, j, none⟩ = some x := by
 obtain ⟨cur, hg, h1, h2, h3, h4⟩ := h
 exact ⟨cur[j]'(by omega), by rw [Blk.cell hg, Array.getElem?_eq_getElem]⟩
def zaV (fs : List zd) (ls : List zC) : List LQ := ls.map fun l => (l, fs)
set_option maxHeartbeats 2000000 in
theorem zh8 (v v2 : Value) (fs : List zd) (ls : List zC) (w : World) (h : zu w w.heap.size v fs) (h2 : za6 w w.heap.size v2 ls) (hn : ls.length <= 1048576) :
 Calls Tryz.prog 75 #[v, v2] w fun e w' =>
  ∃ g us, e = .returned (.slice (some ⟨g, 0, none⟩) ls.length ls.length) /\ w.heap.size <= g /\ AtQ w' g ls.length us /\ zbX w' w.heap.size us (zaV fs ls) /\ Below w.heap.size w w' := by
 obtain ⟨i0, hi0, hz0, hz1, hz2⟩ := info_parts Tryz.infoQuestion
 have hmk := fun W => zby (P := Tryz.prog) 99 135 i0 (.agg #[.int .i64 0, .int .i64 0, .slice none 0 0, .slice none 0 0]) Tryz.underlying99 hi0 hz0 .i64 .i64 ls.length ls.length (Nat.le_refl _) (by rw [hz2]; omega) (by omega) W
 rw [hz1] at hmk
 simp only [Value.cells] at hmk
 have H := Lib.hid h
 have H2 := Lib.hid h2
 obtain ⟨A, c, rfl, hc, _⟩ := h
 obtain ⟨A2, c2, rfl, hc2, _⟩ := h2
 obtain ⟨cs, hcs⟩ : ∃ cs, cs = madeCells #[Value.int IntKind.i64 0, Value.int IntKind.i64 0, Value.slice none 0 0, Value.slice none 0 0] (ls.length * 4) := ⟨_, rfl⟩
 have HM := Lib.hid (AtQ.made w cs ls.length (by rw [hcs]; simp [madeCells]) (by unfold maxLen; omega))
 rw [<- hcs] at hmk
 clear hcs
 go_enter Tryz.func75, Tryz.ntmps75
 go_wp2_with fail
 obtain ⟨w1, hw1⟩ : ∃ w1, w1 = w.alloc (Obj.cells cs 135) := ⟨_, rfl⟩
 have B1 : Below w.heap.size w w1 := by rw [hw1]; exact ze _ _
 rw [<- hw1] at HM ⊢
 have HB1 := Lib.hid B1
 have hs1 : w.heap.size < w1.heap.size := by rw [hw1]; simp
 clear hw1 hmk B1
 go_loopw [13] (fun i wr => ∃ (k : Nat) (us : List QV), k <= ls.length /\ i = .int .i64 k /\ us.length = k /\ AtQ wr w.heap.size ls.length us /\ zbX wr w.heap.size us (zaV fs (ls.take k)) /\ zl w.heap.size (w.heap.size + 1) w1 wr) (fun i _ => ls.length - (intOf i).toNat)
 case atStart => exact ⟨0, [], Nat.zero_le _, rfl, rfl, HM.out, ⟨by simp [zaV], fun k h1 => absurd h1 (by simp)⟩, zl.refl _ _ _⟩
 case round =>
  obtain ⟨k, us, hk, rfl, hul, hat, hrd, hon⟩ := hrel
  by_cases hlt : k < ls.length
  ·have hbe : Below w.heap.size w wr := zl.then_ HB1.out hon (Nat.le_refl _)
   obtain ⟨b, o, u0, u1, u2, rfl, hbB, k0, k1, k2, rfl, rfl, p3⟩ := (H2.out.below hbe (Nat.le_refl _)).get hlt
   have HP3 := Lib.hid p3
   obtain ⟨A4, c4, rfl, hc4, _⟩ := p3
   have hsz := hon.size
   go_upto_region 5 with fail
   obtain ⟨w2, hw2⟩ : ∃ w2, w2 = wr.alloc (Obj.cells #[Value.int IntKind.i64 ls[k].1, Value.int IntKind.i64 ls[k].2.1, Value.slice A4 ls[k].2.2.length c4] 68) := ⟨_, rfl⟩
   have b2 : Below wr.heap.size wr w2 := by rw [hw2]; exact ze _ _
   have y2 : Blk w2 wr.heap.size 68 #[.int .i64 ls[k].1, .int .i64 ls[k].2.1, .slice A4 ls[k].2.2.length c4] := by rw [hw2]; exact Blk.new _ _ _
   rw [<- hw2]
   clear hw2 k0 k1 k2
   have q0 : w2.cell? ⟨wr.heap.size, 0, none⟩ = some (.int .i64 ls[k].1) := y2.cell 0
   have q1 : w2.cell? ⟨wr.heap.size, 1, none⟩ = some (.int .i64 ls[k].2.1) := y2.cell 1
   have q2 : w2.cell? ⟨wr.heap.size, 2, none⟩ = some (.slice A4 ls[k].2.2.length c4) := y2.cell 2
   have at2 : AtQ w2 w.heap.size ls.length us := hat.below b2 hat.lt
   obtain ⟨x0, r0⟩ := at2.free (j := k * 4) (by omega)
   obtain ⟨x1, r1⟩ := at2.free (j := k * 4 + 1) (by omega)
   obtain ⟨x2, r2⟩ := at2.free (j := k * 4 + 2) (by omega)
   obtain ⟨x3, r3⟩ := at2.free (j := k * 4 + 3) (by omega)
   have f0 := at2.frozen (k * 4)
   have f1 := at2.frozen (k * 4 + 1)
   have f2 := at2.frozen (k * 4 + 2)
   have f3 := at2.frozen (k * 4 + 3)
   have hp := at2.push (by omega) (.int .i64 ls[k].1, .int .i64 ls[k].2.1, .slice A4 ls[k].2.2.length c4, .slice A fs.length c)
   rw [hul] at hp
   have HN := Lib.hid (show AtQ _ w.heap.size ls.length _ /\ zl w.heap.size (w.heap.size + 1) w1 _ from ⟨hp.1, (hon.trans (zl.of_below b2)).trans hp.2⟩)
   have HRN := Lib.hid (show zbX _ w.heap.size _ (zaV fs (ls.take (k + 1))) from by
    have hb3 : Below w.heap.size wr _ := ((b2.mono (show w.heap.size <= wr.heap.size by omega)).trans (hp.2.below (Nat.le_refl _) (by have := at2.lt; omega)))
    have h4 := hrd.below hb3 (Nat.le_refl _)
    have hb4 := hbe.trans hb3
    refine (⟨?_, fun j h1 h3 => ?_⟩ : zbX _ w.heap.size (us ++ [(.int .i64 ls[k].1, .int .i64 ls[k].2.1, .slice A4 ls[k].2.2.length c4, .slice A fs.length c)]) (zaV fs (ls.take (k + 1))))
    ·simp [zaV, hul]; omega
    ·by_cases e : j < us.length
     ·have h5 := h4.2 j e (by simp [zaV]; omega)
      have e1 : (zaV fs (ls.take (k + 1)))[j] = (zaV fs (ls.take k))[j]'(by simp [zaV]; omega) := by simp [zaV]
      rw [List.getElem_append_left e, e1]
      exact h5
     ·have e2 : j = k := by simp at h1; omega
      subst e2
      have e1 : (zaV fs (ls.take (j + 1)))[j] = (ls[j], fs) := by simp [zaV]
      rw [e1]
      have hget : ∀ (x : QV) (h : j < (us ++ [x]).length), (us ++ [x])[j] = x := fun x h => by
       rw [List.getElem_append_right (by omega)]
       simp only [hul, Nat.sub_self, List.getElem_cons_zero]
      rw [hget]
      exact ⟨rfl, rfl, HP3.out.below hb3 (Nat.le_refl _), H.out.below hb4 (Nat.le_refl _)⟩)
   clear hat hrd hon hp at2 y2 hbe b2
   go_wp2_with fail
   go_roundw
   case rel => exact ⟨k + 1, _, by omega, by go_num, by simp [hul], HN.out.1, HRN.out, HN.out.2⟩
   case measure => simp [intOf]; omega
  ·have hkn : k = ls.length := by omega
   have HF := Lib.hid (show AtQ wr w.heap.size ls.length us /\ zbX wr w.heap.size us (zaV fs ls) /\ Below w.heap.size w wr from ⟨hat, by rw [hkn, List.take_length] at hrd; exact hrd, zl.then_ HB1.out hon (Nat.le_refl _)⟩)
   clear hkn hat hrd hon hul
   go_wp2_with fail
   go_ret
   exact ⟨_, us, rfl, Nat.le_refl _, HF.out.1, HF.out.2.1, HF.out.2.2⟩
open Go.RowKit
def zbS (qs : List LQ) (S : List (List Int)) : Prop :=
 S.Nodup /\ ∀ b, b ∈ S <-> zp b = true /\ (∀ v, v < 4 -> (b.getD v (-1) ≠ -1 <-> ∃ q ∈ qs, (maskOf q.1.2.2).testBit v = true)) /\ ∀ q ∈ qs, zbR q b = true
def zj1 (qs : List LQ) : Prop := ∀ q ∈ qs, ∀ v, v < 4 -> (maskOf q.1.2.2).testBit v = true -> ∃ q' ∈ qs, q'.1.1 = 0 /\ (maskOf q'.1.2.2).testBit v = true
theorem ziz {α : Type} : ∀ (l : List α) (i : Nat) (h : i < l.length), (l[i] :: l.eraseIdx i).Perm l
 | x :: l, 0, _ => List.Perm.refl _
 | x :: l, i + 1, h => by
  have hi : i < l.length := by simpa using h
  have ih := ziz l i hi
  exact (List.Perm.swap x l[i] (l.eraseIdx i)).trans (ih.cons x)
theorem zbX.erase {w : World} {B : Nat} {us : List QV} {qs : List LQ} (h : zbX w B us qs) (i : Nat) (hi : i < qs.length) : zbX w B (us.eraseIdx i) (qs.eraseIdx i) := by
 have hl := h.1
 refine ⟨by rw [List.length_eraseIdx_of_lt hi, List.length_eraseIdx_of_lt (by omega)]; omega, fun k h1 h2 => ?_⟩
 rw [List.getElem_eraseIdx, List.getElem_eraseIdx]
 split
 ·exact h.2 k _ _
 ·exact h.2 (k + 1) _ _
theorem zpH {w : World} {B : Nat} : ∀ {us : List QV} {qs : List LQ}, zbX w B us qs -> ∀ u ∈ zaG us, u.oneCell' = true := fun {us qs} h => by
 have key : ∀ (us : List QV), (∀ k (h : k < us.length), us[k].1.oneCell' = true /\ us[k].2.1.oneCell' = true /\ us[k].2.2.1.oneCell' = true /\ us[k].2.2.2.oneCell' = true) -> ∀ u ∈ zaG us, u.oneCell' = true := by
  intro us
  induction us with
  | nil => intro _ u hu; simp [zaG] at hu
  | cons x us ih =>
   intro hk u hu
   have h0 := hk 0 (by simp)
   have ih' := ih fun k hk' => hk (k + 1) (by simpa using hk')
   simp only [zaG, List.mem_cons] at hu
   rcases hu with rfl | rfl | rfl | rfl | hu
   ·exact h0.1
   ·exact h0.2.1
   ·exact h0.2.2.1
   ·exact h0.2.2.2
   ·exact ih' u hu
 refine key us fun k hk => ?_
 obtain ⟨a, b, d, e⟩ := h.2 k hk (by rw [<- h.1]; exact hk)
 obtain ⟨A2, c2, e2, _⟩ := d
 obtain ⟨A3, c3, e3, _⟩ := e
 rw [a, b, e2, e3]
 exact ⟨rfl, rfl, rfl, rfl⟩
theorem zmv {K : Nat} {Q qs qs0 : List LQ} {S : List (List Int)} (h : zfc K Q S) (hp : (Q ++ qs).Perm qs0) (hs : zj1 qs0) (hne : 0 < qs.length) : ∃ i, ∃ h : i < qs.length, zoy K qs[i] := by
 by_cases he : ∃ q ∈ qs, q.1.1 = 0
 ·obtain ⟨q, hq, h0⟩ := he
  obtain ⟨i, hi, rfl⟩ := List.getElem_of_mem hq
  exact ⟨i, hi, .inl h0⟩
 ·refine ⟨0, hne, .inr fun v hv hm => ?_⟩
  obtain ⟨q', hq', h0, hm'⟩ := hs qs[0] (hp.mem_iff.1 (List.mem_append_right _ (List.getElem_mem hne))) v hv hm
  rcases List.mem_append.1 (hp.mem_iff.2 hq') with hq | hq
  ·exact h.vars q' hq v hv hm'
  ·exact absurd ⟨q', hq, h0⟩ he
theorem zm9 {K : Nat} {Q qs0 : List LQ} {S : List (List Int)} (h : zfc K Q S) (hp : Q.Perm qs0) (hk : ∀ v, v < 4 -> K.testBit v = true -> ∃ q ∈ Q, (maskOf q.1.2.2).testBit v = true) : zbS qs0 S := by
 refine ⟨h.nodup, fun b => ?_⟩
 rw [h.mem b]
 refine and_congr_right fun _ => and_congr ?_ ?_
 ·have hK : ∀ v, v < 4 -> (K.testBit v = true <-> ∃ q ∈ qs0, (maskOf q.1.2.2).testBit v = true) := fun v hv => by
   constructor
   ·intro hb
    obtain ⟨q, hq, hm⟩ := hk v hv hb
    exact ⟨q, hp.mem_iff.1 hq, hm⟩
   ·rintro ⟨q, hq, hm⟩
    exact h.vars q (hp.mem_iff.2 hq) v hv hm
  exact ⟨fun hd v hv => (hd v hv).trans (hK v hv), fun hd v hv => (hd v hv).trans (hK v hv).symm⟩
 ·exact ⟨fun hq q hm => hq q (hp.mem_iff.2 hm), fun hq q hm => hq q (hp.mem_iff.1 hm)⟩
theorem zm8 {K : Nat} {Q qs qs0 : List LQ} (h : zfc K Q []) (hp : (Q ++ qs).Perm qs0) (hk : ∀ v, v < 4 -> K.testBit v = true -> ∃ q ∈ Q, (maskOf q.1.2.2).testBit v = true) : zbS qs0 [] := by
 refine ⟨List.nodup_nil, fun b => Iff.intro (fun hb => by cases hb) fun hh => ?_⟩
 obtain ⟨h1, h2, h3⟩ := hh
 suffices hx : zbj K b ∈ ([] : List (List Int)) by cases hx
 refine (h.mem (zbj K b)).2 ⟨zY h1 K, fun v hv => ?_, fun q hq => ?_⟩
 ·rw [zZ hv]
  by_cases e : K.testBit v = true
  ·rw [if_pos e]
   obtain ⟨q, hq, hm⟩ := hk v hv e
   exact ⟨fun _ => e, fun _ => (h2 v hv).2 ⟨q, hp.mem_iff.1 (List.mem_append_left _ hq), hm⟩⟩
  ·rw [if_neg e]
   exact ⟨fun hx => absurd rfl hx, fun hx => absurd hx e⟩
 ·rw [zdg (zY h1 K) h1 (h.terms q hq) fun v hv hm => by rw [zZ hv, if_pos (h.vars q hq v hv hm)]]
  exact h3 q (hp.mem_iff.1 (List.mem_append_left _ hq))
theorem zbc.one (w : World) : zbc (w.alloc (.cells #[.int .u32 0] 102)) w.heap.size (w.heap.size + 1) (.slice (some ⟨w.heap.size, 0, none⟩) 1 1) [za8] :=
 ⟨⟨rfl, .inr ⟨w.heap.size, 1, _, rfl, Nat.le_refl _, heap_alloc_new w _, Nat.le_refl _, by decide, rfl, by simp [wd, zho]⟩⟩, fun g hg => by simp [Value.ownBlock] at hg; omega⟩
structure zkH (g c B : Nat) (w0 wr : World) (qs0 : List LQ) (us : List QV) (Q qs : List LQ) (K : Nat) (S : List (List Int)) (v : Value) : Prop where
 row : AtQ wr g c us
 rd : zbX wr B us qs
 own : zbc wr w0.heap.size wr.heap.size v S
 sols : zfc K Q S
 perm : (Q ++ qs).Perm qs0
 few : K < 16
 vars : ∀ v, v < 4 -> K.testBit v = true -> ∃ q ∈ Q, (maskOf q.1.2.2).testBit v = true
 only : zl g (g + 1) w0 wr
set_option maxHeartbeats 4000000 in
theorem zjm (g c B : Nat) (us0 : List QV) (qs0 : List LQ) (w : World) (h : AtQ w g c us0) (hr : zbX w B us0 qs0) (hB : B <= g) (hn : qs0.length <= 1048576) (hok : ∀ q ∈ qs0, QOk q) (hsf : zj1 qs0) :
 Calls Tryz.prog 112 #[.int .u32 0, .int .u64 0, .slice (some ⟨g, 0, none⟩) qs0.length c] w fun e w' =>
  ∃ A c' S, e = .returned (.slice A S.length c') /\ zbc w' w.heap.size w'.heap.size (.slice A S.length c') S /\ zl g (g + 1) w w' /\ zbS qs0 S := by
 have hgw := h.lt
 have HOK := Lib.hid hok
 have HSF := Lib.hid hsf
 have H0 := Lib.hid (show zkH g c B w (w.alloc (.cells #[.int .u32 0] 102)) qs0 us0 [] qs0 0 [za8] (.slice (some ⟨w.heap.size, 0, none⟩) [za8].length 1) from
  ⟨h.below (ze w _) hgw, hr.below (ze w _) (by omega), (zbc.one w).mono (Nat.le_refl _) (by simp), zis, List.Perm.refl _, by omega, fun v _ h => by simp at h, zl.of_below (ze w _)⟩)
 clear h hr hok hsf
 go_enter Tryz.func112, Tryz.ntmps112
 go_wp2_with fail
 go_loopw [1, 2, 7] (fun v4 v0 v3 wr => ∃ (us : List QV) (Q qs : List LQ) (K : Nat) (S : List (List Int)) (A : Option Addr) (c' : Nat), qs.length <= qs0.length /\ v0 = .slice (some ⟨g, 0, none⟩) qs.length c /\ v3 = .slice A S.length c' /\ v4 = .int .u64 (K : Nat) /\ zkH g c B w wr qs0 us Q qs K S (.slice A S.length c')) (fun _ v0 _ _ => match v0 with | .slice _ n _ => n | _ => 0)
 case atStart => exact ⟨us0, [], qs0, 0, [za8], _, _, Nat.le_refl _, rfl, rfl, rfl, H0.out⟩
 case round =>
  obtain ⟨us, Q, qs, K, S, A3, c3, hql, rfl, rfl, rfl, hat⟩ := hrel
  have HAT := Lib.hid hat
  clear hat H0
  by_cases hq0 : 0 < qs.length
  ·have hd0 : decide ((qs.length : Int) > 0) = true := by simp; omega
   by_cases hS0 : 0 < S.length
   ·have hd1 : decide ((S.length : Int) > 0) = true := by simp; omega
    have CN := Lib.hid (zjq g c B K us qs wr HAT.out.row HAT.out.rd (by have := HAT.out.row.lt; omega) HAT.out.few (by omega) (fun q hq => (HOK.out q (HAT.out.perm.mem_iff.1 (List.mem_append_right _ hq))).args) (zmv HAT.out.sols HAT.out.perm HSF.out hq0))
    go_upto_region 4 with (go_at_call 134; refine CN.out.mono ?_; rintro e w2 ⟨i, rfl, hi, hb2⟩; have HI := Lib.hid (And.intro hi hb2); clear hi hb2)
    obtain ⟨⟨hi, hfree⟩, hb2⟩ := HI.out
    have hlo : w.heap.size <= wr.heap.size := HAT.out.only.size
    have hgl : g < wr.heap.size := HAT.out.row.lt
    have hs2 := hb2.size
    obtain ⟨A4, c4, A5, c5, q0, q1, q2, q3, hq⟩ := (HAT.out.row.below hb2 hgl).quest (HAT.out.rd.below hb2 (by omega)) hi
    obtain ⟨q, hqe⟩ : ∃ q, q = qs[i] := ⟨_, rfl⟩
    have hqm : q ∈ qs0 := by rw [hqe]; exact HAT.out.perm.mem_iff.1 (List.mem_append_right _ (List.getElem_mem hi))
    rw [<- hqe] at q0 q1 q2 q3 hq hfree
    have hqk := HOK.out q hqm
    have HQE := Lib.hid hqe
    clear hqe hqm
    go_upto_region 5 with fail
    obtain ⟨w3, hw3⟩ : ∃ w3, w3 = w2.alloc (Obj.cells #[Value.int IntKind.i64 q.1.1, Value.int IntKind.i64 q.1.2.1, Value.slice A4 q.1.2.2.length c4, Value.slice A5 q.2.length c5] 135) := ⟨_, rfl⟩
    have b3 : Below w2.heap.size w2 w3 := by rw [hw3]; exact ze _ _
    have y3 : Blk w3 w2.heap.size 135 #[.int .i64 q.1.1, .int .i64 q.1.2.1, .slice A4 q.1.2.2.length c4, .slice A5 q.2.length c5] := by rw [hw3]; exact Blk.new _ _ _
    have hs3 : w2.heap.size < w3.heap.size := by rw [hw3]; simp
    rw [<- hw3]
    clear hw3 q0 q1 q2 q3
    have x0 : w3.cell? ⟨w2.heap.size, 0, none⟩ = some (.int .i64 q.1.1) := y3.cell 0
    have x1 : w3.cell? ⟨w2.heap.size, 1, none⟩ = some (.int .i64 q.1.2.1) := y3.cell 1
    have x2 : w3.cell? ⟨w2.heap.size, 2, none⟩ = some (.slice A4 q.1.2.2.length c4) := y3.cell 2
    have x3 : w3.cell? ⟨w2.heap.size, 3, none⟩ = some (.slice A5 q.2.length c5) := y3.cell 3
    have B23 := zf hb2 b3
    have hq3 : zmI w3 w.heap.size (.int .i64 q.1.1) (.int .i64 q.1.2.1) (.slice A4 q.1.2.2.length c4) (.slice A5 q.2.length c5) q :=
     ⟨rfl, rfl, (hq.2.2.1.below b3 (by omega)).more (by omega), (hq.2.2.2.below b3 (by omega)).more (by omega)⟩
    have CA := Lib.hid (zoY w.heap.size wr.heap.size K _ _ _ _ (.slice A3 S.length c3) q Q S w3 hq3 hqk (HAT.out.own.below B23 (Nat.le_refl _)) B23.size hlo HAT.out.sols (fun e => by rw [e] at hS0; simp at hS0) HAT.out.few (fun h0 => by
     rcases hfree with h | h
     ·exact absurd h h0
     ·exact h))
    have HW3 := Lib.hid (And.intro B23 (And.intro y3 hq3))
    have hal := hqk.args
    have hor : bits .or .u64 ((K : Nat) : Int) ((maskOf q.1.2.2 : Nat) : Int) = ((K ||| maskOf q.1.2.2 : Nat) : Int) := zgt HAT.out.few (zbr _)
    clear hq hq3 y3 b3 hb2 hfree hqk B23 HI CN
    go_upto_region 6 with (go_at_call 135; refine CA.out.mono ?_; rintro e w4 ⟨A6, c6, S', rfl, ho4, on4, hs4⟩; have H4 := Lib.hid (And.intro ho4 (And.intro on4 hs4)); clear ho4 on4 hs4)
    obtain ⟨ho4, on4, hs4⟩ := H4.out
    obtain ⟨B23, y3, hq3⟩ := HW3.out
    have hz4 := on4.size
    have y4 := y3.only on4 (.inr (by omega))
    clear x0 x1 x2 x3
    have x2 : w4.cell? ⟨w2.heap.size, 2, none⟩ = some (.slice A4 q.1.2.2.length c4) := y4.cell 2
    have CV := Lib.hid (zcD (.slice A4 q.1.2.2.length c4) q.1.2.2 w.heap.size w4 (hq3.2.2.1.below (on4.below (Nat.le_refl _) (by omega)) (Nat.le_refl _)) hal)
    have o04 : zl g (g + 1) w w4 := ⟨on4.os.trans (B23.os.trans HAT.out.only.os), on4.tape.trans (B23.tape.trans HAT.out.only.tape), on4.output.trans (B23.output.trans HAT.out.only.output), by omega, fun k hk ho => (on4.block k (by omega) (.inl hk)).trans ((B23.block k (by omega)).trans (HAT.out.only.block k hk ho))⟩
    have r4 : AtQ w4 g c us := ((HAT.out.row.below B23 hgl).only on4 (.inl (by omega)))
    have d4 : zbX w4 B us qs := (HAT.out.rd.below B23 (by omega)).only on4 (by omega) (by omega)
    obtain ⟨m, hm⟩ : ∃ m, qs.length = m + 1 := ⟨qs.length - 1, by omega⟩
    have hel : m = (qs.eraseIdx i).length := by rw [List.length_eraseIdx_of_lt hi]; omega
    have hul : us.length = m + 1 := by rw [<- hm]; exact HAT.out.rd.1
    have CD := zlB g c i m us w4 r4 hul (by omega) (by omega) (zpH d4)
    rw [<- hm, hel] at CD
    have HCD := Lib.hid CD
    have HEL := Lib.hid (show (qs.eraseIdx i).length < qs.length by omega)
    have HN := Lib.hid (And.intro ho4 (And.intro hs4 (And.intro o04 (And.intro d4 hz4))))
    clear CD ho4 hs4 o04 d4 on4 y3 y4 hq3 B23 hm hel hul r4 H4 HW3
    go_wp2_with (first
     | (go_at_call 136; refine CV.out.mono ?_; rintro e w' ⟨rfl, rfl⟩)
     | (go_at_call 137; refine HCD.out.mono ?_; rintro e w5 ⟨rfl, r5, on5⟩; have H5 := Lib.hid (And.intro r5 on5); clear r5 on5))
    obtain ⟨r5, on5⟩ := H5.out
    obtain ⟨ho4, hs4, o04, d4, hz4⟩ := HN.out
    have hz5 := on5.size
    have hlen := HEL.out
    have hpm : ((q :: Q) ++ qs.eraseIdx i).Perm qs0 := by
     have h1 := ziz qs i hi
     rw [<- HQE.out] at h1
     exact (List.perm_middle.symm.trans ((List.Perm.refl Q).append h1)).trans HAT.out.perm
    have HFIN := Lib.hid (show zkH g c B w w5 qs0 (us.eraseIdx i) (q :: Q) (qs.eraseIdx i) (K ||| maskOf q.1.2.2) S' (.slice A6 S'.length c6) from
     ⟨r5, (d4.only on5 (by omega) (by omega)).erase i hi, (ho4.only on5 (.inr (by omega))).mono (Nat.le_refl _) hz5, hs4, hpm, Nat.or_lt_two_pow (n := 4) HAT.out.few (zbr _), fun v hv hb => by
       rw [Nat.testBit_or, Bool.or_eq_true] at hb
       rcases hb with hb | hb
       ·obtain ⟨q', hq', h⟩ := HAT.out.vars v hv hb
        exact ⟨q', List.mem_cons_of_mem _ hq', h⟩
       ·exact ⟨q, List.mem_cons_self, hb⟩, o04.trans on5⟩)
    clear r5 on5 ho4 hs4 o04 d4 hpm
    go_roundw
    case rel => exact ⟨us.eraseIdx i, q :: Q, qs.eraseIdx i, K ||| maskOf q.1.2.2, S', A6, c6, by omega, rfl, rfl, rfl, HFIN.out⟩
    case measure => simp; omega
   ·have hd1 : decide ((S.length : Int) > 0) = false := decide_eq_false (by omega)
    have HE := Lib.hid (show zbS qs0 S by
     have : S = [] := List.eq_nil_of_length_eq_zero (by omega)
     subst this
     exact zm8 HAT.out.sols HAT.out.perm HAT.out.vars)
    go_wp2_with fail
    go_ret
    exact ⟨_, _, S, rfl, HAT.out.own, HAT.out.only, HE.out⟩
  ·have hd0 : decide ((qs.length : Int) > 0) = false := decide_eq_false (by omega)
   have HE := Lib.hid (show zbS qs0 S by
    have : qs = [] := List.eq_nil_of_length_eq_zero (by omega)
    subst this
    exact zm9 HAT.out.sols (by simpa using HAT.out.perm) HAT.out.vars)
   go_wp2_with fail
   go_ret
   exact ⟨_, _, S, rfl, HAT.out.own, HAT.out.only, HE.out⟩
set_option maxHeartbeats 1000000 in
theorem zhc (g c B : Nat) (us0 : List QV) (qs0 : List LQ) (w : World) (h : AtQ w g c us0) (hr : zbX w B us0 qs0) (hB : B <= g) (hn : qs0.length <= 1048576) (hok : ∀ q ∈ qs0, QOk q) (hsf : zj1 qs0) :
 Calls Tryz.prog 74 #[.slice (some ⟨g, 0, none⟩) qs0.length c] w fun e w' =>
  ∃ A c' S, e = .returned (.slice A S.length c') /\ zbc w' w.heap.size w'.heap.size (.slice A S.length c') S /\ zl g (g + 1) w w' /\ zbS qs0 S := by
 have CF := Lib.hid (zjm g c B us0 qs0 w h hr hB hn hok hsf)
 clear h hr hok hsf
 go_enter Tryz.func74, Tryz.ntmps74
 go_wp2_with (go_at_call 112; refine CF.out.mono ?_; rintro e w2 ⟨A, c', S, rfl, o2, on2, s2⟩; have H2 := Lib.hid (And.intro o2 (And.intro on2 s2)); clear o2 on2 s2)
 go_ret
 exact ⟨A, c', S, rfl, H2.out.1, H2.out.2.1, H2.out.2.2⟩
open Go.RowKit
theorem zg4 {v : Nat} : ∀ (ls : List zC) (m : Nat), (ls.foldl (fun m l => m ||| maskOf l.2.2) m).testBit v = true <-> m.testBit v = true \/ ∃ l ∈ ls, (maskOf l.2.2).testBit v = true
 | [], m => by simp
 | l :: ls, m => by
  rw [List.foldl_cons, zg4 ls, Nat.testBit_or, Bool.or_eq_true]
  constructor
  ·rintro ((h | h) | ⟨l', hl, h⟩)
   ·exact .inl h
   ·exact .inr ⟨l, List.mem_cons_self, h⟩
   ·exact .inr ⟨l', List.mem_cons_of_mem _ hl, h⟩
  ·rintro (h | ⟨l', hl, h⟩)
   ·exact .inl (.inl h)
   ·rcases List.mem_cons.1 hl with rfl | hl
    ·exact .inl (.inr h)
    ·exact .inr ⟨l', hl, h⟩
theorem zfe {v : Nat} : ∀ (ls : List zC) (m : Nat), (ls.foldl (fun m l => if l.1 = 0 then m ||| maskOf l.2.2 else m) m).testBit v = true <-> m.testBit v = true \/ ∃ l ∈ ls, l.1 = 0 /\ (maskOf l.2.2).testBit v = true
 | [], m => by simp
 | l :: ls, m => by
  rw [List.foldl_cons, zfe ls]
  by_cases e : l.1 = 0
  ·rw [if_pos e, Nat.testBit_or, Bool.or_eq_true]
   constructor
   ·rintro ((h | h) | ⟨l', hl, h⟩)
    ·exact .inl h
    ·exact .inr ⟨l, List.mem_cons_self, e, h⟩
    ·exact .inr ⟨l', List.mem_cons_of_mem _ hl, h⟩
   ·rintro (h | ⟨l', hl, h⟩)
    ·exact .inl (.inl h)
    ·rcases List.mem_cons.1 hl with rfl | hl
     ·exact .inl (.inr h.2)
     ·exact .inr ⟨l', hl, h⟩
  ·rw [if_neg e]
   constructor
   ·rintro (h | ⟨l', hl, h⟩)
    ·exact .inl h
    ·exact .inr ⟨l', List.mem_cons_of_mem _ hl, h⟩
   ·rintro (h | ⟨l', hl, h⟩)
    ·exact .inl h
    ·rcases List.mem_cons.1 hl with rfl | hl
     ·exact absurd h.1 e
     ·exact .inr ⟨l', hl, h⟩
structure zbV (ls : List zC) : Prop where
 kind : ∀ l ∈ ls, 0 <= l.1 /\ l.1 <= 3
 terms : ∀ l ∈ ls, l.2.2.all zz = true
 few : ls.length <= 4
 safe : ∀ l ∈ ls, ∀ v, v < 4 -> (maskOf l.2.2).testBit v = true -> ∃ l' ∈ ls, l'.1 = 0 /\ (maskOf l'.2.2).testBit v = true
theorem zbV.of {ls : List zC} (h : zg2 ls = true) : zbV ls := by
 unfold zg2 at h
 rw [Bool.and_eq_true, Bool.and_eq_true] at h
 obtain ⟨⟨h1, h2⟩, h3⟩ := h
 rw [List.all_eq_true] at h1
 rw [zd8, zdO, zfY] at h3
 refine ⟨fun l hl => ?_, fun l hl => ?_, by simpa using h2, fun l hl v hv hm => ?_⟩
 ·have := h1 l hl
  unfold zgB at this
  rw [Bool.and_eq_true] at this
  simpa using this.1
 ·have := h1 l hl
  unfold zgB at this
  rw [Bool.and_eq_true] at this
  exact this.2
 ·have hb : (bodyMask ls).testBit v = true := (zg4 ls 0).2 (.inr ⟨l, hl, hm⟩)
  have hy := h3 v hv hb
  rcases (zfe ls 0).1 hy with h | h
  ·simp at h
  ·exact h
theorem zbV.quests {ls : List zC} (h : zbV ls) (fs : List zd) : zj1 (zaV fs ls) := fun q hq v hv hm => by
 obtain ⟨l, hl, rfl⟩ := List.mem_map.1 hq
 obtain ⟨l', hl', h0, hm'⟩ := h.safe l hl v hv hm
 exact ⟨(l', fs), List.mem_map.2 ⟨l', hl', rfl⟩, h0, hm'⟩
theorem zbV.qok {ls : List zC} (h : zbV ls) {fs : List zd} (hc : ∀ f ∈ fs, f.2.all zt = true) (hn : fs.length <= 1048576) (ht : tot fs <= 1048576) (hl : zbB ls <= 1048576) : ∀ q ∈ zaV fs ls, QOk q := fun q hq => by
 obtain ⟨l, hl', rfl⟩ := List.mem_map.1 hq
 have hk := h.kind l hl'
 refine ⟨by show l.1 = 0 \/ l.1 = 1 \/ l.1 = 2 \/ l.1 = 3; omega, h.terms l hl', hc, ?_, hn, ht⟩
 obtain ⟨k, hk', rfl⟩ := List.getElem_of_mem hl'
 exact Nat.le_trans (za3 ls k hk') hl
theorem zc9 {fs gs : List zd} (h : ∀ f, f ∈ fs <-> f ∈ gs) (l : zC) (b : List Int) : zM fs l b = zM gs l b := by
 unfold zM
 split
 ·rfl
 ·rw [zbe, zbe]
  congr 2
  exact decide_eq_decide.2 (h _)
theorem zjC {fs gs : List zd} {ls : List zC} (h : zbV ls) (hc : ∀ f ∈ gs, f.2.all zt = true) (hn : gs.Nodup) (hm : ∀ f, f ∈ gs <-> f ∈ fs) : UpB (zfl gs ls) /\ zbS (zaV fs ls) (zfl gs ls) := by
 obtain ⟨h1, h2⟩ := zdI gs (zbJ ls ls.length) (zaX gs ls ls.length) _ (Nat.le_refl _)
 obtain ⟨K, Q, hK, hS, hQ, hv⟩ := zeZ hc hn h.terms ls.length (Nat.le_refl _)
 rw [List.take_length] at hv
 refine ⟨h1, h1.nodup, fun b => ?_⟩
 unfold zfl
 rw [h2, List.take_length, hS.mem b, and_assoc, and_assoc]
 have hKb : ∀ v, v < 4 -> (K.testBit v = true <-> ∃ q ∈ zaV fs ls, (maskOf q.1.2.2).testBit v = true) := fun v hv4 => by
  rw [hv v hv4]
  constructor
  ·rintro ⟨l, hl, _, hb⟩
   exact ⟨(l, fs), List.mem_map.2 ⟨l, hl, rfl⟩, hb⟩
  ·rintro ⟨q, hq, hb⟩
   obtain ⟨l, hl, rfl⟩ := List.mem_map.1 hq
   exact h.safe l hl v hv4 hb
 refine and_congr_right fun _ => and_congr ?_ ?_
 ·exact ⟨fun hd v hv => (hd v hv).trans (hKb v hv), fun hd v hv => (hd v hv).trans (hKb v hv).symm⟩
 ·constructor
  ·rintro ⟨hq, hr⟩ q hq'
   obtain ⟨l, hl, rfl⟩ := List.mem_map.1 hq'
   show zM fs l b = true
   rw [<- zc9 hm]
   by_cases e : l.1 = 0
   ·exact hq (l, gs) ((hQ _).2 ⟨rfl, e, by rw [List.take_length]; exact hl⟩)
   ·refine List.all_eq_true.1 hr l ?_
    unfold zbJ
    rw [List.take_length]
    exact List.mem_filter.2 ⟨hl, by simpa using e⟩
  ·intro hq
   refine ⟨fun q hq' => ?_, List.all_eq_true.2 fun l hl => ?_⟩
   ·obtain ⟨e1, e2, e3⟩ := (hQ q).1 hq'
    rw [List.take_length] at e3
    have := hq (q.1, fs) (List.mem_map.2 ⟨q.1, e3, rfl⟩)
    unfold zbR at this ⊢
    rw [e1, zc9 hm]
    exact this
   ·unfold zbJ at hl
    rw [List.take_length] at hl
    have := hq (l, fs) (List.mem_map.2 ⟨l, (List.mem_filter.1 hl).1, rfl⟩)
    rw [zc9 hm]
    exact this
theorem zoX {x y : List Int} (hx : zp x = true) (hy : zp y = true) (h : encB x < encB y) : zar x y < 0 := by
 obtain ⟨a, b, c, d, rfl⟩ := ziG (zV hx)
 obtain ⟨a', b', c', d', rfl⟩ := ziG (zV hy)
 have h0 := zbD hx (k := 0) (by simp)
 have h1 := zbD hx (k := 1) (by simp)
 have h2 := zbD hx (k := 2) (by simp)
 have h3 := zbD hx (k := 3) (by simp)
 have g0 := zbD hy (k := 0) (by simp)
 have g1 := zbD hy (k := 1) (by simp)
 have g2 := zbD hy (k := 2) (by simp)
 have g3 := zbD hy (k := 3) (by simp)
 simp only [List.getElem_cons_zero, List.getElem_cons_succ] at h0 h1 h2 h3 g0 g1 g2 g3
 simp only [encB, List.getD_cons_zero, List.getD_cons_succ] at h
 simp only [zar]
 by_cases e0 : a = a'
 ·rw [if_pos e0]
  by_cases e1 : b = b'
  ·rw [if_pos e1]
   by_cases e2 : c = c'
   ·rw [if_pos e2]
    by_cases e3 : d = d'
    ·omega
    ·rw [if_neg e3, zb5]; omega
   ·rw [if_neg e2, zb5]; omega
  ·rw [if_neg e1, zb5]; omega
 ·rw [if_neg e0, zb5]; omega
theorem zbS.ok {qs : List LQ} {S : List (List Int)} (h : zbS qs S) : ∀ b ∈ S, zp b = true := fun b hb => ((h.2 b).1 hb).1
theorem zbS.up {qs : List LQ} {S S' : List (List Int)} (h : zbS qs S) (hp : S'.Perm S) (hu : UpW S') : UpB S' /\ zbS qs S' := by
 have hn : S'.Nodup := hp.nodup_iff.2 h.1
 have hok : ∀ b ∈ S', zp b = true := fun b hb => h.ok b (hp.mem_iff.1 hb)
 refine ⟨?_, hn, fun b => by rw [hp.mem_iff, h.2 b]⟩
 refine List.Pairwise.imp_of_mem (fun {x y} hx hy hh => ?_) (hu.and hn)
 refine zoX (hok x hx) (hok y hy) ?_
 rcases Nat.lt_or_ge (encB x) (encB y) with h1 | h1
 ·exact h1
 ·exact absurd (zfB (hok x hx) (hok y hy) (Nat.le_antisymm hh.1 h1)) hh.2
theorem zeF {fs : List zd} (h : Asc fs) : fs.Nodup := h.imp fun h e => by
 subst e
 rw [zaZ] at h
 omega
open Go.RowKit
theorem zfy : ∀ (l out : List zd), (l.foldl zQ out).length <= out.length + l.length /\ tot (l.foldl zQ out) <= tot out + tot l
 | [], out => by simp [tot]
 | f :: l, out => by
  have h1 := zdk out f
  have h2 := zfy l (zQ out f)
  rw [zdc]
  simp only [List.foldl_cons, List.length_cons]
  omega
theorem zfm (l : List zd) : (zG l).length <= l.length /\ tot (zG l) <= tot l := by
 have := zfy l []
 unfold zG
 simpa [tot] using this
theorem ziv (l : List zd) (f : zd) : zG (l ++ [f]) = zQ (zG l) f := by simp [zG, List.foldl_append]
set_option maxHeartbeats 1000000 in
theorem zch (v v2 : Value) (xs ys : List zd) (w : World) (h : zu w w.heap.size v xs) (h2 : zu w w.heap.size v2 ys) (hn : xs.length + ys.length <= 1048576) (ht : tot xs + tot ys <= 1048576) :
 Calls Tryz.prog 65 #[v, v2] w fun e w' => ∃ A' c', e = .returned (.slice A' (zG (xs ++ ys)).length c') /\ zq w' w.heap.size w'.heap.size (.slice A' (zG (xs ++ ys)).length c') (zG (xs ++ ys)) /\ Below w.heap.size w w' := by
 have H := Lib.hid h
 have H2 := Lib.hid h2
 obtain ⟨A, c, rfl, hc, _⟩ := h
 obtain ⟨A2, c2, rfl, hc2, _⟩ := h2
 go_enter Tryz.func65, Tryz.ntmps65
 go_wp2_with (fail)
 go_loopw [5, 6] (fun o i wr => ∃ (k : Nat) (gs : List zd) (A' : Option Addr) (c' : Nat), k <= xs.length /\ i = .int .i64 k /\ gs = zG (xs.take k) /\ o = .slice A' gs.length c' /\ zq wr w.heap.size wr.heap.size (.slice A' gs.length c') gs /\ Below w.heap.size w wr) (fun _ i _ => xs.length - (intOf i).toNat)
 case atStart => exact ⟨0, [], _, 0, Nat.zero_le _, rfl, rfl, rfl, (zbq.empty w).own.own.mono (Nat.le_refl _) (Nat.le_refl _), ze _ _⟩
 case round =>
  obtain ⟨k, gs, A', c', hk, rfl, hgs, rfl, ho, hbe⟩ := hrel
  have hbd := zfm (xs.take k)
  rw [<- hgs, List.length_take] at hbd
  have htk := zhD xs k
  have HO := Lib.hid ho
  have HG := Lib.hid hgs
  clear ho hgs
  by_cases hlt : k < xs.length
  ·obtain ⟨b, o, A3, c3, rfl, hbB, k1, k2, k3⟩ := (H.out.on hbe).get hlt
   have hln := zaz xs k hlt
   have K3 := Lib.hid (show zU wr wr.heap.size (.agg #[.int .i64 xs[k].1, .slice A3 xs[k].2.length c3]) xs[k] from ⟨_, rfl, k3⟩)
   clear k3
   go_wp2_with (fail)
   refine (zbu _ _ gs xs[k] _ HO.out.rd K3.out (by omega) (by omega) (by omega)).mono ?_
   rintro e w2 ⟨A4, c4, rfl, ho4, hb4⟩
   have HR := Lib.hid (show zq w2 w.heap.size w2.heap.size _ _ from ho4.mono hbe.size (Nat.le_refl _))
   have HB := Lib.hid (zf hbe hb4)
   have HE := Lib.hid (show zQ gs xs[k] = zG (xs.take (k + 1)) by rw [zH xs k hlt, ziv, <- HG.out])
   clear ho4 hb4
   go_wp2_with (fail)
   go_roundw
   case rel => exact ⟨k + 1, zQ gs xs[k], _, _, by omega, by go_num, HE.out, rfl, HR.out, HB.out⟩
   case measure => simp [intOf]; omega
  ·have hkn : k = xs.length := by omega
   subst hkn
   have HX := Lib.hid (show gs = zG xs by rw [HG.out, List.take_length])
   clear HG
   go_wp2_with (fail)
   go_loopw [5, 7] (fun o i wq => ∃ (k : Nat) (gs : List zd) (A' : Option Addr) (c' : Nat), k <= ys.length /\ i = .int .i64 k /\ gs = zG (xs ++ ys.take k) /\ o = .slice A' gs.length c' /\ zq wq w.heap.size wq.heap.size (.slice A' gs.length c') gs /\ Below w.heap.size w wq) (fun _ i _ => ys.length - (intOf i).toNat)
   case atStart => exact ⟨0, gs, _, _, Nat.zero_le _, rfl, by simpa using HX.out, rfl, HO.out, hbe⟩
   case round =>
    obtain ⟨k, gs, A', c', hk, rfl, hgs, rfl, ho, hbe⟩ := hrel
    have hbd := zfm (xs ++ ys.take k)
    rw [<- hgs, zdJ, List.length_append, List.length_take] at hbd
    have htk := zhD ys k
    have HO := Lib.hid ho
    have HG := Lib.hid hgs
    clear ho hgs
    by_cases hlt : k < ys.length
    ·obtain ⟨b, o, A3, c3, rfl, hbB, k1, k2, k3⟩ := (H2.out.on hbe).get hlt
     have hln := zaz ys k hlt
     have K3 := Lib.hid (show zU _ _ (.agg #[.int .i64 ys[k].1, .slice A3 ys[k].2.length c3]) ys[k] from ⟨_, rfl, k3⟩)
     clear k3
     go_wp2_with (fail)
     refine (zbu _ _ gs ys[k] _ HO.out.rd K3.out (by omega) (by omega) (by omega)).mono ?_
     rintro e w2 ⟨A4, c4, rfl, ho4, hb4⟩
     have HR := Lib.hid (show zq w2 w.heap.size w2.heap.size _ _ from ho4.mono hbe.size (Nat.le_refl _))
     have HB := Lib.hid (zf hbe hb4)
     have HE := Lib.hid (show zQ gs ys[k] = zG (xs ++ ys.take (k + 1)) by rw [zH ys k hlt, <- List.append_assoc, ziv, <- HG.out])
     clear ho4 hb4
     go_wp2_with (fail)
     go_roundw
     case rel => exact ⟨k + 1, zQ gs ys[k], _, _, by omega, by go_num, HE.out, rfl, HR.out, HB.out⟩
     case measure => simp [intOf]; omega
    ·have hkn : k = ys.length := by omega
     subst hkn
     have HY := Lib.hid (show gs = zG (xs ++ ys) by rw [HG.out, List.take_length])
     have HB := Lib.hid hbe
     clear HG
     go_wp2_with (fail)
     go_ret
     rw [<- HY.out]
     exact ⟨A', c', rfl, HO.out, HB.out⟩
open Go.RowKit
def zeg : List zC -> List Value -> List Value
 | l :: ls, u :: us => .int .i64 l.1 :: .int .i64 l.2.1 :: u :: zeg ls us
 | _, _ => []
theorem ziX : ∀ (ls : List zC) (us : List Value) (_ : us.length = ls.length) (l : zC) (u : Value), zeg (ls ++ [l]) (us ++ [u]) = zeg ls us ++ [.int .i64 l.1, .int .i64 l.2.1, u]
 | [], [], _, l, u => by simp [zeg]
 | [], u' :: us, h, _, _ => by simp at h
 | l :: ls, [], h, _, _ => by simp at h
 | l :: ls, u :: us, h, m, b => by simp [zeg, ziX ls us (by simpa using h) m b]
theorem zlq : ∀ (ls : List zC) (us : List Value) (_ : us.length = ls.length) (k : Nat) (hk : k < ls.length) (hk' : k < us.length),
 (zeg ls us)[k * 3]? = some (.int .i64 ls[k].1) /\ (zeg ls us)[k * 3 + 1]? = some (.int .i64 ls[k].2.1) /\ (zeg ls us)[k * 3 + 2]? = some us[k]
 | l :: ls, u :: us, h, 0, _, _ => ⟨rfl, rfl, rfl⟩
 | l :: ls, u :: us, h, k + 1, h1, h2 => by
  have ih := zlq ls us (by simpa using h) k (by simpa using h1) (by simpa using h2)
  have e : ∀ r, (zeg (l :: ls) (u :: us))[(k + 1) * 3 + r]? = (zeg ls us)[k * 3 + r]? := fun r => by
   rw [show (k + 1) * 3 + r = (k * 3 + r) + 1 + 1 + 1 by omega]
   rfl
  have e0 := e 0
  rw [Nat.add_zero, Nat.add_zero] at e0
  rw [e0, e 1, e 2]
  exact ih
structure zeH (w wr : World) (ls : List zC) (A : Option Addr) (c : Nat) (us : List Value) : Prop where
 below : Below w.heap.size w wr
 len : us.length = ls.length
 inn : ∀ i (h : i < ls.length) (h' : i < us.length), zv wr w.heap.size us[i] ls[i].2.2
 row : wr.ownsRow w.heap.size 68 3 (.slice A ls.length c) ls.length (zeg ls us)
theorem zeH.empty (w wr : World) (hb : Below w.heap.size w wr) : zeH w (wr.alloc (.cells #[] 68)) [] (some ⟨wr.heap.size, 0, none⟩) 0 [] :=
 ⟨hb.alloc hb.size _, rfl, fun i h => absurd h (by simp), World.ownsRow_made wr #[] 0 hb.size (by decide) rfl⟩
theorem zeH.on {w wr w2 : World} {ls : List zC} {A : Option Addr} {c : Nat} {us : List Value} (h : zeH w wr ls A c us) (hb : Below wr.heap.size wr w2) : zeH w w2 ls A c us :=
 ⟨zf h.below hb, h.len, fun i a b => (h.inn i a b).below hb h.below.size, zaB h.row (fun g hg => (h.row.lt g hg).2) hb (Nat.le_refl _)⟩
theorem zeH.push {w wr w2 w4 : World} {ls ls' : List zC} {A : Option Addr} {c g cap : Nat} {l : zC} {u : Value} {o : Obj} {us : List Value} (h : zeH w wr ls A c us) (e : ls' = ls ++ [l]) (hb : Below wr.heap.size wr w2) (hu : zv w2 w.heap.size u l.2.2)
 (hg : (w2.alloc o).grownBy w4 (Value.slice A ls.length c).ownBlock) (hown : w4.ownsRow w.heap.size 68 3 (.slice (some ⟨g, 0, none⟩) (ls.length + 1) cap) (ls.length + 1) (zeg ls us ++ [.int .i64 l.1, .int .i64 l.2.1, u])) :
 zeH w w4 ls' (some ⟨g, 0, none⟩) cap (us ++ [u]) /\ ls.length + 1 = ls'.length := by
 subst e
 have h2 := h.on hb
 have hl : (ls ++ [l]).length = ls.length + 1 := by simp
 have hB : Below w.heap.size w2 w4 := by
  have hg' := zy hg
  refine ⟨hg'.os, hg'.tape, hg'.output, hg'.size, fun k hk => hg'.block k (by have := h2.below.size; omega) (fun e => ?_)⟩
  have := (h2.row.lt k e.symm).1
  omega
 refine ⟨⟨h2.below.trans hB, by simp [h.len], fun i h1 h3 => ?_, by rw [hl, ziX ls us h.len]; exact hown⟩, hl.symm⟩
 by_cases e : i < ls.length
 ·have e' : i < us.length := by rw [h.len]; exact e
  rw [List.getElem_append_left e', List.getElem_append_left e]
  exact (h2.inn i e e').below hB (Nat.le_refl _)
 ·have e2 : i = ls.length := by simp at h1; omega
  subst e2
  have := h.len
  simp [<- this]
  exact hu.below hB (Nat.le_refl _)
theorem zeH.rd {w wr : World} {ls : List zC} {A : Option Addr} {c : Nat} {us : List Value} (h : zeH w wr ls A c us) : za6 wr wr.heap.size (.slice A ls.length c) ls := by
 have hcells := @World.ownsRow.cells wr w.heap.size 68 3 (.slice A ls.length c) ls.length (zeg ls us) h.row
 have hl := h.len
 have hsz := h.below.size
 obtain ⟨hfl, hr⟩ := h.row
 rcases hr with ⟨e, h0⟩ | ⟨g, cap, cur, e, hb, hgg, hn, _⟩
 ·have : ls = [] := List.eq_nil_of_length_eq_zero h0
  subst this
  injection e with e1 _ e3
  subst e1 e3
  exact ⟨none, 0, rfl, by simp, fun h => absurd h (by simp)⟩
 ·injection e with e1 _ e3
  subst e1 e3
  refine ⟨_, c, rfl, hn, fun _ => ⟨g, 0, rfl, Blk.lt hgg, fun k hk => ?_⟩⟩
  obtain ⟨c0, c1, c2⟩ := zlq ls us hl k hk (by omega)
  have d0 := hcells (g := g) rfl _ _ c0
  have d1 := hcells (g := g) rfl _ _ c1
  have d2 := hcells (g := g) rfl _ _ c2
  rw [Go.WideShapes.add_plain] at d0 d1 d2
  exact ⟨_, _, _, d0, d1, d2, rfl, rfl, (h.inn k hk (by omega)).more hsz⟩
theorem zpm (w : World) (x y z : Value) (t : TypeId) (n : Nat) (hn : w.heap.size = n) : ∀ j u, [x, y, z][j]? = some u -> (w.alloc (.cells #[x, y, z] t)).cell? ((⟨n, 0, none⟩ : Addr).add j) = some u :=
 hn ▸ World.news_of_block (cs := #[x, y, z]) (heap_alloc_new w _)
theorem zin : ∀ {xs ys : List zC}, xs.Sublist ys -> zbB xs <= zbB ys
 | _, _, .slnil => Nat.le_refl _
 | _, _, .cons a h => by have := zin h; simp only [zbB, List.map_cons, List.sum_cons] at this ⊢; omega
 | _, _, .cons_cons a h => by have := zin h; simp only [zbB, List.map_cons, List.sum_cons] at this ⊢; omega
def zbk (a : zd) (fs : List zd) (B : List (List Int)) (k j : Nat) : List (List Int) := zdd a fs (B.take k) ++ (fs.take j).filterMap fun f => zan a f (B.getD k [])
theorem zk7 {a : zd} {fs : List zd} {B : List (List Int)} {k j : Nat} (hj : j < fs.length) (hk : k < B.length) (e : zan a fs[j] B[k] = none) : zbk a fs B k (j + 1) = zbk a fs B k j := by
 unfold zbk
 rw [zH fs j hj, List.filterMap_append]
 simp [hk, e]
theorem zk6 {a : zd} {fs : List zd} {B : List (List Int)} {k j : Nat} {r : List Int} (hj : j < fs.length) (hk : k < B.length) (e : zan a fs[j] B[k] = some r) : zbk a fs B k (j + 1) = zbk a fs B k j ++ [r] := by
 unfold zbk
 rw [zH fs j hj, List.filterMap_append]
 simp [hk, e]
theorem zma {a : zd} {fs : List zd} {B : List (List Int)} {k : Nat} (hk : k < B.length) : zbk a fs B k fs.length = zbk a fs B (k + 1) 0 := by
 have hd : B.getD k [] = B[k] := by simp [hk]
 unfold zbk zdd
 rw [List.take_length, zH B k hk, hd, List.flatMap_append]
 simp
theorem zgy (a : zd) (fs : List zd) (B : List (List Int)) : zbk a fs B 0 0 = [] := by simp [zbk, zdd]
theorem zmc (a : zd) (fs : List zd) (B : List (List Int)) : zbk a fs B B.length 0 = zdd a fs B := by simp [zbk]
theorem zmb {a : zd} {fs : List zd} {B : List (List Int)} {k j : Nat} (hk : k < B.length) : (zbk a fs B k j).length <= (zdd a fs B).length := by
 have e : B = B.take k ++ B[k] :: B.drop (k + 1) := by
  rw [<- List.drop_eq_getElem_cons hk, List.take_append_drop]
 have h1 : (zdd a fs B).length = (zdd a fs (B.take k)).length + ((fs.filterMap fun f => zan a f B[k]).length + (zdd a fs (B.drop (k + 1))).length) := by
  have key : ∀ (B1 B2 : List (List Int)) (b : List Int), (zdd a fs (B1 ++ b :: B2)).length = (zdd a fs B1).length + ((fs.filterMap fun f => zan a f b).length + (zdd a fs B2).length) := fun B1 B2 b => by
   unfold zdd
   rw [List.flatMap_append, List.flatMap_cons, List.length_append, List.length_append]
  have := key (B.take k) (B.drop (k + 1)) B[k]
  rwa [<- e] at this
 have h2 : ((fs.take j).filterMap fun f => zan a f (B.getD k [])).length <= (fs.filterMap fun f => zan a f B[k]).length := by
  have hd : B.getD k [] = B[k] := by simp [hk]
  rw [hd]
  exact ((List.take_sublist j fs).filterMap _).length_le
 unfold zbk
 rw [List.length_append]
 omega
theorem zax.one {w : World} {lo : Nat} {u : Value} {xs : List Int} (h : zg w lo w.heap.size u xs) (hl : lo <= w.heap.size) : zax (w.alloc (.cells #[u] 23)) lo (w.heap.size + 1) (.slice (some ⟨w.heap.size, 0, none⟩) 1 1) [xs] :=
 ⟨[u], ⟨rfl, fun i h1 h2 => by
   have : i = 0 := by simp at h1; omega
   subst this
   exact (h.below (ze w _) (Nat.le_refl _)).mono (Nat.le_refl _) (by omega)⟩, ⟨rfl, .inr ⟨w.heap.size, 1, _, rfl, hl, heap_alloc_new w _, Nat.le_refl _, by decide, rfl, rfl⟩⟩, fun g hg => by simp [Value.ownBlock] at hg; omega⟩
theorem zax.empty (w : World) : zax (w.alloc (.cells #[] 23)) w.heap.size (w.heap.size + 1) (.slice (some ⟨w.heap.size, 0, none⟩) 0 0) [] :=
 ⟨[], ⟨rfl, fun i h => absurd h (by simp)⟩, World.ownsRow_made w #[] 0 (Nat.le_refl _) (by decide) rfl, fun g hg => by simp [Value.ownBlock] at hg; omega⟩
structure zo9 (w0 wr : World) (gs : List zd) (ls : List zC) (k : Nat) (Ab : Option Addr) (cb : Nat) (Ar : Option Addr) (cr : Nat) (us : List Value) : Prop where
 below : Below w0.heap.size w0 wr
 binds : zax wr w0.heap.size wr.heap.size (.slice Ab (zaX gs ls k).length cb) (zaX gs ls k)
 rest : zeH w0 wr (zbJ ls k) Ar cr us
set_option maxHeartbeats 16000000 in
theorem zib (v v2 : Value) (gs : List zd) (ls : List zC) (R : List (List Int)) (hR : R = zfl gs ls) (w : World) (h : zu w w.heap.size v gs) (h2 : za6 w w.heap.size v2 ls) (hn : gs.length <= 1048576) (ht : tot gs <= 1048576) (hl : ls.length + zbB ls <= 1048576)
 (hc : ∀ f ∈ gs, f.2.all zt = true) (hnd : gs.Nodup) (hT : ∀ l ∈ ls, l.2.2.all zz = true) :
 Calls Tryz.prog 116 #[v, v2] w fun e w' => ∃ A c, e = .returned (.slice A R.length c) /\ zax w' w.heap.size w'.heap.size (.slice A R.length c) R /\ Below w.heap.size w w' := by
 obtain ⟨i0, hi0, hz0, hz1, hz2⟩ := info_parts Tryz.infoIntS
 obtain ⟨i1, hi1, hy0, hy1, hy2⟩ := info_parts Tryz.infoLit
 have HR := Lib.hid hR
 have HC := Lib.hid hc
 have HT := Lib.hid hT
 have HOK := Lib.hid (fun k (hk : k <= ls.length) => zjb hc hnd hT hk)
 have H00 := Lib.hid (And.intro h h2)
 obtain ⟨A, c, rfl, hcA, _⟩ := h
 obtain ⟨A2, c2, rfl, hc2, _⟩ := h2
 clear hR hc hT hnd
 go_enter Tryz.func116, Tryz.ntmps116
 go_upto_region 2 with fail
 have HO0 := Lib.hid (zax.empty w)
 obtain ⟨wA, hwA⟩ : ∃ wA, wA = w.alloc (Obj.cells #[] 23) := ⟨_, rfl⟩
 have hBA := Lib.hid (show Below w.heap.size w wA by rw [hwA]; exact ze _ _)
 have hsA : wA.heap.size = w.heap.size + 1 := by rw [hwA]; simp
 rw [<- hwA] at HO0 ⊢
 clear hwA
 have HSA := Lib.hid hsA
 have hsA2 : w.heap.size < wA.heap.size := by omega
 clear hsA
 have H := Lib.hid (H00.out.1.on hBA.out)
 have H2 := Lib.hid (H00.out.2.on hBA.out)
 clear H00
 go_upto_region 3 with (first
  | (go_at_call 141; refine (zmg _).mono ?_; rintro e w2 ⟨A4, c4, rfl, o4, b4⟩; have H4 := Lib.hid (And.intro o4 b4); clear o4 b4))
 obtain ⟨w3, hw3⟩ : ∃ w3, w3 = w2.alloc (Obj.cells #[Value.slice A4 4 c4] 23) := ⟨_, rfl⟩
 have HS0 := Lib.hid (show Below wA.heap.size wA w3 /\ zax w3 wA.heap.size w3.heap.size (.slice (some ⟨w2.heap.size, 0, none⟩) 1 1) [za8] from by
  obtain ⟨o4, b4⟩ := H4.out
  refine ⟨by rw [hw3]; exact zf b4 (ze _ _), ?_⟩
  have := zax.one o4 b4.size
  rw [hw3]
  exact this.mono (Nat.le_refl _) (by simp))
 rw [<- hw3]
 clear hw3 H4
 go_upto_region 4 with fail
 have HSOL := Lib.hid (show zo9 wA (w3.alloc (Obj.cells #[] 68)) gs ls 0 (some ⟨w2.heap.size, 0, none⟩) 1 (some ⟨w3.heap.size, 0, none⟩) 0 [] from
  ⟨zf HS0.out.1 (ze _ _), (HS0.out.2.below (ze _ _) (Nat.le_refl _)).mono (Nat.le_refl _) (by simp), zeH.empty _ _ HS0.out.1⟩)
 clear HS0
 go_wp2_with fail
 go_loopw [6, 7, 8] (fun vb vr vi wr => ∃ (k : Nat) (Ab : Option Addr) (cb : Nat) (Ar : Option Addr) (cr : Nat) (us : List Value), k <= ls.length /\ vi = .int .i64 k /\ vb = .slice Ab (zaX gs ls k).length cb /\ vr = .slice Ar (zbJ ls k).length cr /\ zo9 wA wr gs ls k Ab cb Ar cr us) (fun _ _ vi _ => ls.length - (intOf vi).toNat)
 case atStart => exact ⟨0, _, _, _, _, [], Nat.zero_le _, rfl, rfl, rfl, HSOL.out⟩
 case round =>
  obtain ⟨k, Ab, cb, Ar, cr, us, hk, rfl, rfl, rfl, hat⟩ := hrel
  have HAT := Lib.hid hat
  clear hat HSOL
  have hrl := zjp ls k
  by_cases hlt : k < ls.length
  ·obtain ⟨b, o, u0, u1, u2, rfl, hbB, k0, k1, k2, rfl, rfl, p3⟩ := (H2.out.below HAT.out.below (Nat.le_refl _)).get hlt
   have HP3 := Lib.hid p3
   obtain ⟨A5, c5, rfl, hc5, _⟩ := p3
   have hln := za3 ls k hlt
   by_cases h0 : ls[k].1 = 0
   ·have hd : (ls[k].1 != 0) = false := by simp [h0]
    have HY := Lib.hid (zhZ (fs := gs) hlt h0)
    have HRY := Lib.hid (zl3 hlt h0)
    have hta := HT.out _ (List.getElem_mem hlt)
    have HLN := Lib.hid (HOK.out (k + 1) (by omega)).2
    have HBK := Lib.hid (HOK.out k (by omega))
    obtain ⟨B, hB⟩ : ∃ B, B = zaX gs ls k := ⟨_, rfl⟩
    have HBB := Lib.hid (show zax wr wA.heap.size wr.heap.size (.slice Ab B.length cb) B by rw [hB]; exact HAT.out.binds)
    rw [<- hB] at HY HBK ⊢
    rw [HY.out] at HLN
    have HBE := Lib.hid hB
    have hbn : B.length <= 65536 := HBK.out.2
    clear hB
    go_wp2_with fail
    rename World => w1
    have C0 := Lib.hid (zfS.empty (lo := w1.heap.size) (Below.refl w1.heap.size w1))
    go_loopw [9, 10] (fun vn vp wr => ∃ (p : Nat) (An : Option Addr) (cn : Nat) (av : List Value), p <= B.length /\ vp = .int .i64 p /\ vn = .slice An (zbk ls[k].2 gs B p 0).length cn /\ zfS w1.heap.size w1 wr (zbk ls[k].2 gs B p 0) An cn av) (fun _ vp _ => B.length - (intOf vp).toNat)
    case atStart =>
     refine ⟨0, some ⟨w1.heap.size, 0, none⟩, 0, [], Nat.zero_le _, rfl, ?_, ?_⟩
     ·rw [zgy]; rfl
     ·rw [zgy]; exact C0.out
    case round =>
     obtain ⟨p, An, cn, av, hp, rfl, rfl, hcol⟩ := hrel
     by_cases hltp : p < B.length
     ·have HCOL := Lib.hid hcol
      clear hcol
      go_wp2_with fail
      rename World => w5
      go_loopw [9, 11] (fun vn vj wr => ∃ (j : Nat) (An : Option Addr) (cn : Nat) (av : List Value), j <= gs.length /\ vj = .int .i64 j /\ vn = .slice An (zbk ls[k].2 gs B p j).length cn /\ zfS w1.heap.size w1 wr (zbk ls[k].2 gs B p j) An cn av) (fun _ vj _ => gs.length - (intOf vj).toNat)
      case atStart => exact ⟨0, An, cn, av, Nat.zero_le _, rfl, rfl, HCOL.out⟩
      case round =>
       obtain ⟨j, An, cn, av, hj, rfl, rfl, hcol⟩ := hrel
       have HCO := Lib.hid hcol
       have B1 := hcol.below
       clear hcol
       have BW := zf HAT.out.below B1
       by_cases hltj : j < gs.length
       ·obtain ⟨b3, o3, A6, c6, rfl, hb3, f0, f1, p6⟩ := (H.out.below BW (Nat.le_refl _)).get hltj
        obtain ⟨gb, A7, c7, rfl, hgb, r0, o7⟩ := (HBB.out.below B1 (Nat.le_refl _)).get hltp
        have hsz1 := B1.size
        have hszA := HAT.out.below.size
        have hlf := zaz gs j hltj
        have hcf := HC.out _ (List.getElem_mem hltj)
        have hbok := HBK.out.1 _ (List.getElem_mem hltp)
        have hb4 := zV hbok
        have hbl : b < wr.heap.size := by omega
        have hb3l : b3 < wr.heap.size := by omega
        have hgl : gb < wr.heap.size := hgb
        have k1' : wr.cell? ⟨b, o + k * 3 + 1, none⟩ = some (.int .i64 ls[k].2.1) := (B1.cell (p := ⟨b, o + k * 3 + 1, none⟩) (by show b < w1.heap.size; omega)).trans k1
        have k2' : wr.cell? ⟨b, o + k * 3 + 2, none⟩ = some (.slice A5 ls[k].2.2.length c5) := (B1.cell (p := ⟨b, o + k * 3 + 2, none⟩) (by show b < w1.heap.size; omega)).trans k2
        have HS := Lib.hid (show ∀ W, Below wr.heap.size wr W -> (Below wr.heap.size wr W /\ W.cell? ⟨b, o + k * 3 + 1, none⟩ = some (.int .i64 ls[k].2.1) /\ W.cell? ⟨b, o + k * 3 + 2, none⟩ = some (.slice A5 ls[k].2.2.length c5) /\ W.cell? ⟨b3, o3 + j * 2, none⟩ = some (.int .i64 gs[j].1) /\ W.cell? ⟨b3, o3 + j * 2 + 1, none⟩ = some (.slice A6 gs[j].2.length c6) /\ W.cell? ⟨gb, p, none⟩ = some (.slice A7 B[p].length c7)) from fun W hW =>
         ⟨hW, (hW.cell (p := ⟨b, o + k * 3 + 1, none⟩) hbl).trans k1', (hW.cell (p := ⟨b, o + k * 3 + 2, none⟩) hbl).trans k2', (hW.cell (p := ⟨b3, o3 + j * 2, none⟩) hb3l).trans f0, (hW.cell (p := ⟨b3, o3 + j * 2 + 1, none⟩) hb3l).trans f1, (hW.cell (p := ⟨gb, p, none⟩) hgl).trans r0⟩)
        obtain ⟨Rm, hRm⟩ : ∃ Rm, Rm = (zan ls[k].2 gs[j] B[p]).getD [] := ⟨_, rfl⟩
        obtain ⟨ok, hok⟩ : ∃ ok, ok = (zan ls[k].2 gs[j] B[p]).isSome := ⟨_, rfl⟩
        have HM := Lib.hid (show ∀ W, Below wr.heap.size wr W -> Calls Tryz.prog 142 #[.agg #[.int .i64 ls[k].2.1, .slice A5 ls[k].2.2.length c5], .agg #[.int .i64 gs[j].1, .slice A6 gs[j].2.length c6], .slice A7 B[p].length c7] W fun e w' => ∃ A' c', e = .returned (.tuple #[.slice A' Rm.length c', .bool ok]) /\ zg w' wr.heap.size w'.heap.size (.slice A' Rm.length c') Rm /\ Below wr.heap.size wr w' from fun W hW =>
         (zns _ _ _ ls[k].2 gs[j] B[p] Rm ok hRm hok W hbok ⟨_, rfl, (HP3.out.below (zf B1 hW) (by omega)).more (by have := hW.size; omega)⟩ ⟨_, rfl, (p6.below hW (by omega)).more (by have := hW.size; omega)⟩ ((o7.below hW (by omega)).rd.more (by have := hW.size; omega)) hta hcf (by omega) (by omega)).mono fun e w' ⟨A', c', he, ho, hb⟩ => ⟨A', c', he, ho.mono hW.size (Nat.le_refl _), zf hW hb⟩)
        have HLE := Lib.hid (Nat.le_trans (zmb (a := ls[k].2) (fs := gs) (j := j) hltp) HLN.out)
        have HMM := Lib.hid (And.intro hRm hok)
        clear p6 o7 hRm hok hcf hbok hb4 hln
        go_upto_region 16 with fail
        go_cut [12, 13] (fun s0 s1 wx => ∃ (Q : Option Addr) (f : Nat), s0 = .slice Q Rm.length f /\ s1 = .bool ok /\ zg wx wr.heap.size wx.heap.size (.slice Q Rm.length f) Rm /\ Below wr.heap.size wr wx)
        case first =>
         clear k0 k1 k2 k1' k2' f0 f1 r0
         go_region_held3 (fun W => Below wr.heap.size wr W /\ W.cell? ⟨b, o + k * 3 + 1, none⟩ = some (.int .i64 ls[k].2.1) /\ W.cell? ⟨b, o + k * 3 + 2, none⟩ = some (.slice A5 ls[k].2.2.length c5) /\ W.cell? ⟨b3, o3 + j * 2, none⟩ = some (.int .i64 gs[j].1) /\ W.cell? ⟨b3, o3 + j * 2 + 1, none⟩ = some (.slice A6 gs[j].2.length c6) /\ W.cell? ⟨gb, p, none⟩ = some (.slice A7 B[p].length c7))
          (first | exact HS.out _ (Below.refl _ _) | exact HS.out _ (Below.refl _ _).drew | exact HS.out _ (zf (And.left (by assumption)) (by assumption)) | exact HS.out _ (by assumption))
          (first
            | (go_at_call 142; refine (HM.out _ (And.left (by assumption))).mono ?_; rintro e w_r ⟨Q, f, rfl, oo, hb_r⟩))
         all_goals (go_wp2_with fail; go_meet; exact ⟨_, _, rfl, rfl, oo, hb_r⟩)
        case rest =>
         obtain ⟨Q, f, rfl, rfl, oo, hb_r⟩ := hcut
         clear HS HM k0 k1 k2 k1' k2' f0 f1 r0
         generalize wc = w6 at *
         have HOO := Lib.hid (And.intro oo hb_r)
         clear oo hb_r
         obtain ⟨hRm, hok⟩ := HMM.out
         cases hm : zan ls[k].2 gs[j] B[p] with
         | none =>
          rw [hm] at hok
          have hokf : ok = false := hok
          subst hokf
          have HE := Lib.hid (zk7 hltj hltp hm)
          clear hm hRm hok
          go_wp2_with fail
          go_roundw
          case rel => exact ⟨j + 1, An, cn, av, by omega, by go_num, by rw [HE.out], by rw [HE.out]; exact HCO.out.on HOO.out.2⟩
          case measure => simp [intOf]; omega
         | some r =>
          rw [hm] at hok hRm
          have hokf : ok = true := hok
          subst hokf
          have hRr : Rm = r := hRm
          subst hRr
          have HE := Lib.hid (zk6 hltj hltp hm)
          clear hm hRm hok
          obtain ⟨zs, hzs⟩ : ∃ zs, zs = zbk ls[k].2 gs B p j := ⟨_, rfl⟩
          have hzl : zs.length <= 65536 := by rw [hzs]; exact HLE.out
          rw [<- hzs] at HCO HE ⊢
          have HZ := Lib.hid hzs
          clear hzs
          go_wp2_with (at_builtin; refine wpList_append_lies _ rfl (.tmp 69) (.tmp 71) 136 rfl w1.heap.size 23 i0 (.slice none 0 0) 1 24 Tryz.underlying136 hi0 hz0 hz1 hz2 rfl (by decide) (.slice An zs.length cn) zs.length av rfl ?c1 ⟨_, 0, none⟩ 1 1 [.slice Q Rm.length f] rfl rfl (zeR _ _ _ _ (by simp)) ?c2 (by omega) (by unfold maxLen; omega) (by omega) ?c3 _ rfl ?_)
          case c1 => exact (HCO.out.on HOO.out.2).row.alloc _
          case c2 => intro u hu; simp at hu; subst hu; rfl
          case c3 => have := HCO.out.below.size; have := HOO.out.2.size; simp; omega
          intro g2 cap w8 hown hg _ _
          obtain ⟨hcol, hlen⟩ := (HCO.out.on HOO.out.2).push HE.out (Below.refl _ _) (HOO.out.1.mono (by have := HCO.out.below.size; omega) (Nat.le_refl _)) hg hown
          rw [hlen]
          have HC2 := Lib.hid hcol
          clear hcol hown hg
          go_wp2_with fail
          go_roundw
          case rel => exact ⟨j + 1, _, _, _, by omega, by go_num, rfl, HC2.out⟩
          case measure => simp [intOf]; omega
       ·have HE := Lib.hid (show zbk ls[k].2 gs B p j = zbk ls[k].2 gs B (p + 1) 0 by rw [show j = gs.length by omega]; exact zma hltp)
        go_wp2_with fail
        go_roundw
        case rel => exact ⟨p + 1, An, cn, av, by omega, by go_num, by rw [HE.out], by rw [<- HE.out]; exact HCO.out⟩
        case measure => simp [intOf]; omega
     ·have HE := Lib.hid (show zbk ls[k].2 gs B p 0 = zaX gs ls (k + 1) by rw [show p = B.length by omega, zmc, HY.out])
      have HCOL := Lib.hid hcol
      have BW := zf HAT.out.below hcol.below
      have HRE := Lib.hid (HAT.out.rest.on hcol.below)
      have hszA := HAT.out.below.size
      clear hcol
      go_wp2_with fail
      go_roundw
      case rel => exact ⟨k + 1, An, cn, Ar, cr, us, by omega, by go_num, by rw [HE.out], by rw [HRY.out], BW, by
       have := (HCOL.out.rows (Nat.le_refl _)).mono hszA (Nat.le_refl _)
       rw [HE.out] at this
       exact this, by rw [HRY.out]; exact HRE.out⟩
      case measure => simp [intOf]; omega
   ·have hd : (ls[k].1 != 0) = true := by simp [h0]
    have HY := Lib.hid (zjc (fs := gs) hlt h0)
    have HRY := Lib.hid (zne hlt h0)
    obtain ⟨zs, hzs⟩ : ∃ zs, zs = zbJ ls k := ⟨_, rfl⟩
    have hzl : zs.length <= 1048576 := by rw [hzs]; omega
    have HRE := Lib.hid (show zeH wA wr zs Ar cr us by rw [hzs]; exact HAT.out.rest)
    rw [<- hzs] at HRY ⊢
    clear hzs
    go_wp2_with (at_builtin; refine wpList_append_lies _ rfl (.tmp 31) (.tmp 36) 64 rfl wA.heap.size 68 i1 (.agg #[.int .i64 0, .int .i64 0, .slice none 0 0]) 3 40 Tryz.underlying64 hi1 hy0 hy1 hy2 rfl (by decide) (.slice Ar zs.length cr) zs.length (zeg zs us) rfl ?c1 ⟨_, 0, none⟩ 1 1 [.int .i64 ls[k].1, .int .i64 ls[k].2.1, .slice A5 ls[k].2.2.length c5] rfl rfl (zpm _ _ _ _ _ _ (by simp)) ?c2 (by omega) (by unfold maxLen; omega) (by omega) ?c3 _ rfl ?_)
    case c1 => exact HRE.out.row.alloc _
    case c2 => intro u hu; simp at hu; rcases hu with rfl | rfl | rfl <;> rfl
    case c3 => have := HRE.out.below.size; simp; omega
    intro g2 cap w8 hown hg _ _
    obtain ⟨hcol, hlen⟩ := HRE.out.push HRY.out (Below.refl _ _) HP3.out hg hown
    rw [hlen]
    have HC2 := Lib.hid hcol
    have HB8 := Lib.hid (show zax w8 wA.heap.size w8.heap.size (.slice Ab (zaX gs ls k).length cb) (zaX gs ls k) from by
     have hg' := zy hg
     obtain ⟨av, ⟨a1, a2⟩, a3, a4⟩ := HAT.out.binds
     have hne : ∀ {v : Value} {n m : Nat} {e : TypeId} {xs : List Value} {lo : Nat}, wr.ownsRow lo e m v n xs -> e ≠ 68 -> ∀ q, v.ownBlock = some q -> w8.heap[q]? = wr.heap[q]? := fun {v n m e xs lo} hv hne q hq => hg'.block q (hv.lt q hq).2 fun e2 => by
      rcases HRE.out.row.2 with ⟨e3, _⟩ | ⟨g1, c1, cur1, e3, _, h1, _⟩
      ·rw [e3] at e2; cases e2
      ·rw [e3] at e2
       have e4 : g1 = q := by simpa [Value.ownBlock] using e2.symm
       subst e4
       exact zcv hv (show Blk wr g1 68 cur1 from h1) hne hq
     exact ⟨av, ⟨a1, fun i x y => ((a2 i x y).kept (hne (a2 i x y).1 (by decide))).mono (Nat.le_refl _) hg'.size⟩, zw a3 (hne a3 (by decide)), fun q hq => Nat.lt_of_lt_of_le (a4 q hq) hg'.size⟩)
    clear hcol hown hg
    go_wp2_with fail
    go_roundw
    case rel => exact ⟨k + 1, Ab, cb, _, _, _, by omega, by go_num, by rw [HY.out], rfl, HC2.out.below, by rw [HY.out]; exact HB8.out, HC2.out⟩
    case measure => simp [intOf]; omega
  ·rename World => w1
   have hkn : k = ls.length := by omega
   subst hkn
   obtain ⟨B, hB⟩ : ∃ B, B = zaX gs ls ls.length := ⟨_, rfl⟩
   obtain ⟨rs, hrs⟩ : ∃ rs, rs = zbJ ls ls.length := ⟨_, rfl⟩
   have HBB := Lib.hid (show zax w1 wA.heap.size w1.heap.size (.slice Ab B.length cb) B by rw [hB]; exact HAT.out.binds)
   have HRS := Lib.hid (show za6 w1 w1.heap.size (.slice Ar rs.length cr) rs by rw [hrs]; exact HAT.out.rest.rd)
   have HBK := Lib.hid (show (∀ b ∈ B, zp b = true) /\ B.length <= 65536 by rw [hB]; exact HOK.out _ (Nat.le_refl _))
   have hsub : ∀ l ∈ rs, l ∈ ls := fun l hl => by
    rw [hrs] at hl
    unfold zbJ at hl
    rw [List.take_length] at hl
    exact (List.mem_filter.1 hl).1
   have HTR := Lib.hid (show ∀ l ∈ rs, l.2.2.all zz = true from fun l hl => HT.out l (hsub l hl))
   have htr : zbB rs <= zbB ls := by
    have : rs.Sublist ls := by
     rw [hrs]
     unfold zbJ
     rw [List.take_length]
     exact List.filter_sublist
    exact zin this
   have hrn : rs.length <= 1048576 := by rw [hrs]; omega
   have HRR := Lib.hid (show R = zbs gs rs B B.length by rw [HR.out, hrs, hB]; rfl)
   have hbn := HBK.out.2
   have HO1 := Lib.hid ((HO0.out.below HAT.out.below (by have := HSA.out; omega)).mono (lo' := w.heap.size) (hi' := w1.heap.size) (Nat.le_refl _) (by have := HSA.out; have := HAT.out.below.size; omega))
   rw [<- hB, <- hrs]
   clear hB hrs hsub hrl
   go_wp2_with fail
   go_loopw [5, 14] (fun vo vk wr => ∃ (k : Nat) (Ao : Option Addr) (co : Nat), k <= B.length /\ vk = .int .i64 k /\ vo = .slice Ao (zbs gs rs B k).length co /\ zax wr w.heap.size wr.heap.size (.slice Ao (zbs gs rs B k).length co) (zbs gs rs B k) /\ Below w1.heap.size w1 wr) (fun _ vk _ => B.length - (intOf vk).toNat)
   case atStart => exact ⟨0, _, 0, Nat.zero_le _, rfl, rfl, HO1.out, Below.refl _ _⟩
   case round =>
    obtain ⟨q, Ao, co, hq, rfl, rfl, hout, hbe⟩ := hrel
    have hszA := HAT.out.below.size
    have hsz := hbe.size
    by_cases hltq : q < B.length
    ·obtain ⟨gb, A7, c7, rfl, hgb, r0, o7⟩ := (HBB.out.below hbe (Nat.le_refl _)).get hltq
     have hbok := HBK.out.1 _ (List.getElem_mem hltq)
     have HB4 := Lib.hid (zV hbok)
     have hb4l : B[q].length <= 1048576 := by have := HB4.out; omega
     obtain ⟨bo, hbo⟩ : ∃ bo, bo = (rs.all fun l => zM gs l B[q]) := ⟨_, rfl⟩
     have CT := Lib.hid (znp (.slice A gs.length c) (.slice Ar rs.length cr) (.slice A7 B[q].length c7) gs rs B[q] bo hbo wr (H.out.on (zf HAT.out.below hbe)) (HRS.out.on hbe) (o7.rd.more (by omega)) HB4.out HTR.out hn ht hrn (by omega))
     obtain ⟨T, hTe⟩ : ∃ T, T = zbs gs rs B q := ⟨_, rfl⟩
     have hTn : T.length <= 65536 := by
      have hup := (zdI gs rs B q hq).1
      rw [hTe]
      exact zce hup.nodup fun b hb => HBK.out.1 b (zff hq b hb)
     have hTl : ∀ s ∈ T, s.length <= 1048576 := fun s hs => by
      rw [hTe] at hs
      rw [zV (HBK.out.1 s (zff hq s hs))]
      decide
     have HOUT := Lib.hid (show zax wr w.heap.size wr.heap.size (.slice Ao T.length co) T by rw [hTe]; exact hout)
     have HO7 := Lib.hid (show zg wr w.heap.size wr.heap.size (.slice A7 B[q].length c7) B[q] from o7.mono (by omega) (by omega))
     have HBE := Lib.hid hbe
     have HTL := Lib.hid hTl
     have HTE := Lib.hid hTe
     rw [<- hTe]
     clear o7 hbe hout hTl hTe hbok
     cases bo
     ·have HE := Lib.hid (zim hltq hbo.symm)
      clear hbo
      go_wp2_with (go_at_call 143; refine CT.out.mono ?_; rintro e w2 ⟨rfl, hb2⟩; have HB2 := Lib.hid hb2; clear hb2)
      go_roundw
      case rel => exact ⟨q + 1, Ao, co, by omega, by go_num, by rw [HE.out, HTE.out], by rw [HE.out, <- HTE.out]; exact (HOUT.out.below HB2.out (Nat.le_refl _)).mono (Nat.le_refl _) HB2.out.size, zf HBE.out HB2.out⟩
      case measure => simp [intOf]; omega
     ·have HE := Lib.hid (zhC hltq hbo.symm)
      clear hbo
      obtain ⟨T2, hT2⟩ : ∃ T2, T2 = zkg T B[q] := ⟨_, rfl⟩
      have HT2 := Lib.hid hT2
      have HPUT := Lib.hid (show ∀ W, Below wr.heap.size wr W -> Calls Tryz.prog 144 #[.slice Ao T.length co, .slice A7 B[q].length c7] W fun e w' => ∃ A c, e = .returned (.slice A T2.length c) /\ zax w' w.heap.size w'.heap.size (.slice A T2.length c) T2 /\ Below W.heap.size W w' from fun W hW =>
       znr _ _ T B[q] T2 hT2 w.heap.size wr.heap.size W (HOUT.out.below hW (Nat.le_refl _)) (HO7.out.below hW (Nat.le_refl _)) hW.size (by have := hW.size; omega) (by omega) HTL.out (by omega))
      clear hT2
      have r0' : ∀ W, Below wr.heap.size wr W -> W.cell? ⟨gb, q, none⟩ = some (.slice A7 B[q].length c7) := fun W hW => (hW.cell (p := ⟨gb, q, none⟩) hgb).trans r0
      have HR0 := Lib.hid r0'
      clear r0'
      go_wp2_with (first
       | (go_at_call 143; refine CT.out.mono ?_; rintro e w2 ⟨rfl, hb2⟩
          have r2 := HR0.out w2 hb2
          have HB2 := Lib.hid hb2
          clear hb2)
       | (go_at_call 144; refine (HPUT.out _ HB2.out).mono ?_; rintro e w3 ⟨A8, c8, rfl, o8, b8⟩
          have HO8 := Lib.hid (And.intro o8 b8)
          clear o8 b8))
      go_roundw
      case rel => exact ⟨q + 1, A8, c8, by omega, by go_num, by rw [HE.out, <- HTE.out, <- HT2.out], by rw [HE.out, <- HTE.out, <- HT2.out]; exact HO8.out.1, zf HBE.out (zf HB2.out HO8.out.2)⟩
      case measure => simp [intOf]; omega
    ·have HF := Lib.hid (show zax wr w.heap.size wr.heap.size (.slice Ao R.length co) R /\ zbs gs rs B q = R by
      have : q = B.length := by omega
      rw [this] at hout ⊢
      rw [HRR.out]
      exact ⟨hout, rfl⟩)
     have HBE := Lib.hid (zf hBA.out (zf HAT.out.below hbe))
     rw [HF.out.2]
     clear hout hbe
     go_wp2_with fail
     go_ret
     exact ⟨_, _, rfl, HF.out.1, HBE.out⟩
open Go.RowKit
def zaA (a : zd) (S : List (List Int)) : Nat -> List zd
 | 0 => []
 | k + 1 => if zai a (S.getD k []) then zQ (zaA a S k) (zaM a (S.getD k [])) else zaA a S k
theorem zhT {a : zd} {S : List (List Int)} {k : Nat} (h : k < S.length) (e : zai a S[k] = true) : zaA a S (k + 1) = zQ (zaA a S k) (zaM a S[k]) := by
 have hd : S.getD k [] = S[k] := by simp [h]
 show (if _ then _ else _) = _
 rw [hd, if_pos e]
theorem ziR {a : zd} {S : List (List Int)} {k : Nat} (h : k < S.length) (e : zai a S[k] = false) : zaA a S (k + 1) = zaA a S k := by
 have hd : S.getD k [] = S[k] := by simp [h]
 show (if _ then _ else _) = _
 rw [hd, if_neg (by rw [e]; simp)]
theorem zfZ {a : zd} {S : List (List Int)} (ha : a.2.length <= 2) : ∀ k, (zaA a S k).length <= k /\ tot (zaA a S k) <= k * 2
 | 0 => ⟨Nat.le_refl _, Nat.le_refl _⟩
 | k + 1 => by
  have ih := zfZ (S := S) ha k
  show List.length (if _ then _ else _) <= _ /\ tot (if _ then _ else _) <= _
  split
  ·have hb := zdk (zaA a S k) (zaM a (S.getD k []))
   have hl := zeo a (S.getD k [])
   omega
  ·omega
def zc4 (r : zJ) (gs : List zd) : List zd := zaA r.1 (zfl gs r.2) (zfl gs r.2).length
set_option maxHeartbeats 8000000 in
theorem zod (v v2 : Value) (r : zJ) (gs : List zd) (w : World) (h : zdX w w.heap.size v r) (h2 : zu w w.heap.size v2 gs) (hn : gs.length <= 1048576) (ht : tot gs <= 1048576) (hl : r.2.length + zbB r.2 <= 1048576)
 (hc : ∀ f ∈ gs, f.2.all zt = true) (hnd : gs.Nodup) (hT : ∀ l ∈ r.2, l.2.2.all zz = true) (ha : r.1.2.length <= 2) :
 Calls Tryz.prog 82 #[v, v2] w fun e w' => ∃ A c, e = .returned (.slice A (zc4 r gs).length c) /\ zq w' w.heap.size w'.heap.size (.slice A (zc4 r gs).length c) (zc4 r gs) /\ Below w.heap.size w w' := by
 obtain ⟨a, b, rfl, h, h3⟩ := h
 have H := Lib.hid h
 have H2 := Lib.hid h2
 have H3 := Lib.hid h3
 obtain ⟨A, c, rfl, hcA, _⟩ := h
 obtain ⟨A2, c2, rfl, hc2, _⟩ := h2
 obtain ⟨A3, c3, rfl, hc3, _⟩ := h3
 obtain ⟨S, hS⟩ : ∃ S, S = zfl gs r.2 := ⟨_, rfl⟩
 have HOKS := Lib.hid (show (∀ s ∈ S, zp s = true) /\ S.length <= 65536 from by
  obtain ⟨h1, h2⟩ := zjb hc hnd hT (Nat.le_refl _)
  rw [hS]
  have hup := (zdI gs (zbJ r.2 r.2.length) (zaX gs r.2 r.2.length) _ (Nat.le_refl _)).1
  have hok : ∀ s ∈ zfl gs r.2, zp s = true := fun s hs => h1 s (zff (Nat.le_refl _) s hs)
  exact ⟨hok, zce hup.nodup hok⟩)
 have CL := Lib.hid (fun W (hW : Below w.heap.size w W) => zib (.slice A2 gs.length c2) (.slice A3 r.2.length c3) gs r.2 S hS W (H2.out.on hW) (H3.out.on hW) hn ht hl hc hnd hT)
 have HR := Lib.hid (show zc4 r gs = zaA r.1 S S.length by rw [hS]; rfl)
 clear hc hnd hT hS
 go_enter Tryz.func82, Tryz.ntmps82
 go_upto_region 1 with fail
 obtain ⟨w1, hw1⟩ : ∃ w1, w1 = w.alloc (Obj.cells #[Value.int IntKind.i64 r.1.1, Value.slice A r.1.2.length c, Value.slice A3 r.2.length c3] 66) := ⟨_, rfl⟩
 have X1 : Blk w1 w.heap.size 66 #[.int .i64 r.1.1, .slice A r.1.2.length c, .slice A3 r.2.length c3] := by rw [hw1]; exact Blk.new _ _ _
 have B1 : Below w.heap.size w w1 := by rw [hw1]; exact ze _ _
 rw [<- hw1]
 clear hw1
 go_upto_region 2 with fail
 obtain ⟨w2, hw2⟩ : ∃ w2, w2 = w1.alloc (Obj.cells #[] 39) := ⟨_, rfl⟩
 have b2 : Below w1.heap.size w1 w2 := by rw [hw2]; exact ze _ _
 have HO2 := Lib.hid (show zq w2 w1.heap.size w2.heap.size (.slice (some ⟨w1.heap.size, 0, none⟩) 0 0) [] by rw [hw2]; exact (zbq.empty w1).own.own)
 rw [<- hw2]
 clear hw2
 have X2 := X1.below b2 X1.lt
 have B2 := zf B1 b2
 have hs12 := b2.size
 have hs01 := B1.size
 have x0 : w2.cell? ⟨w.heap.size, 0, none⟩ = some (.int .i64 r.1.1) := X2.cell 0
 have x1 : w2.cell? ⟨w.heap.size, 1, none⟩ = some (.slice A r.1.2.length c) := X2.cell 1
 have x2 : w2.cell? ⟨w.heap.size, 2, none⟩ = some (.slice A3 r.2.length c3) := X2.cell 2
 clear X1 b2 B1
 go_wp2_with (go_at_call 116; refine (CL.out _ B2).mono ?_; rintro e w3 ⟨A4, c4, rfl, o4, b4⟩; have H4 := Lib.hid (And.intro o4 b4); clear o4 b4)
 obtain ⟨o4, b4⟩ := H4.out
 have HX3 := Lib.hid (X2.below b4 X2.lt)
 have HS3 := Lib.hid o4
 have B3 := zf B2 b4
 have hs23 := b4.size
 have HO3 := Lib.hid ((HO2.out.below b4 (Nat.le_refl _)).mono (show w.heap.size <= w1.heap.size by omega) (show w2.heap.size <= w3.heap.size by omega))
 have H1 := Lib.hid (H.out.on B3)
 have hXl : w.heap.size < w3.heap.size := HX3.out.lt
 clear o4 b4 H4 x0 x1 x2 X2 CL HO2
 go_loopw [5, 7] (fun vo vi wr => ∃ (k : Nat) (Ao : Option Addr) (co : Nat), k <= S.length /\ vi = .int .i64 k /\ vo = .slice Ao (zaA r.1 S k).length co /\ zq wr w.heap.size wr.heap.size (.slice Ao (zaA r.1 S k).length co) (zaA r.1 S k) /\ Below w3.heap.size w3 wr) (fun _ vi _ => S.length - (intOf vi).toNat)
 case atStart => exact ⟨0, _, 0, Nat.zero_le _, rfl, rfl, HO3.out, Below.refl _ _⟩
 case round =>
  obtain ⟨k, Ao, co, hk, rfl, rfl, hout, hbe⟩ := hrel
  by_cases hlt : k < S.length
  ·obtain ⟨g, A7, c7, rfl, hgl, r0, o7⟩ := (HS3.out.below hbe (Nat.le_refl _)).get hlt
   have hsz := hbe.size
   have hb4 := Lib.hid (HOKS.out.1 _ (List.getElem_mem hlt))
   have hb5 : S[k].length <= 1048576 := by rw [zV hb4.out]; decide
   obtain ⟨F, hF⟩ : ∃ F, F = zaM r.1 S[k] := ⟨_, rfl⟩
   obtain ⟨ok, hok⟩ : ∃ ok, ok = zai r.1 S[k] := ⟨_, rfl⟩
   have HM := Lib.hid (show ∀ W, Below wr.heap.size wr W -> Calls Tryz.prog 117 #[.agg #[.int .i64 r.1.1, .slice A r.1.2.length c], .slice A7 S[k].length c7] W fun e w' => ∃ A' c', e = .returned (.tuple #[.agg #[.int .i64 F.1, .slice A' F.2.length c'], .bool ok]) /\ zg w' W.heap.size w'.heap.size (.slice A' F.2.length c') F.2 /\ Below W.heap.size W w' from fun W hW => by
    rw [hF, hok]
    exact zfj _ _ r.1 S[k] W ⟨_, rfl, (H1.out.on hbe).on hW⟩ ((o7.below hW (by omega)).rd.more (by have := hW.size; omega)) (by omega) hb5)
   have HF := Lib.hid (And.intro hF hok)
   have HOUT := Lib.hid hout
   have HBE := Lib.hid hbe
   have q0 : wr.cell? ⟨w.heap.size, 0, none⟩ = some (.int .i64 r.1.1) := (HX3.out.below hbe hXl).cell 0
   have q1 : wr.cell? ⟨w.heap.size, 1, none⟩ = some (.slice A r.1.2.length c) := (HX3.out.below hbe hXl).cell 1
   clear o7 hF hok hout hbe
   obtain ⟨SS, hSS⟩ : ∃ SS : World -> Prop, SS = (fun W => Below wr.heap.size wr W /\ W.cell? ⟨w.heap.size, 0, none⟩ = some (.int .i64 r.1.1) /\ W.cell? ⟨w.heap.size, 1, none⟩ = some (.slice A r.1.2.length c) /\ W.cell? ⟨g, k, none⟩ = some (.slice A7 S[k].length c7)) := ⟨_, rfl⟩
   have HB := Lib.hid (show ∀ W, SS W -> (Below wr.heap.size wr W /\ W.cell? ⟨w.heap.size, 0, none⟩ = some (.int .i64 r.1.1) /\ W.cell? ⟨w.heap.size, 1, none⟩ = some (.slice A r.1.2.length c) /\ W.cell? ⟨g, k, none⟩ = some (.slice A7 S[k].length c7)) from by rw [hSS]; exact fun W hW => hW)
   have HS := Lib.hid (show ∀ W, Below wr.heap.size wr W -> SS W from by
    rw [hSS]
    exact fun W hW => ⟨hW, (hW.cell (World.block_lt_of_cell? _ _ q0)).trans q0, (hW.cell (World.block_lt_of_cell? _ _ q1)).trans q1, (hW.cell (World.block_lt_of_cell? _ _ r0)).trans r0⟩)
   clear hSS
   go_upto_region 6 with fail
   go_cut [8, 9] (fun s8 s9 wx => ∃ (gb : Nat) (A' : Option Addr) (c' : Nat), s8 = .pointer (some ⟨gb, 0, none⟩) /\ s9 = .bool ok /\ Blk wx gb 39 #[.int .i64 F.1, .slice A' F.2.length c'] /\ zg wx wr.heap.size wx.heap.size (.slice A' F.2.length c') F.2 /\ Below wr.heap.size wr wx)
   case first =>
    have BB : Below wr.heap.size wr wr.drew := (Below.refl _ _).drew
    have SB := HS.out _ BB
    refine zB SS 11 13 (by kernel_rfl) rfl ?_
    refine za (i := 0) (oi := _) ?v0 rfl rfl (by kernel_rfl) (by decide) (fun _ _ _ h => h) rfl ?hy0 (fun _ => SB) ?rest0
    case hy0 => (intro W; go_simp; (try with_reducible rfl))
    try simp only [zs.a, zs.b, zs.c]
    refine zm (i := 1) (oi := _) ?v1 rfl rfl (by kernel_rfl) (fun _ _ _ h => h) rfl ?hy1 SB ?rest1
    case hy1 => (intro W hW; obtain ⟨_, e0, e1, e2⟩ := HB.out W hW; go_simp; (try with_reducible rfl))
    try simp only [zs.a, zs.b, zs.c]
    refine za (i := 2) (oi := _) ?v2 rfl rfl (by kernel_rfl) (by decide) (fun _ _ _ h => h) rfl ?hy2 (fun _ => SB) ?rest2
    case hy2 => (intro W; go_simp; (try with_reducible rfl))
    try simp only [zs.a, zs.b, zs.c]
    refine za (i := 3) (oi := _) ?v3 rfl rfl (by kernel_rfl) (by decide) (fun _ _ _ h => h) rfl ?hy3 (fun _ => SB) ?rest3
    case hy3 => (intro W; go_simp; (try with_reducible rfl))
    try simp only [zs.a, zs.b, zs.c]
    refine za (i := 4) (oi := _) ?v4 rfl rfl (by kernel_rfl) (by decide) (fun _ _ _ h => h) rfl ?hy4 (fun _ => SB) ?rest4
    case hy4 => (intro W; go_simp; (try with_reducible rfl))
    try simp only [zs.a, zs.b, zs.c]
    refine zm (i := 5) (oi := _) ?v5 rfl rfl (by kernel_rfl) (fun _ _ _ h => h) rfl ?hy5 SB ?rest5
    case hy5 => (intro W hW; obtain ⟨_, e0, e1, e2⟩ := HB.out W hW; go_simp; (try with_reducible rfl))
    try simp only [zs.a, zs.b, zs.c]
    refine zlP (i := 6) (j := 10) (by kernel_rfl) rfl rfl (fun K hK => ?_) (fun K hK => ?_)
    ·try rw [if_pos (show Region.wanted _ _ = true from rfl)]
     go_simp
     refine (HM.out _ BB).mono ?_
     rintro e W6 ⟨A', c', rfl, ho6, hb6⟩
     have BB6 := zf BB hb6
     have SB := HS.out _ BB6
     refine hK.out _ _ (fun _ => SB) ?_
     clear hK K
     try simp only [zs.a, zs.b, zs.c, Act.put]
     refine za (i := 7) (oi := _) ?v7 rfl rfl (by kernel_rfl) (by decide) (fun _ _ _ h => h) rfl ?hy7 (fun _ => SB) ?rest7
     case hy7 => (intro W; go_simp; (try with_reducible rfl))
     try simp only [zs.a, zs.b, zs.c]
     refine za (i := 8) (oi := _) ?v8 rfl rfl (by kernel_rfl) (by decide) (fun _ _ _ h => h) rfl ?hy8 (fun _ => SB) ?rest8
     case hy8 => (intro W; go_simp; (try with_reducible rfl))
     try simp only [zs.a, zs.b, zs.c]
     refine za (i := 9) (oi := _) ?v9 rfl rfl (by kernel_rfl) (by decide) (fun _ _ _ h => h) rfl ?hy9 (fun _ => SB) ?rest9
     case hy9 => (intro W; go_simp; (try with_reducible rfl))
     try simp only [zs.a, zs.b, zs.c]
     refine zh (i := 10) (by kernel_rfl) rfl (fun K hK => ?_)
     try rw [if_pos (show Region.wanted _ _ = true from rfl)]
     go_simp
     obtain ⟨W7, hW7⟩ : ∃ W7, W7 = W6.alloc (Obj.cells #[Value.int IntKind.i64 0, Value.slice none 0 0] 39) := ⟨_, rfl⟩
     rw [<- hW7]
     have b67 : Below W6.heap.size W6 W7 := by rw [hW7]; exact ze _ _
     have BB7 := zf BB6 b67
     have X7 : Blk W7 W6.heap.size 39 #[.int .i64 0, .slice none 0 0] := by rw [hW7]; exact Blk.new _ _ _
     have H67 := BB6.size
     have HO7 := ho6.below b67 (Nat.le_refl _)
     have SB := HS.out _ BB7
     refine hK.out _ _ (fun _ => SB) ?_
     clear hK K hW7 ho6 hb6
     try simp only [zs.a, zs.b, zs.c, Act.put]
     refine zh (i := 11) (by kernel_rfl) rfl (fun K hK => ?_)
     try rw [if_pos (show Region.wanted _ _ = true from rfl)]
     have y0 := X7.cell 0
     have y1 := X7.cell 1
     have z0 := X7.frozen 0
     have z1 := X7.frozen 1
     simp at y0 y1
     go_simp
     refine hK.out _ _ (fun hf => absurd hf (by decide)) ?_
     clear hK K y0 y1 z0 z1
     refine zh (i := 12) (by kernel_rfl) rfl (fun K hK => ?_)
     go_simp
     refine hK.out _ _ (fun hf => absurd hf (by decide)) ?_
     clear hK K
     refine zL (by kernel_rfl) ?_
     go_wp2_with (fail)
     go_meet
     have b6x := ((show Below W6.heap.size W6 W7 from b67).setCell (p := ⟨W6.heap.size, 0, none⟩) (Nat.le_refl _) (Value.int .i64 F.1)).setCell (p := ⟨W6.heap.size, 1, none⟩) (Nat.le_refl _) (Value.slice A' F.2.length c')
     exact ⟨W6.heap.size, A', c', rfl, rfl, by simpa using (X7.set_ 0 (.int .i64 F.1)).set_ 1 (.slice A' F.2.length c'), ((HO7.set (p := ⟨W6.heap.size, 0, none⟩) (.inr (Nat.le_refl _)) (Value.int .i64 F.1)).set (p := ⟨W6.heap.size, 1, none⟩) (.inr (Nat.le_refl _)) (Value.slice A' F.2.length c')).mono (Nat.le_refl _) b6x.size, zf BB6 b6x⟩
    ·try rw [if_pos (show Region.wanted _ _ = true from rfl)]
     go_simp
     obtain ⟨W5, hW5⟩ : ∃ W5, W5 = wr.drew.alloc (Obj.cells #[Value.int IntKind.i64 0, Value.slice none 0 0] 39) := ⟨_, rfl⟩
     try rw [show (wr.alloc (Obj.cells #[Value.int IntKind.i64 0, Value.slice none 0 0] 39)).drew = wr.drew.alloc (Obj.cells #[Value.int IntKind.i64 0, Value.slice none 0 0] 39) from rfl]
     rw [<- hW5]
     have b45 : Below wr.drew.heap.size wr.drew W5 := by rw [hW5]; exact ze _ _
     have BB5 := zf BB b45
     have X5 : Blk W5 wr.heap.size 39 #[.int .i64 0, .slice none 0 0] := by rw [hW5]; exact Blk.new _ _ _
     have SB := HS.out _ BB5
     refine hK.out _ _ (fun _ => SB) ?_
     clear hK K hW5
     try simp only [zs.a, zs.b, zs.c, Act.put]
     refine zh (i := 6) (by kernel_rfl) rfl (fun K hK => ?_)
     try rw [if_pos (show Region.wanted _ _ = true from rfl)]
     go_simp
     refine (HM.out _ BB5).mono ?_
     rintro e W6 ⟨A', c', rfl, ho6, hb6⟩
     have hs5 := X5.lt
     have X6 := X5.below hb6 hs5
     have BB6 := zf BB5 hb6
     have hs6 := hb6.size
     have SB := HS.out _ BB6
     refine hK.out _ _ (fun _ => SB) ?_
     clear hK K
     try simp only [zs.a, zs.b, zs.c, Act.put]
     refine za (i := 7) (oi := _) ?v7b rfl rfl (by kernel_rfl) (by decide) (fun _ _ _ h => h) rfl ?hy7b (fun _ => SB) ?rest7b
     case hy7b => (intro W; go_simp; (try with_reducible rfl))
     try simp only [zs.a, zs.b, zs.c]
     refine za (i := 8) (oi := _) ?v8b rfl rfl (by kernel_rfl) (by decide) (fun _ _ _ h => h) rfl ?hy8b (fun _ => SB) ?rest8b
     case hy8b => (intro W; go_simp; (try with_reducible rfl))
     try simp only [zs.a, zs.b, zs.c]
     refine za (i := 9) (oi := _) ?v9b rfl rfl (by kernel_rfl) (by decide) (fun _ _ _ h => h) rfl ?hy9b (fun _ => SB) ?rest9b
     case hy9b => (intro W; go_simp; (try with_reducible rfl))
     try simp only [zs.a, zs.b, zs.c]
     refine zh (i := 11) (by kernel_rfl) rfl (fun K hK => ?_)
     try rw [if_pos (show Region.wanted _ _ = true from rfl)]
     have y0 := X6.cell 0
     have y1 := X6.cell 1
     have z0 := X6.frozen 0
     have z1 := X6.frozen 1
     simp at y0 y1
     go_simp
     refine hK.out _ _ (fun hf => absurd hf (by decide)) ?_
     clear hK K y0 y1 z0 z1
     refine zh (i := 12) (by kernel_rfl) rfl (fun K hK => ?_)
     go_simp
     refine hK.out _ _ (fun hf => absurd hf (by decide)) ?_
     clear hK K
     refine zL (by kernel_rfl) ?_
     go_wp2_with (fail)
     go_meet
     have b6x := ((Below.refl wr.heap.size W6).setCell (p := ⟨wr.heap.size, 0, none⟩) (Nat.le_refl _) (Value.int .i64 F.1)).setCell (p := ⟨wr.heap.size, 1, none⟩) (Nat.le_refl _) (Value.slice A' F.2.length c')
     exact ⟨wr.heap.size, A', c', rfl, rfl, by simpa using (X6.set_ 0 (.int .i64 F.1)).set_ 1 (.slice A' F.2.length c'), ((ho6.set (p := ⟨wr.heap.size, 0, none⟩) (.inl hs5) (Value.int .i64 F.1)).set (p := ⟨wr.heap.size, 1, none⟩) (.inl hs5) (Value.slice A' F.2.length c')).mono (Nat.le_of_lt hs5) b6x.size, BB6.trans b6x⟩
   case rest =>
    obtain ⟨gb, A', c', rfl, rfl, X, ox, bx⟩ := hcut
    have HOX := Lib.hid ((HOUT.out.below bx (Nat.le_refl _)).mono (Nat.le_refl _) bx.size)
    have HBX := Lib.hid (zf HBE.out bx)
    obtain ⟨hF, hok⟩ := HF.out
    have hbd := zfZ (S := S) ha k
    have hS5 := HOKS.out.2
    have hFl : F.2.length <= 2 := by rw [hF]; exact Nat.le_trans (zeo _ _) ha
    have c0 : World.cell? _ ⟨gb, 0, none⟩ = some (.int .i64 F.1) := X.cell 0
    have c1 : World.cell? _ ⟨gb, 1, none⟩ = some (.slice A' F.2.length c') := X.cell 1
    have HCW := Lib.hid (zbu (.slice Ao (zaA r.1 S k).length co) (.agg #[.int .i64 F.1, .slice A' F.2.length c']) (zaA r.1 S k) F _ HOX.out.rd ⟨_, rfl, ox.rd⟩ (by omega) (by omega) (by omega))
    have HXB := Lib.hid (And.intro hF hok)
    clear HF hF hok HS HB HM ox X
    by_cases hb : ok = true
    ·have HE := Lib.hid (show zaA r.1 S (k + 1) = zQ (zaA r.1 S k) F from by rw [zhT hlt (by rw [<- HXB.out.2]; exact hb), HXB.out.1])
     subst hb
     go_wp2_with (first
      | (go_at_call 98; refine HCW.out.mono ?_; rintro e w5 ⟨A8, c8, rfl, o8, b8⟩; have H8 := Lib.hid (And.intro o8 b8); clear o8 b8))
     go_roundw
     case rel => exact ⟨k + 1, A8, c8, by omega, by go_num, by rw [HE.out], by rw [HE.out]; exact H8.out.1.mono (by have := HBX.out.size; omega) (Nat.le_refl _), zf HBX.out H8.out.2⟩
     case measure => simp [intOf]; omega
    ·have hb : ok = false := by simpa using hb
     have HE := Lib.hid (show zaA r.1 S (k + 1) = zaA r.1 S k from ziR hlt (by rw [<- HXB.out.2]; exact hb))
     subst hb
     go_wp2_with (fail)
     go_roundw
     case rel => exact ⟨k + 1, Ao, co, by omega, by go_num, by rw [HE.out], by rw [HE.out]; exact HOX.out, HBX.out⟩
     case measure => simp [intOf]; omega
  ·obtain rfl : k = S.length := by omega
   go_wp2_with (fail)
   go_ret
   refine ⟨Ao, co, by rw [HR.out]; rfl, ?_, zf B3 hbe⟩
   rw [HR.out]
   exact hout
open Go.RowKit
open Go.RowKit
theorem zgl (f : zd) : ∀ (l : List zd) (out : List zd) (b : Bool), (b = true -> f ∈ out) -> ∀ x, x ∈ zkw f (l.foldl (zab f) (out, b)) <-> x ∈ out \/ x ∈ l \/ x = f
 | [], out, b, hb, x => by
  cases b
  ·simp [zkw]
  ·have := hb rfl
   simp only [List.foldl_nil, zkw, if_true, List.not_mem_nil, false_or]
   constructor
   ·exact .inl
   ·rintro (h | rfl) <;> assumption
 | g :: l, out, b, hb, x => by
  rw [List.foldl_cons]
  have e : zab f (out, b) g = ((zab f (out, b) g).1, (zab f (out, b) g).2) := rfl
  rw [e, zgl f l _ _ ?_ x]
  ·unfold zab
   cases b
   ·rcases Int.lt_trichotomy (zk f g) 0 with h1 | h1 | h1
    ·simp [show zk f g <= 0 by omega, show zk f g ≠ 0 by omega]
     grind
    ·have e2 := zbO h1
     subst e2
     simp [zaZ]
     grind
    ·simp [show ¬ zk f g <= 0 by omega, show zk f g ≠ 0 by omega]
     grind
   ·have hf := hb rfl
    by_cases h1 : zk f g = 0
    ·have e2 := zbO h1
     subst e2
     simp [zaZ]
     grind
    ·simp [h1]
     grind
  ·intro hb2
   unfold zab at hb2 ⊢
   cases b
   ·have h1 : zk f g <= 0 := by simpa using hb2
    simp [h1]
   ·exact List.mem_append_left _ (by simpa using hb rfl)
theorem zf1 (fs : List zd) (f x : zd) : x ∈ zQ fs f <-> x ∈ fs \/ x = f := by
 have := zgl f fs [] false (by simp) x
 unfold zkw at this
 unfold zQ zbQ
 rw [List.take_length]
 simpa using this
end Go.Proofs.YtofkcmihcgmmpaaGreatDoor
