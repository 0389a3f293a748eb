/-
  Texts that the claim's last one imports, laid together: part 10 of 13. No condition of its own.
-/
import Derived.Laws.IdiomCopy
import Derived.Deep.RegionLaw
import Derived.Deep.RegionHeld3
import Derived.Deep.DeepCutAuto
import Derived.Deep.RegionWith
import Derived.Test.YtofkcmihcgmmpaaGreatMFr1
import Derived.Test.YtofkcmihcgmmpaaGreatMFr2
import Derived.Test.YtofkcmihcgmmpaaGreatMFr3
import Derived.Test.YtofkcmihcgmmpaaGreatMFr5
import Derived.Test.YtofkcmihcgmmpaaGreatMFr6
import Derived.Test.YtofkcmihcgmmpaaGreatMFr7
import Derived.Test.YtofkcmihcgmmpaaGreatMFr9
/-
  Rows of questions: four cells each; slices.Delete of one of them.
-/
namespace Go.Proofs.YtofkcmihcgmmpaaGreat
open Go.RowKit

abbrev QV := Value × Value × Value × Value
def flatQ : List QV → List Value
  | [] => []
  | u :: us => u.1 :: u.2.1 :: u.2.2.1 :: u.2.2.2 :: flatQ us
theorem flatQ_length : ∀ us : List QV, (flatQ us).length = us.length * 4
  | [] => rfl
  | u :: us => by simp only [flatQ, List.length_cons, flatQ_length us]; omega
theorem flatQ_append : ∀ us vs : List QV, flatQ (us ++ vs) = flatQ us ++ flatQ vs
  | [], vs => rfl
  | u :: us, vs => by simp only [List.cons_append, flatQ, flatQ_append us vs]
theorem flatQ_at : ∀ (us : List QV) (k : Nat) (h : k < us.length), (flatQ us)[k * 4]? = some us[k].1 ∧ (flatQ us)[k * 4 + 1]? = some us[k].2.1 ∧ (flatQ us)[k * 4 + 2]? = some us[k].2.2.1 ∧ (flatQ us)[k * 4 + 3]? = some us[k].2.2.2
  | u :: us, 0, _ => ⟨rfl, rfl, rfl, rfl⟩
  | u :: us, k + 1, h => by
    have ih := flatQ_at us k (by simpa using h)
    have e : ∀ r, (flatQ (u :: us))[(k + 1) * 4 + r]? = (flatQ us)[k * 4 + r]? := fun r => by
      rw [show (k + 1) * 4 + r = (k * 4 + r) + 1 + 1 + 1 + 1 by omega]
      rfl
    have e0 := e 0
    rw [Nat.add_zero, Nat.add_zero] at e0
    rw [e0, e 1, e 2, e 3]
    exact ih
theorem flatQ_take : ∀ (us : List QV) (i : Nat), flatQ (us.take i) = (flatQ us).take (i * 4)
  | [], i => by simp [flatQ]
  | u :: us, 0 => by simp [flatQ]
  | u :: us, i + 1 => by
    rw [show (i + 1) * 4 = i * 4 + 1 + 1 + 1 + 1 by omega]
    simp only [List.take_succ_cons, flatQ, flatQ_take us i]
theorem flatQ_drop : ∀ (us : List QV) (i : Nat), flatQ (us.drop i) = (flatQ us).drop (i * 4)
  | [], i => by simp [flatQ]
  | u :: us, 0 => by simp
  | u :: us, i + 1 => by
    rw [show (i + 1) * 4 = i * 4 + 1 + 1 + 1 + 1 by omega]
    simp only [List.drop_succ_cons, flatQ, flatQ_drop us i]

/-- The questions' cells stand at the head of block g. -/
def AtQ (w : World) (g c : Nat) (us : List QV) : Prop :=
  ∃ cur, w.heap[g]? = some (.cells cur 106 (0, 0)) ∧ us.length ≤ c ∧ c ≤ maxLen ∧ cur.size = c * 4 ∧ cur.toList.take (us.length * 4) = flatQ us
def RdQs (w : World) (B : Nat) (us : List QV) (qs : List LQ) : Prop := us.length = qs.length ∧ ∀ k (h : k < us.length) (h2 : k < qs.length), RdQC w B us[k].1 us[k].2.1 us[k].2.2.1 us[k].2.2.2 qs[k]

section
variable {w w' : World} {g c lo hi B : Nat} {us : List QV} {qs : List LQ}
theorem AtQ.lt (h : AtQ w g c us) : g < w.heap.size := by
  obtain ⟨cur, hg, _⟩ := h
  exact Blk.lt hg
theorem AtQ.cell (h : AtQ w g c us) {j : Nat} (hj : j < us.length * 4) : w.cell? ⟨g, j, none⟩ = (flatQ us)[j]? := by
  obtain ⟨cur, hg, h1, h2, h3, h4⟩ := h
  rw [Blk.cell hg, ← h4, List.getElem?_take_of_lt hj, Array.getElem?_toList]
theorem AtQ.frozen (h : AtQ w g c us) (j : Nat) : w.frozen? ⟨g, j, none⟩ = false := by
  obtain ⟨cur, hg, _⟩ := h
  exact Blk.frozen hg j
theorem AtQ.cells (h : AtQ w g c us) {k : Nat} (hk : k < us.length) : w.cell? ⟨g, k * 4, none⟩ = some us[k].1 ∧ w.cell? ⟨g, k * 4 + 1, none⟩ = some us[k].2.1 ∧ w.cell? ⟨g, k * 4 + 2, none⟩ = some us[k].2.2.1 ∧ w.cell? ⟨g, k * 4 + 3, none⟩ = some us[k].2.2.2 := by
  obtain ⟨a, b, d, e⟩ := flatQ_at us k hk
  exact ⟨by rw [h.cell (by omega), a], by rw [h.cell (by omega), b], by rw [h.cell (by omega), d], by rw [h.cell (by omega), e]⟩
theorem AtQ.only (h : AtQ w g c us) (ho : Only lo hi w w') (hd : g < lo ∨ hi ≤ g) : AtQ w' g c us := by
  obtain ⟨cur, hg, r⟩ := h
  exact ⟨cur, (ho.block g (Blk.lt hg) hd).trans hg, r⟩
theorem AtQ.below (h : AtQ w g c us) (hb : Below B w w') (hg : g < B) : AtQ w' g c us := by
  obtain ⟨cur, e, r⟩ := h
  exact ⟨cur, (hb.block g hg).trans e, r⟩
theorem RdQs.below {B' : Nat} (h : RdQs w B us qs) (hb : Below B' w w') (hB : B ≤ B') : RdQs w' B us qs := ⟨h.1, fun k h1 h2 => by
  obtain ⟨a, b, d, e⟩ := h.2 k h1 h2
  exact ⟨a, b, d.below hb hB, e.below hb hB⟩⟩
end

theorem setCells_all (g : Nat) : ∀ (vs : List Value) (o : Nat) (w : World) (cur : Array Value) (t : TypeId), w.heap[g]? = some (.cells cur t (0, 0)) → o + vs.length ≤ cur.size →
    ∃ cur', (w.setCells g o vs).heap[g]? = some (.cells cur' t (0, 0)) ∧ cur'.size = cur.size ∧ (∀ j, cur'[j]? = if o ≤ j ∧ j < o + vs.length then vs[j - o]? else cur[j]?) ∧ Only g (g + 1) w (w.setCells g o vs)
  | [], o, w, cur, t, h, _ => ⟨cur, h, rfl, fun j => by rw [if_neg (by simp only [List.length_nil]; omega)], Only.refl _ _ _⟩
  | v :: vs, o, w, cur, t, h, hs => by
    simp only [List.length_cons] at hs
    obtain ⟨cur', h1, h2, h3, h4⟩ := setCells_all g vs (o + 1) (w.setCell ⟨g, o, none⟩ v) _ t (Blk.set_ (show Blk w g t cur from h) o v) (by simp; omega)
    refine ⟨cur', h1, by simpa using h2, fun j => ?_, (Only.setCell (p := ⟨g, o, none⟩) (Only.refl g (g + 1) w) ⟨Nat.le_refl g, Nat.lt_succ_self g⟩ v).trans h4⟩
    rw [h3 j, Array.getElem?_setIfInBounds]
    by_cases e : o = j
    · subst e
      rw [if_neg (by omega), if_pos rfl, if_pos (by omega), if_pos (by simp)]
      simp
    · by_cases e2 : o + 1 ≤ j ∧ j < o + 1 + vs.length
      · rw [if_pos e2, if_pos (by simp; omega)]
        rw [show j - o = (j - (o + 1)) + 1 by omega]
        simp
      · rw [if_neg e2, if_neg e, if_neg (by simp; omega)]

theorem Tryz.infoQuestion : (Tryz.prog.info? 106).map (fun i => (i.zero, i.size, i.bytes)) = some (some (.agg #[.int .i64 0, .int .i64 0, .slice none 0 0, .slice none 0 0]), 4, 64) := by kernel_rfl

theorem AtQ.past {w : World} {g c o : Nat} {us : List QV} {vs : List Value} (h : AtQ w g c us) (ho : us.length * 4 ≤ o) (hl : o + vs.length ≤ c * 4) : AtQ (w.setCells g o vs) g c us ∧ Only g (g + 1) w (w.setCells g o vs) := by
  obtain ⟨cur, hg, h1, h2, h3, h4⟩ := h
  obtain ⟨cur', g1, g2, g3, g4⟩ := setCells_all g vs o w cur _ hg (by omega)
  refine ⟨⟨cur', g1, h1, h2, by omega, ?_⟩, g4⟩
  rw [← h4]
  apply List.ext_getElem?
  intro j
  rw [List.getElem?_take, List.getElem?_take]
  split
  · rw [Array.getElem?_toList, Array.getElem?_toList, g3 j, if_neg (by omega)]
  · rfl
theorem AtQ.deleted {w : World} {g c i : Nat} {us : List QV} (h : AtQ w g c us) (hi : i < us.length) : AtQ (w.setCells g (i * 4) ((flatQ us).drop ((i + 1) * 4))) g c (us.eraseIdx i) ∧ Only g (g + 1) w (w.setCells g (i * 4) ((flatQ us).drop ((i + 1) * 4))) := by
  obtain ⟨cur, hg, h1, h2, h3, h4⟩ := h
  have hfl := flatQ_length us
  have hdl : ((flatQ us).drop ((i + 1) * 4)).length = us.length * 4 - (i + 1) * 4 := by rw [List.length_drop, hfl]
  obtain ⟨cur', g1, g2, g3, g4⟩ := setCells_all g ((flatQ us).drop ((i + 1) * 4)) (i * 4) w cur _ hg (by omega)
  have hel : (us.eraseIdx i).length = us.length - 1 := List.length_eraseIdx_of_lt hi
  refine ⟨⟨cur', g1, by omega, h2, by omega, ?_⟩, g4⟩
  rw [hel, List.eraseIdx_eq_take_drop_succ, flatQ_append, flatQ_take, flatQ_drop]
  apply List.ext_getElem?
  intro j
  by_cases hj : j < (us.length - 1) * 4
  · rw [List.getElem?_take_of_lt hj, Array.getElem?_toList, g3 j]
    by_cases h5 : j < i * 4
    · rw [if_neg (by omega), List.getElem?_append_left (by rw [List.length_take, hfl]; omega), List.getElem?_take_of_lt h5, ← h4, List.getElem?_take_of_lt (by omega), Array.getElem?_toList]
    · rw [if_pos (by omega), List.getElem?_append_right (by rw [List.length_take, hfl]; omega), List.length_take, hfl]
      congr 1
      omega
  · rw [List.getElem?_eq_none (by simp; omega), List.getElem?_eq_none (by simp [hfl]; omega)]

/-- clear of one question. -/
theorem run_clear_q {w : World} {g k : Nat} {cur : Array Value} (hg : Blk w g 106 cur) (hk : k * 4 + 4 ≤ cur.size) (d : Nat) (ty : TypeId) :
    (Builtin.clear_ #[80] ty #[.slice (some ⟨g, k * 4, none⟩) 1 d]).run Tryz.prog w = .ok (.tuple #[]) (w.setCells g (k * 4) [.int .i64 0, .int .i64 0, .slice none 0 0, .slice none 0 0]) := by
  have hz : ∀ W, (zeroValue 106).run Tryz.prog W = .ok (.agg #[.int .i64 0, .int .i64 0, .slice none 0 0, .slice none 0 0]) W := Tryz.zeroValue106
  obtain ⟨zc, hzc⟩ : ∃ zc : List Value, zc = [.int .i64 0, .int .i64 0, .slice none 0 0, .slice none 0 0] := ⟨_, rfl⟩
  have hst := run_storeCells_cells (P := Tryz.prog) g (k * 4) zc 0 w (fun j hj => by
      have : j < 4 := by rw [hzc] at hj; exact hj
      rw [Blk.cell hg, Array.getElem?_eq_getElem (by omega)]
      rfl) (fun j _ => Blk.frozen hg _) (by rw [hzc]; intro v hv; simp at hv; rcases hv with rfl | rfl <;> rfl)
  rw [Nat.add_zero] at hst
  have hzz : (Builtin.zeroCells #[Value.int IntKind.i64 0, Value.int IntKind.i64 0, Value.slice none 0 0, Value.slice none 0 0] 1).toList = zc := by rw [hzc]; simp [Builtin.zeroCells, List.range_succ]
  rw [← hzc]
  simp only [Builtin.clear_]
  simp [run_underlying Tryz.underlying80, hz, Value.cells, hzz, hst]

set_option maxHeartbeats 4000000 in
set_option maxRecDepth 100000 in
theorem deleteQ_any (g c i m : Nat) (us : List QV) (w : World) (h : AtQ w g c us) (hm : us.length = m + 1) (hi : i ≤ m) (hn : m ≤ 1048576) (h1c : ∀ u ∈ flatQ us, u.oneCell' = true) :
    Calls Tryz.prog 101 #[.slice (some ⟨g, 0, none⟩) (m + 1 : Nat) c, .int .i64 i, .int .i64 ((i : Int) + 1)] w fun e w' =>
      e = .returned (.slice (some ⟨g, 0, none⟩) m c) ∧ AtQ w' g c (us.eraseIdx i) ∧ Only g (g + 1) w w' := by
  obtain ⟨i0, hi0, hz0, hz1, hz2⟩ := info_parts Tryz.infoQuestion
  have hcap : m + 1 ≤ c := by obtain ⟨_, _, h1, _⟩ := h; omega
  have hcm : c ≤ maxLen := by obtain ⟨_, _, _, h2, _⟩ := h; exact h2
  have hcm2 : c ≤ 9223372036854775807 := by unfold maxLen at hcm; omega
  obtain ⟨news, hnews⟩ : ∃ news, news = (flatQ us).drop ((i + 1) * 4) := ⟨_, rfl⟩
  have hfl := flatQ_length us
  have hnl : news.length = (m - i) * 4 := by rw [hnews, List.length_drop, hfl, hm]; omega
  -- where the moved questions stand
  obtain ⟨A, hA, hsrc⟩ : ∃ A : Addr, (if c = i + 1 then some (⟨g, 0, none⟩ : Addr) else some ⟨g, (i + 1) * 4, none⟩) = some A ∧ Hid (∀ t u, news[t]? = some u → w.drew.cell? (A.add t) = some u) := by
    by_cases e : c = i + 1
    · refine ⟨⟨g, 0, none⟩, by simp [e], fun t u hu => ?_⟩
      have h0 : news.length = 0 := by omega
      rw [List.length_eq_zero_iff.1 h0] at hu
      simp at hu
    · refine ⟨⟨g, (i + 1) * 4, none⟩, by simp [e], fun t u hu => ?_⟩
      have ht : t < news.length := (List.getElem?_eq_some_iff.1 hu).1
      rw [hnews, List.getElem?_drop] at hu
      rw [Go.WideShapes.add_plain]
      show w.cell? ⟨g, (i + 1) * 4 + t, none⟩ = _
      rw [h.cell (by omega), hu]
  have s2 : Hid (∀ u ∈ news, u.oneCell' = true) := fun u hu => h1c u (by rw [hnews] at hu; exact List.mem_of_mem_drop hu)
  have s3 : Hid (∀ t, t < news.length → (w.drew.cell? ⟨g, 0 + i * 4 + t, none⟩).isSome = true ∧ w.drew.frozen? ⟨g, 0 + i * 4 + t, none⟩ = false) := fun t ht => by
    rw [Nat.zero_add]
    refine ⟨?_, h.frozen _⟩
    show (w.cell? ⟨g, i * 4 + t, none⟩).isSome = true
    rw [h.cell (by omega), List.getElem?_eq_getElem (by rw [hfl]; omega)]
    rfl
  obtain ⟨W1, hW1⟩ : ∃ W1, W1 = w.drew.setCells g (0 + i * 4) news := ⟨_, rfl⟩
  have hd : AtQ W1 g c (us.eraseIdx i) ∧ Only g (g + 1) w W1 := by
    have h' : AtQ w.drew g c us := h
    have := h'.deleted (i := i) (by omega)
    rw [← hnews] at this
    rw [hW1, Nat.zero_add]
    exact ⟨this.1, (Only.of_below (bdrewN (Below.refl _ w) 1)).trans this.2⟩
  have hel : (us.eraseIdx i).length = m := by rw [List.length_eraseIdx_of_lt (by omega)]; omega
  have hcl : ∀ ty, (Builtin.clear_ #[80] ty #[.slice (some ⟨g, m * 4, none⟩) 1 (c - m)]).run Tryz.prog W1 = .ok (.tuple #[]) (W1.setCells g (m * 4) [.int .i64 0, .int .i64 0, .slice none 0 0, .slice none 0 0]) := fun ty => by
    obtain ⟨cur, hg, _, _, hs, _⟩ := hd.1
    exact run_clear_q hg (by omega) _ ty
  have HP := Lib.hid (hd.1.past (o := m * 4) (vs := [.int .i64 0, .int .i64 0, .slice none 0 0, .slice none 0 0]) (by rw [hel]; exact Nat.le_refl _) (by simp only [List.length_cons, List.length_nil]; omega))
  have HO := Lib.hid hd.2
  have hW : Hid (W1 = w.drew.setCells g (0 + i * 4) news) := hW1
  have hic : i ≤ c := by omega
  have hjc : i + 1 ≤ c := by omega
  have hip : (0 : Int) ≤ (i : Int) + 1 := by omega
  have hmp : (0 : Int) ≤ (m : Int) + 1 := by omega
  have hml : Hid (i + (m - i) = m) := by show _ = _; omega
  clear hW1 hd h hnews hfl hcm h1c hel hm
  go_enter Tryz.func101, Tryz.ntmps101
  go_wp2_with fail
  go_region_law (refine step_append_room rfl (.tmp 22) (.tmp 25) 80 rfl 106 i0 4 Tryz.underlying80 hi0 hz1 g 0 i c (by simp [Act.eval, Act.put]) A (m - i) (c - (i + 1)) news (by simp [Act.eval, Act.put]) hnl hsrc.out s2.out (by omega) s3.out ?_; rw [← hW.out, hml.out])
  have hcne : ¬ c = m := by omega
  have hmm : m ≤ m + 1 := by omega
  have hmi : (m : Int) ≤ (m : Int) + 1 := by omega
  go_wp2_with (simp only [hcl])
  go_ret
  exact ⟨rfl, HP.out.1, HO.out.trans HP.out.2⟩

end Go.Proofs.YtofkcmihcgmmpaaGreat
/-
  nextAsked: the question that is asked next.
-/
namespace Go.Proofs.YtofkcmihcgmmpaaGreat
open Go.RowKit

theorem RdQs.more {w : World} {B B' : Nat} {us : List QV} {qs : List LQ} (h : RdQs w B us qs) (hB : B ≤ B') : RdQs w B' us qs := ⟨h.1, fun k h1 h2 => by
  obtain ⟨a, b, d, e⟩ := h.2 k h1 h2
  exact ⟨a, b, d.more hB, e.more hB⟩⟩
theorem RdQs.only {w w' : World} {B lo hi : Nat} {us : List QV} {qs : List LQ} (h : RdQs w B us qs) (ho : Only lo hi w w') (hB : B ≤ lo) (hs : B ≤ w.heap.size) : RdQs w' B us qs := h.below (ho.below hB hs) (Nat.le_refl _)
/-- The cells of question k. -/
theorem AtQ.quest {w : World} {g c B k : Nat} {us : List QV} {qs : List LQ} (h : AtQ w g c us) (hr : RdQs w B us qs) (hk : k < qs.length) : ∃ A2 c2 A3 c3,
    w.cell? ⟨g, k * 4, none⟩ = some (.int .i64 qs[k].1.1) ∧ w.cell? ⟨g, k * 4 + 1, none⟩ = some (.int .i64 qs[k].1.2.1) ∧ w.cell? ⟨g, k * 4 + 2, none⟩ = some (.slice A2 qs[k].1.2.2.length c2) ∧ w.cell? ⟨g, k * 4 + 3, none⟩ = some (.slice A3 qs[k].2.length c3) ∧
    RdQC w B (.int .i64 qs[k].1.1) (.int .i64 qs[k].1.2.1) (.slice A2 qs[k].1.2.2.length c2) (.slice A3 qs[k].2.length c3) qs[k] := by
  have hku : k < us.length := by rw [hr.1]; exact hk
  obtain ⟨e0, e1, e2, e3⟩ := h.cells hku
  obtain ⟨a0, a1, a2, a3⟩ := hr.2 k hku hk
  have b2 := a2
  have b3 := a3
  obtain ⟨A2, c2, f2, _⟩ := a2
  obtain ⟨A3, c3, f3, _⟩ := a3
  rw [f2] at e2 b2
  rw [f3] at e3 b3
  rw [a0] at e0
  rw [a1] at e1
  exact ⟨A2, c2, A3, c3, e0, e1, e2, e3, rfl, rfl, b2, b3⟩

/-- May be asked: it is to hold, or all its variables are known. -/
def FreeQ (K : Nat) (q : LQ) : Prop := q.1.1 = 0 ∨ ∀ v, v < 4 → (maskOf q.1.2.2).testBit v = true → K.testBit v = true
theorem safeTo_iff {a b : Nat} : safeTo a b 4 = true ↔ ∀ v, v < 4 → a.testBit v = true → b.testBit v = true := by
  unfold safeTo
  rw [List.all_eq_true]
  constructor
  · intro h v hv ha
    have := h v (List.mem_range.2 hv)
    rw [ha] at this
    simpa using this
  · intro h v hv
    have := h v (List.mem_range.1 hv)
    cases ha : a.testBit v
    · rfl
    · rw [this ha]; rfl

set_option maxHeartbeats 1000000 in
set_option maxRecDepth 100000 in
theorem isYes_any (B : Nat) (q : LQ) (u0 u1 u2 u3 : Value) (w : World) (hq : RdQC w B u0 u1 u2 u3 q) :
    Calls Tryz.prog 127 #[.agg #[u0, u1, u2, u3]] w fun e w' => e = .returned (.bool (q.1.1 == 0)) ∧ Below w.heap.size w w' := by
  obtain ⟨rfl, rfl, hu2, hu3⟩ := hq
  obtain ⟨A2, c2, rfl, hc2, _⟩ := hu2
  obtain ⟨A3, c3, rfl, hc3, _⟩ := hu3
  go_enter Tryz.func127, Tryz.ntmps127
  go_wp2_with fail
  go_ret
  exact ⟨rfl, below1 _ _⟩

set_option maxHeartbeats 2000000 in
set_option maxRecDepth 100000 in
theorem indexYes_any (g c B : Nat) (us : List QV) (qs : List LQ) (w : World) (h : AtQ w g c us) (hr : RdQs w B us qs) (hB : B ≤ w.heap.size) (hn : qs.length ≤ 1048576) (hex : ∃ i, ∃ h : i < qs.length, qs[i].1.1 = 0) :
    Calls Tryz.prog 126 #[.slice (some ⟨g, 0, none⟩) qs.length c, .func (.func 127) #[] #[]] w fun e w' =>
      ∃ i : Nat, e = .returned (.int .i64 i) ∧ (∃ h : i < qs.length, qs[i].1.1 = 0) ∧ Below w.heap.size w w' := by
  have H := Lib.hid h
  have HR := Lib.hid hr
  have HX := Lib.hid hex
  clear hex
  go_enter Tryz.func126, Tryz.ntmps126
  go_wp2_with fail
  go_loopw [8] (fun i wr => ∃ k : Nat, k ≤ qs.length ∧ i = .int .i64 k ∧ (∀ j (h : j < qs.length), j < k → qs[j].1.1 ≠ 0) ∧ Below w.heap.size w wr) (fun i _ => qs.length - (intOf i).toNat)
  case atStart => exact ⟨0, Nat.zero_le _, rfl, fun j _ h => absurd h (by omega), Below.refl _ _⟩
  case round =>
    obtain ⟨k, hk, rfl, hs, hbe⟩ := hrel
    by_cases hlt : k < qs.length
    · obtain ⟨A2, c2, A3, c3, q0, q1, q2, q3, hq⟩ := (H.out.below hbe H.out.lt).quest (HR.out.below hbe hB) hlt
      have CI := Lib.hid (isYes_any B qs[k] _ _ _ _ wr hq)
      have HS := Lib.hid hs
      have HBE := Lib.hid hbe
      clear hq hs hbe
      by_cases h0 : qs[k].1.1 = 0
      · have CI2 : Hid _ := CI
        have hd : (qs[k].1.1 == 0) = true := by simpa using h0
        rw [hd] at CI
        have H0 := Lib.hid h0
        clear h0 CI2
        go_wp2_with (go_at_call 127; refine CI.out.mono ?_; rintro e w2 ⟨rfl, hb2⟩; have HB2 := Lib.hid (bthen HBE.out hb2); clear hb2)
        go_ret
        exact ⟨k, rfl, ⟨hlt, H0.out⟩, HB2.out⟩
      · have hd : (qs[k].1.1 == 0) = false := by simpa using h0
        rw [hd] at CI
        have H0 := Lib.hid h0
        clear h0
        go_wp2_with (go_at_call 127; refine CI.out.mono ?_; rintro e w2 ⟨rfl, hb2⟩; have HB2 := Lib.hid (bthen HBE.out hb2); clear hb2)
        go_roundw
        case rel => exact ⟨k + 1, by omega, by go_num, fun j h hj => by
          by_cases e : j = k
          · subst e; exact H0.out
          · exact HS.out j h (by omega), HB2.out⟩
        case measure => simp [intOf]; omega
    · obtain ⟨i, hi, h0⟩ := HX.out
      exact absurd h0 (hs i hi (by omega))

set_option maxHeartbeats 2000000 in
set_option maxRecDepth 100000 in
theorem nextAsked_any (g c B K : Nat) (us : List QV) (qs : List LQ) (w : World) (h : AtQ w g c us) (hr : RdQs w B us qs) (hB : B ≤ w.heap.size) (hK : K < 16) (hn : qs.length ≤ 1048576) (ha : ∀ q ∈ qs, q.1.2.2.length ≤ 1048576)
    (hex : ∃ i, ∃ h : i < qs.length, FreeQ K qs[i]) :
    Calls Tryz.prog 99 #[.slice (some ⟨g, 0, none⟩) qs.length c, .int .u64 (K : Nat)] w fun e w' =>
      ∃ i : Nat, e = .returned (.int .i64 i) ∧ (∃ h : i < qs.length, FreeQ K qs[i]) ∧ Below w.heap.size w w' := by
  have H := Lib.hid h
  have HR := Lib.hid hr
  have HX := Lib.hid hex
  have HA := Lib.hid ha
  clear hex ha
  go_enter Tryz.func99, Tryz.ntmps99
  go_wp2_with fail
  go_loopw [9] (fun i wr => ∃ k : Nat, k ≤ qs.length ∧ i = .int .i64 k ∧ (∀ j (h : j < qs.length), j < k → safeTo (maskOf qs[j].1.2.2) K 4 = false) ∧ Below w.heap.size w wr) (fun i _ => qs.length - (intOf i).toNat)
  case atStart => exact ⟨0, Nat.zero_le _, rfl, fun j _ h => absurd h (by omega), Below.refl _ _⟩
  case round =>
    obtain ⟨k, hk, rfl, hs, hbe⟩ := hrel
    by_cases hlt : k < qs.length
    · obtain ⟨A2, c2, A3, c3, q0, q1, q2, q3, hq⟩ := (H.out.below hbe H.out.lt).quest (HR.out.below hbe hB) hlt
      have hln := HA.out _ (List.getElem_mem hlt)
      have hsz := hbe.size
      have CA := Lib.hid (fun W (hW : Below wr.heap.size wr W) => argVars_any (.slice A2 qs[k].1.2.2.length c2) qs[k].1.2.2 wr.heap.size W ((hq.2.2.1.more (by omega)).below hW (Nat.le_refl _)) hln)
      have hsb := safe_bits ⟨maskOf qs[k].1.2.2, maskOf_lt _⟩ ⟨K, hK⟩
      simp only at hsb
      have HS := Lib.hid hs
      have HBE := Lib.hid hbe
      clear hq hs hbe
      cases hsf : safeTo (maskOf qs[k].1.2.2) K 4
      · rw [hsf] at hsb
        have H0 := Lib.hid hsf
        clear hsf
        go_wp2_with (go_at_call 51; refine (CA.out _ (below1 _ _)).mono ?_; rintro e w2 ⟨rfl, rfl⟩)
        go_roundw
        case rel => exact ⟨k + 1, by omega, by go_num, fun j h hj => by
          by_cases e : j = k
          · subst e; exact H0.out
          · exact HS.out j h (by omega), bthen HBE.out (below1 _ _)⟩
        case measure => simp [intOf]; omega
      · rw [hsf] at hsb
        have H0 := Lib.hid (safeTo_iff.1 hsf)
        clear hsf
        go_wp2_with (go_at_call 51; refine (CA.out _ (below1 _ _)).mono ?_; rintro e w2 ⟨rfl, rfl⟩)
        go_ret
        exact ⟨k, rfl, ⟨hlt, .inr H0.out⟩, bthen HBE.out (below1 _ _)⟩
    · have hsz := hbe.size
      have CI := Lib.hid (indexYes_any g c B us qs wr (H.out.below hbe H.out.lt) (HR.out.below hbe hB) (by omega) hn (by
        obtain ⟨i, hi, h0⟩ := HX.out
        rcases h0 with h0 | h0
        · exact ⟨i, hi, h0⟩
        · have := hs i hi (by omega)
          rw [safeTo_iff.2 h0] at this
          cases this))
      have HBE := Lib.hid hbe
      clear hs hbe
      go_wp2_with (go_at_call 126; refine CI.out.mono ?_; rintro e w2 ⟨i, rfl, hi, hb2⟩; have HB2 := Lib.hid (And.intro hi hb2); clear hi hb2)
      go_ret
      exact ⟨i, rfl, ⟨HB2.out.1.1, .inl HB2.out.1.2⟩, bthen HBE.out HB2.out.2⟩

end Go.Proofs.YtofkcmihcgmmpaaGreat
/-
  l3Consts.
-/
namespace Go.Proofs.YtofkcmihcgmmpaaGreat
open Go.RowKit

def constsL (fs : List LFact) : Bool := fs.all fun f => f.2.all constOk
/-- 'the first k facts have constants alone'. -/
def ConstsFs (fs : List LFact) (k : Nat) : Prop := ∀ j (h : j < fs.length), j < k → fs[j].2.all constOk = true
theorem ConstsFs.all {fs : List LFact} (h : ConstsFs fs fs.length) : constsL fs = true := by
  unfold constsL
  rw [List.all_eq_true]
  intro f hf
  obtain ⟨j, hj, rfl⟩ := List.getElem_of_mem hf
  exact h j hj hj
theorem ConstsFs.step {fs : List LFact} {k : Nat} (h : ConstsFs fs k) (hk : k < fs.length) (e : fs[k].2.all constOk = true) : ConstsFs fs (k + 1) := fun j hj hlt => by
  by_cases h2 : j = k
  · subst h2; exact e
  · exact h j hj (by omega)
theorem constsL_not {fs : List LFact} {k j : Nat} (hk : k < fs.length) (hj : j < fs[k].2.length) (e : constOk fs[k].2[j] = false) : constsL fs = false := by
  unfold constsL
  rw [List.all_eq_false]
  exact ⟨fs[k], List.getElem_mem hk, by rw [consts_not hj e]; simp⟩

set_option maxHeartbeats 1000000 in
set_option maxRecDepth 100000 in
theorem l3Consts_any (v : Value) (fs : List LFact) (B : Nat) (w : World) (h : RdFacts w B v fs) (hn : fs.length ≤ 1048576) (ht : tot fs ≤ 1048576) :
    Calls Tryz.prog 23 #[v] w fun e w' => e = .returned (.bool (constsL fs)) ∧ w = w' := by
  have H := Lib.hid h
  obtain ⟨A, c, rfl, hc, _⟩ := h
  go_enter Tryz.func23, Tryz.ntmps23
  go_wp2_with (fail)
  go_loop [3, 4] (fun i _ => ∃ k : Nat, k ≤ fs.length ∧ i = .int .i64 k ∧ ConstsFs fs k) (fun i _ => fs.length - (intOf i).toNat)
  case atStart => exact ⟨0, Nat.zero_le _, rfl, fun j _ hj => absurd hj (by omega)⟩
  case round =>
    obtain ⟨k, hk, rfl, hs⟩ := hrel
    by_cases hlt : k < fs.length
    · obtain ⟨b, o, A3, c3, rfl, hbB, k1, k2, k3⟩ := H.out.get hlt
      have hln := len_le_tot fs k hlt
      obtain ⟨_, _, e3, _, hx⟩ := k3
      injection e3 with e3 _ e4
      subst e3 e4
      have HS := Lib.hid hs
      clear hs
      go_wp2_with (fail)
      go_loop [4] (fun i => ∃ j : Nat, j ≤ fs[k].2.length ∧ i = .int .i64 j ∧ ConstsTo fs[k].2 j) (fun i => fs[k].2.length - (intOf i).toNat)
      case atStart => exact ⟨0, Nat.zero_le _, rfl, fun j hj => absurd hj (by omega)⟩
      case round =>
        obtain ⟨j, hj, rfl, hs⟩ := hrel
        by_cases hltj : j < fs[k].2.length
        · obtain ⟨b4, o4, rfl, _, hx⟩ := hx (by omega)
          have hck : w.cell? ⟨b4, o4 + j, none⟩ = some (.int .i64 fs[k].2[j]) := hx j hltj
          clear hx
          by_cases he : 0 ≤ fs[k].2[j] ∧ fs[k].2[j] ≤ 5
          · have HT := Lib.hid (hs.step (by simpa [hltj, constOk] using he))
            have HK := Lib.hid (l1In_yes he)
            clear hs he
            go_wp2_with (go_at_call 28; refine (HK.out _).mono ?_; rintro e w' ⟨rfl, rfl⟩)
            go_round
            case rel => exact ⟨j + 1, by omega, by go_num, HT.out⟩
            case measure => simp [intOf]; omega
          · have HE := Lib.hid (constsL_not hlt hltj (by simpa [constOk] using he))
            have HK := Lib.hid (l1In_no he)
            clear hs he
            go_wp2_with (go_at_call 28; refine (HK.out _).mono ?_; rintro e w' ⟨rfl, rfl⟩)
            go_ret
            exact ⟨ret_bool HE.out.symm, rfl⟩
        · have hjn : j = fs[k].2.length := by omega
          have HE := Lib.hid (HS.out.step hlt (ConstsTo.all (by rw [← hjn]; exact hs)))
          clear hs hjn hx
          go_wp2_with (fail)
          go_round
          case rel => exact ⟨k + 1, by omega, by go_num, HE.out⟩
          case measure => simp [intOf]; omega
    · have hkn : k = fs.length := by omega
      have HE := Lib.hid (show constsL fs = true from ConstsFs.all (by rw [← hkn]; exact hs))
      clear hkn hs
      go_wp2_with (fail)
      go_ret
      exact ⟨ret_bool HE.out.symm, rfl⟩

theorem l3Consts_is {fs : List LFact} {b : Bool} (e : constsL fs = b) (v : Value) (B : Nat) (w : World) (h : RdFacts w B v fs) (hn : fs.length ≤ 1048576) (ht : tot fs ≤ 1048576) :
    Calls Tryz.prog 23 #[v] w fun e w' => e = .returned (.bool b) ∧ w = w' := e ▸ l3Consts_any v fs B w h hn ht

end Go.Proofs.YtofkcmihcgmmpaaGreat
/-
  questionsOf: a row of questions is made and filled; haveConstants.
-/
namespace Go.Proofs.YtofkcmihcgmmpaaGreat
open Go.RowKit

theorem AtQ.made (w : World) (cs : Array Value) (n : Nat) (hs : cs.size = n * 4) (hm : n ≤ maxLen) : AtQ (w.alloc (.cells cs 106)) w.heap.size n [] :=
  ⟨cs, Blk.new _ _ _, Nat.zero_le _, hm, hs, by simp [flatQ]⟩
theorem AtQ.push {w : World} {g c : Nat} {us : List QV} (h : AtQ w g c us) (hl : us.length < c) (u : QV) :
    AtQ (w.setCells g (us.length * 4) [u.1, u.2.1, u.2.2.1, u.2.2.2]) g c (us ++ [u]) ∧ Only g (g + 1) w (w.setCells g (us.length * 4) [u.1, u.2.1, u.2.2.1, u.2.2.2]) := by
  obtain ⟨cur, hg, h1, h2, h3, h4⟩ := h
  have hfl := flatQ_length us
  obtain ⟨cur', g1, g2, g3, g4⟩ := setCells_all g [u.1, u.2.1, u.2.2.1, u.2.2.2] (us.length * 4) w cur _ hg (by simp; omega)
  refine ⟨⟨cur', g1, by simp; omega, h2, by omega, ?_⟩, g4⟩
  rw [flatQ_append]
  apply List.ext_getElem?
  intro j
  rw [List.length_append, List.length_singleton]
  by_cases hj : j < (us.length + 1) * 4
  · rw [List.getElem?_take_of_lt hj, Array.getElem?_toList, g3 j]
    by_cases hj2 : j < us.length * 4
    · rw [if_neg (by simp; omega), List.getElem?_append_left (by omega), ← h4, List.getElem?_take_of_lt hj2, Array.getElem?_toList]
    · rw [if_pos (by simp; omega), List.getElem?_append_right (by omega), hfl]
      rfl
  · rw [List.getElem?_eq_none (by simp; omega), List.getElem?_eq_none (by simp [flatQ, hfl]; omega)]
theorem AtQ.free {w : World} {g c : Nat} {us : List QV} (h : AtQ w g c us) {j : Nat} (hj : j < c * 4) : ∃ x, w.cell? ⟨g, j, none⟩ = some x := by
  obtain ⟨cur, hg, h1, h2, h3, h4⟩ := h
  exact ⟨cur[j]'(by omega), by rw [Blk.cell hg, Array.getElem?_eq_getElem]⟩

/-- The questions of a body, all asked of the same facts. -/
def questL (fs : List LFact) (ls : List LLit) : List LQ := ls.map fun l => (l, fs)

set_option maxHeartbeats 2000000 in
set_option maxRecDepth 100000 in
theorem questionsOf_any (v v2 : Value) (fs : List LFact) (ls : List LLit) (w : World) (h : RdFacts w w.heap.size v fs) (h2 : RdLits w w.heap.size v2 ls) (hn : ls.length ≤ 1048576) :
    Calls Tryz.prog 54 #[v, v2] w fun e w' =>
      ∃ g us, e = .returned (.slice (some ⟨g, 0, none⟩) ls.length ls.length) ∧ w.heap.size ≤ g ∧ AtQ w' g ls.length us ∧ RdQs w' w.heap.size us (questL fs ls) ∧ Below w.heap.size w w' := by
  obtain ⟨i0, hi0, hz0, hz1, hz2⟩ := info_parts Tryz.infoQuestion
  have hmk := fun W => run_make_rowN (P := Tryz.prog) 80 106 i0 (.agg #[.int .i64 0, .int .i64 0, .slice none 0 0, .slice none 0 0]) Tryz.underlying80 hi0 hz0 .i64 .i64 ls.length ls.length (Nat.le_refl _) (by rw [hz2]; omega) (by omega) W
  rw [hz1] at hmk
  simp only [Value.cells] at hmk
  have H := Lib.hid h
  have H2 := Lib.hid h2
  obtain ⟨A, c, rfl, hc, _⟩ := h
  obtain ⟨A2, c2, rfl, hc2, _⟩ := h2
  obtain ⟨cs, hcs⟩ : ∃ cs, cs = madeCells #[Value.int IntKind.i64 0, Value.int IntKind.i64 0, Value.slice none 0 0, Value.slice none 0 0] (ls.length * 4) := ⟨_, rfl⟩
  have HM := Lib.hid (AtQ.made w cs ls.length (by rw [hcs]; simp [madeCells]) (by unfold maxLen; omega))
  rw [← hcs] at hmk
  clear hcs
  go_enter Tryz.func54, Tryz.ntmps54
  go_wp2_with fail
  obtain ⟨w1, hw1⟩ : ∃ w1, w1 = w.alloc (Obj.cells cs 106) := ⟨_, rfl⟩
  have B1 : Below w.heap.size w w1 := by rw [hw1]; exact below1 _ _
  rw [← hw1] at HM ⊢
  have HB1 := Lib.hid B1
  have hs1 : w.heap.size < w1.heap.size := by rw [hw1]; simp
  clear hw1 hmk B1
  go_loopw [13] (fun i wr => ∃ (k : Nat) (us : List QV), k ≤ ls.length ∧ i = .int .i64 k ∧ us.length = k ∧ AtQ wr w.heap.size ls.length us ∧ RdQs wr w.heap.size us (questL fs (ls.take k)) ∧ Only w.heap.size (w.heap.size + 1) w1 wr) (fun i _ => ls.length - (intOf i).toNat)
  case atStart => exact ⟨0, [], Nat.zero_le _, rfl, rfl, HM.out, ⟨by simp [questL], fun k h1 => absurd h1 (by simp)⟩, Only.refl _ _ _⟩
  case round =>
    obtain ⟨k, us, hk, rfl, hul, hat, hrd, hon⟩ := hrel
    by_cases hlt : k < ls.length
    · have hbe : Below w.heap.size w wr := Only.then_ HB1.out hon (Nat.le_refl _)
      obtain ⟨b, o, u0, u1, u2, rfl, hbB, k0, k1, k2, rfl, rfl, p3⟩ := (H2.out.below hbe (Nat.le_refl _)).get hlt
      have HP3 := Lib.hid p3
      obtain ⟨A4, c4, rfl, hc4, _⟩ := p3
      have hsz := hon.size
      go_upto_region 5 with fail
      obtain ⟨w2, hw2⟩ : ∃ w2, w2 = wr.alloc (Obj.cells #[Value.int IntKind.i64 ls[k].1, Value.int IntKind.i64 ls[k].2.1, Value.slice A4 ls[k].2.2.length c4] 38) := ⟨_, rfl⟩
      have b2 : Below wr.heap.size wr w2 := by rw [hw2]; exact below1 _ _
      have y2 : Blk w2 wr.heap.size 38 #[.int .i64 ls[k].1, .int .i64 ls[k].2.1, .slice A4 ls[k].2.2.length c4] := by rw [hw2]; exact Blk.new _ _ _
      rw [← hw2]
      clear hw2 k0 k1 k2
      have q0 : w2.cell? ⟨wr.heap.size, 0, none⟩ = some (.int .i64 ls[k].1) := y2.cell 0
      have q1 : w2.cell? ⟨wr.heap.size, 1, none⟩ = some (.int .i64 ls[k].2.1) := y2.cell 1
      have q2 : w2.cell? ⟨wr.heap.size, 2, none⟩ = some (.slice A4 ls[k].2.2.length c4) := y2.cell 2
      have at2 : AtQ w2 w.heap.size ls.length us := hat.below b2 hat.lt
      obtain ⟨x0, r0⟩ := at2.free (j := k * 4) (by omega)
      obtain ⟨x1, r1⟩ := at2.free (j := k * 4 + 1) (by omega)
      obtain ⟨x2, r2⟩ := at2.free (j := k * 4 + 2) (by omega)
      obtain ⟨x3, r3⟩ := at2.free (j := k * 4 + 3) (by omega)
      have f0 := at2.frozen (k * 4)
      have f1 := at2.frozen (k * 4 + 1)
      have f2 := at2.frozen (k * 4 + 2)
      have f3 := at2.frozen (k * 4 + 3)
      have hp := at2.push (by omega) (.int .i64 ls[k].1, .int .i64 ls[k].2.1, .slice A4 ls[k].2.2.length c4, .slice A fs.length c)
      rw [hul] at hp
      have HN := Lib.hid (show AtQ _ w.heap.size ls.length _ ∧ Only w.heap.size (w.heap.size + 1) w1 _ from ⟨hp.1, (hon.trans (Only.of_below b2)).trans hp.2⟩)
      have HRN := Lib.hid (show RdQs _ w.heap.size _ (questL fs (ls.take (k + 1))) from by
        have hb3 : Below w.heap.size wr _ := ((b2.mono (show w.heap.size ≤ wr.heap.size by omega)).trans (hp.2.below (Nat.le_refl _) (by have := at2.lt; omega)))
        have h4 := hrd.below hb3 (Nat.le_refl _)
        have hb4 := hbe.trans hb3
        refine (⟨?_, fun j h1 h3 => ?_⟩ : RdQs _ w.heap.size (us ++ [(.int .i64 ls[k].1, .int .i64 ls[k].2.1, .slice A4 ls[k].2.2.length c4, .slice A fs.length c)]) (questL fs (ls.take (k + 1))))
        · simp [questL, hul]; omega
        · by_cases e : j < us.length
          · have h5 := h4.2 j e (by simp [questL]; omega)
            have e1 : (questL fs (ls.take (k + 1)))[j] = (questL fs (ls.take k))[j]'(by simp [questL]; omega) := by simp [questL]
            rw [List.getElem_append_left e, e1]
            exact h5
          · have e2 : j = k := by simp at h1; omega
            subst e2
            have e1 : (questL fs (ls.take (j + 1)))[j] = (ls[j], fs) := by simp [questL]
            rw [e1]
            have hget : ∀ (x : QV) (h : j < (us ++ [x]).length), (us ++ [x])[j] = x := fun x h => by
              rw [List.getElem_append_right (by omega)]
              simp only [hul, Nat.sub_self, List.getElem_cons_zero]
            rw [hget]
            exact ⟨rfl, rfl, HP3.out.below hb3 (Nat.le_refl _), H.out.below hb4 (Nat.le_refl _)⟩)
      clear hat hrd hon hp at2 y2 hbe b2
      go_wp2_with fail
      go_roundw
      case rel => exact ⟨k + 1, _, by omega, by go_num, by simp [hul], HN.out.1, HRN.out, HN.out.2⟩
      case measure => simp [intOf]; omega
    · have hkn : k = ls.length := by omega
      have HF := Lib.hid (show AtQ wr w.heap.size ls.length us ∧ RdQs wr w.heap.size us (questL fs ls) ∧ Below w.heap.size w wr from ⟨hat, by rw [hkn, List.take_length] at hrd; exact hrd, Only.then_ HB1.out hon (Nat.le_refl _)⟩)
      clear hkn hat hrd hon hul
      go_wp2_with fail
      go_ret
      exact ⟨_, us, rfl, Nat.le_refl _, HF.out.1, HF.out.2.1, HF.out.2.2⟩

set_option maxHeartbeats 1000000 in
set_option maxRecDepth 100000 in
theorem haveConstants_any (v : Value) (fs : List LFact) (R : Bool) (hR : constsL fs = R) (w : World) (h : RdFacts w w.heap.size v fs) (hn : fs.length ≤ 1048576) (ht : tot fs ≤ 1048576) :
    Calls Tryz.prog 16 #[v] w fun e w' => e = .returned (.bool R) ∧ Below w.heap.size w w' := by
  have H := Lib.hid h
  have HR := Lib.hid hR
  obtain ⟨A, c, rfl, hc, _⟩ := h
  clear hR
  go_enter Tryz.func16, Tryz.ntmps16
  go_wp2_with fail
  go_loopw [7] (fun i wr => ∃ k : Nat, k ≤ fs.length ∧ i = .int .i64 k ∧ ConstsFs fs k ∧ Below w.heap.size w wr) (fun i _ => fs.length - (intOf i).toNat)
  case atStart => exact ⟨0, Nat.zero_le _, rfl, fun j _ hj => absurd hj (by omega), Below.refl _ _⟩
  case round =>
    obtain ⟨k, hk, rfl, hs, hbe⟩ := hrel
    by_cases hlt : k < fs.length
    · obtain ⟨b, o, A3, c3, rfl, hbB, k1, k2, k3⟩ := (H.out.on hbe).get hlt
      have hln := len_le_tot fs k hlt
      have CA := Lib.hid (fun W (hW : Below wr.heap.size wr W) => areConstants_any (.slice A3 fs[k].2.length c3) fs[k].2 wr.heap.size W (k3.below hW (Nat.le_refl _)) (by omega))
      have HS := Lib.hid hs
      have HBE := Lib.hid hbe
      clear hs hbe k3
      cases hco : fs[k].2.all constOk
      · rw [hco] at CA
        have HE := Lib.hid (show R = false by
          rw [← HR.out]
          unfold constsL
          rw [List.all_eq_false]
          exact ⟨fs[k], List.getElem_mem hlt, by rw [hco]; simp⟩)
        clear hco
        go_wp2_with (go_at_call 38; refine (CA.out _ (below1 _ _)).mono ?_; rintro e w2 ⟨rfl, rfl⟩)
        go_ret
        exact ⟨ret_bool HE.out.symm, bthen HBE.out (below1 _ _)⟩
      · rw [hco] at CA
        have HE := Lib.hid (HS.out.step hlt hco)
        clear hco
        go_wp2_with (go_at_call 38; refine (CA.out _ (below1 _ _)).mono ?_; rintro e w2 ⟨rfl, rfl⟩)
        go_roundw
        case rel => exact ⟨k + 1, by omega, by go_num, HE.out, bthen HBE.out (below1 _ _)⟩
        case measure => simp [intOf]; omega
    · have HE := Lib.hid (show R = true by rw [← HR.out]; exact ConstsFs.all (by have := hs; rw [show k = fs.length by omega] at this; exact this))
      have HBE := Lib.hid hbe
      clear hs hbe
      go_wp2_with fail
      go_ret
      exact ⟨ret_bool HE.out.symm, HBE.out⟩

end Go.Proofs.YtofkcmihcgmmpaaGreat
/-
  solve: all that makes the questions hold, each once.
-/
namespace Go.Proofs.YtofkcmihcgmmpaaGreat
open Go.RowKit

/-- All that makes questions hold, each once. -/
def IsSols (qs : List LQ) (S : List (List Int)) : Prop :=
  S.Nodup ∧ ∀ b, b ∈ S ↔ bindOk b = true ∧ (∀ v, v < 4 → (b.getD v (-1) ≠ -1 ↔ ∃ q ∈ qs, (maskOf q.1.2.2).testBit v = true)) ∧ ∀ q ∈ qs, holdsQ q b = true
/-- Each variable stands in an atom that is to hold. -/
def SafeQ (qs : List LQ) : Prop := ∀ q ∈ qs, ∀ v, v < 4 → (maskOf q.1.2.2).testBit v = true → ∃ q' ∈ qs, q'.1.1 = 0 ∧ (maskOf q'.1.2.2).testBit v = true

theorem perm_erase {α : Type} : ∀ (l : List α) (i : Nat) (h : i < l.length), (l[i] :: l.eraseIdx i).Perm l
  | x :: l, 0, _ => List.Perm.refl _
  | x :: l, i + 1, h => by
    have hi : i < l.length := by simpa using h
    have ih := perm_erase l i hi
    exact (List.Perm.swap x l[i] (l.eraseIdx i)).trans (ih.cons x)
theorem RdQs.erase {w : World} {B : Nat} {us : List QV} {qs : List LQ} (h : RdQs w B us qs) (i : Nat) (hi : i < qs.length) : RdQs w B (us.eraseIdx i) (qs.eraseIdx i) := by
  have hl := h.1
  refine ⟨by rw [List.length_eraseIdx_of_lt hi, List.length_eraseIdx_of_lt (by omega)]; omega, fun k h1 h2 => ?_⟩
  rw [List.getElem_eraseIdx, List.getElem_eraseIdx]
  split
  · exact h.2 k _ _
  · exact h.2 (k + 1) _ _
theorem oneQ {w : World} {B : Nat} : ∀ {us : List QV} {qs : List LQ}, RdQs w B us qs → ∀ u ∈ flatQ us, u.oneCell' = true := fun {us qs} h => by
  have key : ∀ (us : List QV), (∀ k (h : k < us.length), us[k].1.oneCell' = true ∧ us[k].2.1.oneCell' = true ∧ us[k].2.2.1.oneCell' = true ∧ us[k].2.2.2.oneCell' = true) → ∀ u ∈ flatQ us, u.oneCell' = true := by
    intro us
    induction us with
    | nil => intro _ u hu; simp [flatQ] at hu
    | cons x us ih =>
      intro hk u hu
      have h0 := hk 0 (by simp)
      have ih' := ih fun k hk' => hk (k + 1) (by simpa using hk')
      simp only [flatQ, List.mem_cons] at hu
      rcases hu with rfl | rfl | rfl | rfl | hu
      · exact h0.1
      · exact h0.2.1
      · exact h0.2.2.1
      · exact h0.2.2.2
      · exact ih' u hu
  refine key us fun k hk => ?_
  obtain ⟨a, b, d, e⟩ := h.2 k hk (by rw [← h.1]; exact hk)
  obtain ⟨A2, c2, e2, _⟩ := d
  obtain ⟨A3, c3, e3, _⟩ := e
  rw [a, b, e2, e3]
  exact ⟨rfl, rfl, rfl, rfl⟩

/-- While questions are left one of them may be asked. -/
theorem free_there {K : Nat} {Q qs qs0 : List LQ} {S : List (List Int)} (h : Sols K Q S) (hp : (Q ++ qs).Perm qs0) (hs : SafeQ qs0) (hne : 0 < qs.length) : ∃ i, ∃ h : i < qs.length, FreeQ K qs[i] := by
  by_cases he : ∃ q ∈ qs, q.1.1 = 0
  · obtain ⟨q, hq, h0⟩ := he
    obtain ⟨i, hi, rfl⟩ := List.getElem_of_mem hq
    exact ⟨i, hi, .inl h0⟩
  · refine ⟨0, hne, .inr fun v hv hm => ?_⟩
    obtain ⟨q', hq', h0, hm'⟩ := hs qs[0] (hp.mem_iff.1 (List.mem_append_right _ (List.getElem_mem hne))) v hv hm
    rcases List.mem_append.1 (hp.mem_iff.2 hq') with hq | hq
    · exact h.vars q' hq v hv hm'
    · exact absurd ⟨q', hq, h0⟩ he
theorem sols_done {K : Nat} {Q qs0 : List LQ} {S : List (List Int)} (h : Sols K Q S) (hp : Q.Perm qs0) (hk : ∀ v, v < 4 → K.testBit v = true → ∃ q ∈ Q, (maskOf q.1.2.2).testBit v = true) : IsSols qs0 S := by
  refine ⟨h.nodup, fun b => ?_⟩
  rw [h.mem b]
  refine and_congr_right fun _ => and_congr ?_ ?_
  · have hK : ∀ v, v < 4 → (K.testBit v = true ↔ ∃ q ∈ qs0, (maskOf q.1.2.2).testBit v = true) := fun v hv => by
      constructor
      · intro hb
        obtain ⟨q, hq, hm⟩ := hk v hv hb
        exact ⟨q, hp.mem_iff.1 hq, hm⟩
      · rintro ⟨q, hq, hm⟩
        exact h.vars q (hp.mem_iff.2 hq) v hv hm
    exact ⟨fun hd v hv => (hd v hv).trans (hK v hv), fun hd v hv => (hd v hv).trans (hK v hv).symm⟩
  · exact ⟨fun hq q hm => hq q (hp.mem_iff.2 hm), fun hq q hm => hq q (hp.mem_iff.1 hm)⟩
theorem sols_none {K : Nat} {Q qs qs0 : List LQ} (h : Sols K Q []) (hp : (Q ++ qs).Perm qs0) (hk : ∀ v, v < 4 → K.testBit v = true → ∃ q ∈ Q, (maskOf q.1.2.2).testBit v = true) : IsSols qs0 [] := by
  refine ⟨List.nodup_nil, fun b => Iff.intro (fun hb => by cases hb) fun hh => ?_⟩
  obtain ⟨h1, h2, h3⟩ := hh
  suffices hx : restr K b ∈ ([] : List (List Int)) by cases hx
  refine (h.mem (restr K b)).2 ⟨restr_ok h1 K, fun v hv => ?_, fun q hq => ?_⟩
  · rw [restr_at hv]
    by_cases e : K.testBit v = true
    · rw [if_pos e]
      obtain ⟨q, hq, hm⟩ := hk v hv e
      exact ⟨fun _ => e, fun _ => (h2 v hv).2 ⟨q, hp.mem_iff.1 (List.mem_append_left _ hq), hm⟩⟩
    · rw [if_neg e]
      exact ⟨fun hx => absurd rfl hx, fun hx => absurd hx e⟩
  · rw [holdsQ_same (restr_ok h1 K) h1 (h.terms q hq) fun v hv hm => by rw [restr_at hv, if_pos (h.vars q hq v hv hm)]]
    exact h3 q (hp.mem_iff.1 (List.mem_append_left _ hq))

theorem OwnW.one (w : World) : OwnW (w.alloc (.cells #[.int .u32 0] 61)) w.heap.size (w.heap.size + 1) (.slice (some ⟨w.heap.size, 0, none⟩) 1 1) [noneB] :=
  ⟨⟨rfl, .inr ⟨w.heap.size, 1, _, rfl, Nat.le_refl _, heap_alloc_new w _, Nat.le_refl _, by decide, rfl, by simp [wd, encB_none]⟩⟩, fun g hg => by simp [Value.ownBlock] at hg; omega⟩

/-- What solve has behind some questions. -/
structure SolveAt (g c B : Nat) (w0 wr : World) (qs0 : List LQ) (us : List QV) (Q qs : List LQ) (K : Nat) (S : List (List Int)) (v : Value) : Prop where
  row : AtQ wr g c us
  rd : RdQs wr B us qs
  own : OwnW wr w0.heap.size wr.heap.size v S
  sols : Sols K Q S
  perm : (Q ++ qs).Perm qs0
  few : K < 16
  vars : ∀ v, v < 4 → K.testBit v = true → ∃ q ∈ Q, (maskOf q.1.2.2).testBit v = true
  only : Only g (g + 1) w0 wr

set_option maxHeartbeats 4000000 in
set_option maxRecDepth 100000 in
theorem solveFrom_any (g c B : Nat) (us0 : List QV) (qs0 : List LQ) (w : World) (h : AtQ w g c us0) (hr : RdQs w B us0 qs0) (hB : B ≤ g) (hn : qs0.length ≤ 1048576) (hok : ∀ q ∈ qs0, QOk q) (hsf : SafeQ qs0) :
    Calls Tryz.prog 67 #[.int .u32 0, .int .u64 0, .slice (some ⟨g, 0, none⟩) qs0.length c] w fun e w' =>
      ∃ A c' S, e = .returned (.slice A S.length c') ∧ OwnW w' w.heap.size w'.heap.size (.slice A S.length c') S ∧ Only g (g + 1) w w' ∧ IsSols qs0 S := by
  have hgw := h.lt
  have HOK := Lib.hid hok
  have HSF := Lib.hid hsf
  have H0 := Lib.hid (show SolveAt g c B w (w.alloc (.cells #[.int .u32 0] 61)) qs0 us0 [] qs0 0 [noneB] (.slice (some ⟨w.heap.size, 0, none⟩) [noneB].length 1) from
    ⟨h.below (below1 w _) hgw, hr.below (below1 w _) (by omega), (OwnW.one w).mono (Nat.le_refl _) (by simp), sols_start, List.Perm.refl _, by omega, fun v _ h => by simp at h, Only.of_below (below1 w _)⟩)
  clear h hr hok hsf
  go_enter Tryz.func67, Tryz.ntmps67
  go_wp2_with fail
  go_loopw [1, 2, 7] (fun v4 v0 v3 wr => ∃ (us : List QV) (Q qs : List LQ) (K : Nat) (S : List (List Int)) (A : Option Addr) (c' : Nat), qs.length ≤ qs0.length ∧ v0 = .slice (some ⟨g, 0, none⟩) qs.length c ∧ v3 = .slice A S.length c' ∧ v4 = .int .u64 (K : Nat) ∧ SolveAt g c B w wr qs0 us Q qs K S (.slice A S.length c')) (fun _ v0 _ _ => match v0 with | .slice _ n _ => n | _ => 0)
  case atStart => exact ⟨us0, [], qs0, 0, [noneB], _, _, Nat.le_refl _, rfl, rfl, rfl, H0.out⟩
  case round =>
    obtain ⟨us, Q, qs, K, S, A3, c3, hql, rfl, rfl, rfl, hat⟩ := hrel
    have HAT := Lib.hid hat
    clear hat H0
    by_cases hq0 : 0 < qs.length
    · have hd0 : decide ((qs.length : Int) > 0) = true := by simp; omega
      by_cases hS0 : 0 < S.length
      · have hd1 : decide ((S.length : Int) > 0) = true := by simp; omega
        have CN := Lib.hid (nextAsked_any g c B K us qs wr HAT.out.row HAT.out.rd (by have := HAT.out.row.lt; omega) HAT.out.few (by omega) (fun q hq => (HOK.out q (HAT.out.perm.mem_iff.1 (List.mem_append_right _ hq))).args) (free_there HAT.out.sols HAT.out.perm HSF.out hq0))
        go_upto_region 4 with (go_at_call 99; refine CN.out.mono ?_; rintro e w2 ⟨i, rfl, hi, hb2⟩; have HI := Lib.hid (And.intro hi hb2); clear hi hb2)
        obtain ⟨⟨hi, hfree⟩, hb2⟩ := HI.out
        have hlo : w.heap.size ≤ wr.heap.size := HAT.out.only.size
        have hgl : g < wr.heap.size := HAT.out.row.lt
        have hs2 := hb2.size
        obtain ⟨A4, c4, A5, c5, q0, q1, q2, q3, hq⟩ := (HAT.out.row.below hb2 hgl).quest (HAT.out.rd.below hb2 (by omega)) hi
        obtain ⟨q, hqe⟩ : ∃ q, q = qs[i] := ⟨_, rfl⟩
        have hqm : q ∈ qs0 := by rw [hqe]; exact HAT.out.perm.mem_iff.1 (List.mem_append_right _ (List.getElem_mem hi))
        rw [← hqe] at q0 q1 q2 q3 hq hfree
        have hqk := HOK.out q hqm
        have HQE := Lib.hid hqe
        clear hqe hqm
        go_upto_region 5 with fail
        obtain ⟨w3, hw3⟩ : ∃ w3, w3 = w2.alloc (Obj.cells #[Value.int IntKind.i64 q.1.1, Value.int IntKind.i64 q.1.2.1, Value.slice A4 q.1.2.2.length c4, Value.slice A5 q.2.length c5] 106) := ⟨_, rfl⟩
        have b3 : Below w2.heap.size w2 w3 := by rw [hw3]; exact below1 _ _
        have y3 : Blk w3 w2.heap.size 106 #[.int .i64 q.1.1, .int .i64 q.1.2.1, .slice A4 q.1.2.2.length c4, .slice A5 q.2.length c5] := by rw [hw3]; exact Blk.new _ _ _
        have hs3 : w2.heap.size < w3.heap.size := by rw [hw3]; simp
        rw [← hw3]
        clear hw3 q0 q1 q2 q3
        have x0 : w3.cell? ⟨w2.heap.size, 0, none⟩ = some (.int .i64 q.1.1) := y3.cell 0
        have x1 : w3.cell? ⟨w2.heap.size, 1, none⟩ = some (.int .i64 q.1.2.1) := y3.cell 1
        have x2 : w3.cell? ⟨w2.heap.size, 2, none⟩ = some (.slice A4 q.1.2.2.length c4) := y3.cell 2
        have x3 : w3.cell? ⟨w2.heap.size, 3, none⟩ = some (.slice A5 q.2.length c5) := y3.cell 3
        have B23 := bthen hb2 b3
        have hq3 : RdQC w3 w.heap.size (.int .i64 q.1.1) (.int .i64 q.1.2.1) (.slice A4 q.1.2.2.length c4) (.slice A5 q.2.length c5) q :=
          ⟨rfl, rfl, (hq.2.2.1.below b3 (by omega)).more (by omega), (hq.2.2.2.below b3 (by omega)).more (by omega)⟩
        have CA := Lib.hid (ask_any w.heap.size wr.heap.size K _ _ _ _ (.slice A3 S.length c3) q Q S w3 hq3 hqk (HAT.out.own.below B23 (Nat.le_refl _)) B23.size hlo HAT.out.sols (fun e => by rw [e] at hS0; simp at hS0) HAT.out.few (fun h0 => by
          rcases hfree with h | h
          · exact absurd h h0
          · exact h))
        have HW3 := Lib.hid (And.intro B23 (And.intro y3 hq3))
        have hal := hqk.args
        have hor : bits .or .u64 ((K : Nat) : Int) ((maskOf q.1.2.2 : Nat) : Int) = ((K ||| maskOf q.1.2.2 : Nat) : Int) := or_word HAT.out.few (maskOf_lt _)
        clear hq hq3 y3 b3 hb2 hfree hqk B23 HI CN
        go_upto_region 6 with (go_at_call 100; refine CA.out.mono ?_; rintro e w4 ⟨A6, c6, S', rfl, ho4, on4, hs4⟩; have H4 := Lib.hid (And.intro ho4 (And.intro on4 hs4)); clear ho4 on4 hs4)
        obtain ⟨ho4, on4, hs4⟩ := H4.out
        obtain ⟨B23, y3, hq3⟩ := HW3.out
        have hz4 := on4.size
        have y4 := y3.only on4 (.inr (by omega))
        clear x0 x1 x2 x3
        have x2 : w4.cell? ⟨w2.heap.size, 2, none⟩ = some (.slice A4 q.1.2.2.length c4) := y4.cell 2
        have CV := Lib.hid (argVars_any (.slice A4 q.1.2.2.length c4) q.1.2.2 w.heap.size w4 (hq3.2.2.1.below (on4.below (Nat.le_refl _) (by omega)) (Nat.le_refl _)) hal)
        have o04 : Only g (g + 1) w w4 := ⟨on4.os.trans (B23.os.trans HAT.out.only.os), on4.tape.trans (B23.tape.trans HAT.out.only.tape), on4.output.trans (B23.output.trans HAT.out.only.output), by omega, fun k hk ho => (on4.block k (by omega) (.inl hk)).trans ((B23.block k (by omega)).trans (HAT.out.only.block k hk ho))⟩
        have r4 : AtQ w4 g c us := ((HAT.out.row.below B23 hgl).only on4 (.inl (by omega)))
        have d4 : RdQs w4 B us qs := (HAT.out.rd.below B23 (by omega)).only on4 (by omega) (by omega)
        obtain ⟨m, hm⟩ : ∃ m, qs.length = m + 1 := ⟨qs.length - 1, by omega⟩
        have hel : m = (qs.eraseIdx i).length := by rw [List.length_eraseIdx_of_lt hi]; omega
        have hul : us.length = m + 1 := by rw [← hm]; exact HAT.out.rd.1
        have CD := deleteQ_any g c i m us w4 r4 hul (by omega) (by omega) (oneQ d4)
        rw [← hm, hel] at CD
        have HCD := Lib.hid CD
        have HEL := Lib.hid (show (qs.eraseIdx i).length < qs.length by omega)
        have HN := Lib.hid (And.intro ho4 (And.intro hs4 (And.intro o04 (And.intro d4 hz4))))
        clear CD ho4 hs4 o04 d4 on4 y3 y4 hq3 B23 hm hel hul r4 H4 HW3
        go_wp2_with (first
          | (go_at_call 51; refine CV.out.mono ?_; rintro e w' ⟨rfl, rfl⟩)
          | (go_at_call 101; refine HCD.out.mono ?_; rintro e w5 ⟨rfl, r5, on5⟩; have H5 := Lib.hid (And.intro r5 on5); clear r5 on5))
        obtain ⟨r5, on5⟩ := H5.out
        obtain ⟨ho4, hs4, o04, d4, hz4⟩ := HN.out
        have hz5 := on5.size
        have hlen := HEL.out
        have hpm : ((q :: Q) ++ qs.eraseIdx i).Perm qs0 := by
          have h1 := perm_erase qs i hi
          rw [← HQE.out] at h1
          exact (List.perm_middle.symm.trans ((List.Perm.refl Q).append h1)).trans HAT.out.perm
        have HFIN := Lib.hid (show SolveAt g c B w w5 qs0 (us.eraseIdx i) (q :: Q) (qs.eraseIdx i) (K ||| maskOf q.1.2.2) S' (.slice A6 S'.length c6) from
          ⟨r5, (d4.only on5 (by omega) (by omega)).erase i hi, (ho4.only on5 (.inr (by omega))).mono (Nat.le_refl _) hz5, hs4, hpm, Nat.or_lt_two_pow (n := 4) HAT.out.few (maskOf_lt _), fun v hv hb => by
            rw [Nat.testBit_or, Bool.or_eq_true] at hb
            rcases hb with hb | hb
            · obtain ⟨q', hq', h⟩ := HAT.out.vars v hv hb
              exact ⟨q', List.mem_cons_of_mem _ hq', h⟩
            · exact ⟨q, List.mem_cons_self, hb⟩, o04.trans on5⟩)
        clear r5 on5 ho4 hs4 o04 d4 hpm
        go_roundw
        case rel => exact ⟨us.eraseIdx i, q :: Q, qs.eraseIdx i, K ||| maskOf q.1.2.2, S', A6, c6, by omega, rfl, rfl, rfl, HFIN.out⟩
        case measure => simp; omega
      · have hd1 : decide ((S.length : Int) > 0) = false := decide_eq_false (by omega)
        have HE := Lib.hid (show IsSols qs0 S by
          have : S = [] := List.eq_nil_of_length_eq_zero (by omega)
          subst this
          exact sols_none HAT.out.sols HAT.out.perm HAT.out.vars)
        go_wp2_with fail
        go_ret
        exact ⟨_, _, S, rfl, HAT.out.own, HAT.out.only, HE.out⟩
    · have hd0 : decide ((qs.length : Int) > 0) = false := decide_eq_false (by omega)
      have HE := Lib.hid (show IsSols qs0 S by
        have : qs = [] := List.eq_nil_of_length_eq_zero (by omega)
        subst this
        exact sols_done HAT.out.sols (by simpa using HAT.out.perm) HAT.out.vars)
      go_wp2_with fail
      go_ret
      exact ⟨_, _, S, rfl, HAT.out.own, HAT.out.only, HE.out⟩

set_option maxHeartbeats 1000000 in
theorem solve_any (g c B : Nat) (us0 : List QV) (qs0 : List LQ) (w : World) (h : AtQ w g c us0) (hr : RdQs w B us0 qs0) (hB : B ≤ g) (hn : qs0.length ≤ 1048576) (hok : ∀ q ∈ qs0, QOk q) (hsf : SafeQ qs0) :
    Calls Tryz.prog 41 #[.slice (some ⟨g, 0, none⟩) qs0.length c] w fun e w' =>
      ∃ A c' S, e = .returned (.slice A S.length c') ∧ OwnW w' w.heap.size w'.heap.size (.slice A S.length c') S ∧ Only g (g + 1) w w' ∧ IsSols qs0 S := by
  have CF := Lib.hid (solveFrom_any g c B us0 qs0 w h hr hB hn hok hsf)
  clear h hr hok hsf
  go_enter Tryz.func41, Tryz.ntmps41
  go_wp2_with (go_at_call 67; refine CF.out.mono ?_; rintro e w2 ⟨A, c', S, rfl, o2, on2, s2⟩; have H2 := Lib.hid (And.intro o2 (And.intro on2 s2)); clear o2 on2 s2)
  go_ret
  exact ⟨A, c', S, rfl, H2.out.1, H2.out.2.1, H2.out.2.2⟩

end Go.Proofs.YtofkcmihcgmmpaaGreat
/-
  Both ways of solving come to the same, plain mathematics.
-/
namespace Go.Proofs.YtofkcmihcgmmpaaGreat
open Go.RowKit

theorem bodyMask_bit {v : Nat} : ∀ (ls : List LLit) (m : Nat), (ls.foldl (fun m l => m ||| maskOf l.2.2) m).testBit v = true ↔ m.testBit v = true ∨ ∃ l ∈ ls, (maskOf l.2.2).testBit v = true
  | [], m => by simp
  | l :: ls, m => by
    rw [List.foldl_cons, bodyMask_bit ls, Nat.testBit_or, Bool.or_eq_true]
    constructor
    · rintro ((h | h) | ⟨l', hl, h⟩)
      · exact .inl h
      · exact .inr ⟨l, List.mem_cons_self, h⟩
      · exact .inr ⟨l', List.mem_cons_of_mem _ hl, h⟩
    · rintro (h | ⟨l', hl, h⟩)
      · exact .inl (.inl h)
      · rcases List.mem_cons.1 hl with rfl | hl
        · exact .inl (.inr h)
        · exact .inr ⟨l', hl, h⟩
theorem yesMask_bit {v : Nat} : ∀ (ls : List LLit) (m : Nat), (ls.foldl (fun m l => if l.1 = 0 then m ||| maskOf l.2.2 else m) m).testBit v = true ↔ m.testBit v = true ∨ ∃ l ∈ ls, l.1 = 0 ∧ (maskOf l.2.2).testBit v = true
  | [], m => by simp
  | l :: ls, m => by
    rw [List.foldl_cons, yesMask_bit ls]
    by_cases e : l.1 = 0
    · rw [if_pos e, Nat.testBit_or, Bool.or_eq_true]
      constructor
      · rintro ((h | h) | ⟨l', hl, h⟩)
        · exact .inl h
        · exact .inr ⟨l, List.mem_cons_self, e, h⟩
        · exact .inr ⟨l', List.mem_cons_of_mem _ hl, h⟩
      · rintro (h | ⟨l', hl, h⟩)
        · exact .inl (.inl h)
        · rcases List.mem_cons.1 hl with rfl | hl
          · exact .inl (.inr h.2)
          · exact .inr ⟨l', hl, h⟩
    · rw [if_neg e]
      constructor
      · rintro (h | ⟨l', hl, h⟩)
        · exact .inl h
        · exact .inr ⟨l', List.mem_cons_of_mem _ hl, h⟩
      · rintro (h | ⟨l', hl, h⟩)
        · exact .inl h
        · rcases List.mem_cons.1 hl with rfl | hl
          · exact absurd h.1 e
          · exact .inr ⟨l', hl, h⟩

/-- A body that may be asked, told literal by literal. -/
structure SafeB (ls : List LLit) : Prop where
  kind : ∀ l ∈ ls, 0 ≤ l.1 ∧ l.1 ≤ 3
  terms : ∀ l ∈ ls, l.2.2.all termOk = true
  few : ls.length ≤ 4
  safe : ∀ l ∈ ls, ∀ v, v < 4 → (maskOf l.2.2).testBit v = true → ∃ l' ∈ ls, l'.1 = 0 ∧ (maskOf l'.2.2).testBit v = true
theorem SafeB.of {ls : List LLit} (h : bodySafe ls = true) : SafeB ls := by
  unfold bodySafe at h
  rw [Bool.and_eq_true, Bool.and_eq_true] at h
  obtain ⟨⟨h1, h2⟩, h3⟩ := h
  rw [List.all_eq_true] at h1
  rw [ruleSafe_eq, safeTo_iff, ruleMask_body] at h3
  refine ⟨fun l hl => ?_, fun l hl => ?_, by simpa using h2, fun l hl v hv hm => ?_⟩
  · have := h1 l hl
    unfold litFine at this
    rw [Bool.and_eq_true] at this
    simpa using this.1
  · have := h1 l hl
    unfold litFine at this
    rw [Bool.and_eq_true] at this
    exact this.2
  · have hb : (bodyMask ls).testBit v = true := (bodyMask_bit ls 0).2 (.inr ⟨l, hl, hm⟩)
    have hy := h3 v hv hb
    rcases (yesMask_bit ls 0).1 hy with h | h
    · simp at h
    · exact h
theorem consts_of {fs : List LFact} (h : constsL fs = true) : ∀ f ∈ fs, f.2.all constOk = true := fun f hf => List.all_eq_true.1 h f hf
theorem SafeB.quests {ls : List LLit} (h : SafeB ls) (fs : List LFact) : SafeQ (questL fs ls) := fun q hq v hv hm => by
  obtain ⟨l, hl, rfl⟩ := List.mem_map.1 hq
  obtain ⟨l', hl', h0, hm'⟩ := h.safe l hl v hv hm
  exact ⟨(l', fs), List.mem_map.2 ⟨l', hl', rfl⟩, h0, hm'⟩
theorem SafeB.qok {ls : List LLit} (h : SafeB ls) {fs : List LFact} (hc : ∀ f ∈ fs, f.2.all constOk = true) (hn : fs.length ≤ 1048576) (ht : tot fs ≤ 1048576) (hl : totL ls ≤ 1048576) : ∀ q ∈ questL fs ls, QOk q := fun q hq => by
  obtain ⟨l, hl', rfl⟩ := List.mem_map.1 hq
  have hk := h.kind l hl'
  refine ⟨by show l.1 = 0 ∨ l.1 = 1 ∨ l.1 = 2 ∨ l.1 = 3; omega, h.terms l hl', hc, ?_, hn, ht⟩
  obtain ⟨k, hk', rfl⟩ := List.getElem_of_mem hl'
  exact Nat.le_trans (len_le_totL ls k hk') hl

theorem litHolds_same {fs gs : List LFact} (h : ∀ f, f ∈ fs ↔ f ∈ gs) (l : LLit) (b : List Int) : litHolds fs l b = litHolds gs l b := by
  unfold litHolds
  split
  · rfl
  · rw [factsHas_in, factsHas_in]
    congr 2
    exact decide_eq_decide.2 (h _)

/-- The specification's solutions are all that makes the literals hold. -/
theorem solsOf_is {fs gs : List LFact} {ls : List LLit} (h : SafeB ls) (hc : ∀ f ∈ gs, f.2.all constOk = true) (hn : gs.Nodup) (hm : ∀ f, f ∈ gs ↔ f ∈ fs) : UpB (solsOf gs ls) ∧ IsSols (questL fs ls) (solsOf gs ls) := by
  obtain ⟨h1, h2⟩ := triedTo_is gs (restTo ls ls.length) (bindsTo gs ls ls.length) _ (Nat.le_refl _)
  obtain ⟨K, Q, hK, hS, hQ, hv⟩ := bindsTo_sols hc hn h.terms ls.length (Nat.le_refl _)
  rw [List.take_length] at hv
  refine ⟨h1, h1.nodup, fun b => ?_⟩
  unfold solsOf
  rw [h2, List.take_length, hS.mem b, and_assoc, and_assoc]
  have hKb : ∀ v, v < 4 → (K.testBit v = true ↔ ∃ q ∈ questL fs ls, (maskOf q.1.2.2).testBit v = true) := fun v hv4 => by
    rw [hv v hv4]
    constructor
    · rintro ⟨l, hl, _, hb⟩
      exact ⟨(l, fs), List.mem_map.2 ⟨l, hl, rfl⟩, hb⟩
    · rintro ⟨q, hq, hb⟩
      obtain ⟨l, hl, rfl⟩ := List.mem_map.1 hq
      exact h.safe l hl v hv4 hb
  refine and_congr_right fun _ => and_congr ?_ ?_
  · exact ⟨fun hd v hv => (hd v hv).trans (hKb v hv), fun hd v hv => (hd v hv).trans (hKb v hv).symm⟩
  · constructor
    · rintro ⟨hq, hr⟩ q hq'
      obtain ⟨l, hl, rfl⟩ := List.mem_map.1 hq'
      show litHolds fs l b = true
      rw [← litHolds_same hm]
      by_cases e : l.1 = 0
      · exact hq (l, gs) ((hQ _).2 ⟨rfl, e, by rw [List.take_length]; exact hl⟩)
      · refine List.all_eq_true.1 hr l ?_
        unfold restTo
        rw [List.take_length]
        exact List.mem_filter.2 ⟨hl, by simpa using e⟩
    · intro hq
      refine ⟨fun q hq' => ?_, List.all_eq_true.2 fun l hl => ?_⟩
      · obtain ⟨e1, e2, e3⟩ := (hQ q).1 hq'
        rw [List.take_length] at e3
        have := hq (q.1, fs) (List.mem_map.2 ⟨q.1, e3, rfl⟩)
        unfold holdsQ at this ⊢
        rw [e1, litHolds_same hm]
        exact this
      · unfold restTo at hl
        rw [List.take_length] at hl
        have := hq (l, fs) (List.mem_map.2 ⟨l, (List.mem_filter.1 hl).1, rfl⟩)
        rw [litHolds_same hm]
        exact this

/-- The words have the order of the lists. -/
theorem cmp_enc {x y : List Int} (hx : bindOk x = true) (hy : bindOk y = true) (h : encB x < encB y) : cmpL x y < 0 := by
  obtain ⟨a, b, c, d, rfl⟩ := list4 (bindOk_len hx)
  obtain ⟨a', b', c', d', rfl⟩ := list4 (bindOk_len hy)
  have h0 := bindOk_at hx (k := 0) (by simp)
  have h1 := bindOk_at hx (k := 1) (by simp)
  have h2 := bindOk_at hx (k := 2) (by simp)
  have h3 := bindOk_at hx (k := 3) (by simp)
  have g0 := bindOk_at hy (k := 0) (by simp)
  have g1 := bindOk_at hy (k := 1) (by simp)
  have g2 := bindOk_at hy (k := 2) (by simp)
  have g3 := bindOk_at hy (k := 3) (by simp)
  simp only [List.getElem_cons_zero, List.getElem_cons_succ] at h0 h1 h2 h3 g0 g1 g2 g3
  simp only [encB, List.getD_cons_zero, List.getD_cons_succ] at h
  simp only [cmpL]
  by_cases e0 : a = a'
  · rw [if_pos e0]
    by_cases e1 : b = b'
    · rw [if_pos e1]
      by_cases e2 : c = c'
      · rw [if_pos e2]
        by_cases e3 : d = d'
        · omega
        · rw [if_neg e3, cmpI_neg]; omega
      · rw [if_neg e2, cmpI_neg]; omega
    · rw [if_neg e1, cmpI_neg]; omega
  · rw [if_neg e0, cmpI_neg]; omega
theorem IsSols.ok {qs : List LQ} {S : List (List Int)} (h : IsSols qs S) : ∀ b ∈ S, bindOk b = true := fun b hb => ((h.2 b).1 hb).1
theorem IsSols.up {qs : List LQ} {S S' : List (List Int)} (h : IsSols qs S) (hp : S'.Perm S) (hu : UpW S') : UpB S' ∧ IsSols qs S' := by
  have hn : S'.Nodup := hp.nodup_iff.2 h.1
  have hok : ∀ b ∈ S', bindOk b = true := fun b hb => h.ok b (hp.mem_iff.1 hb)
  refine ⟨?_, hn, fun b => by rw [hp.mem_iff, h.2 b]⟩
  refine List.Pairwise.imp_of_mem (fun {x y} hx hy hh => ?_) (hu.and hn)
  refine cmp_enc (hok x hx) (hok y hy) ?_
  rcases Nat.lt_or_ge (encB x) (encB y) with h1 | h1
  · exact h1
  · exact absurd (encB_inj (hok x hx) (hok y hy) (Nat.le_antisymm hh.1 h1)) hh.2

/-- The solutions of a body in facts. -/
def solsL (fs : List LFact) (ls : List LLit) : List (List Int) := if bodySafe ls && constsL fs then solsOf (setOf fs) ls else []
theorem asc_nodup {fs : List LFact} (h : Asc fs) : fs.Nodup := h.imp fun h e => by
  subst e
  rw [order_refl] at h
  omega
theorem solsL_is {fs : List LFact} {ls : List LLit} (h : bodySafe ls = true) (hc : constsL fs = true) {S : List (List Int)} (hu : UpB S) (hs : IsSols (questL fs ls) S) : S = solsL fs ls := by
  have hc' := consts_of hc
  obtain ⟨h1, h2⟩ := solsOf_is (fs := fs) (gs := setOf fs) (SafeB.of h) (fun f hf => hc' f ((setOf_mem fs f).1 hf)) (asc_nodup (setOf_asc fs)) (setOf_mem fs)
  unfold solsL
  rw [h, hc]
  show S = solsOf (setOf fs) ls
  exact hu.unique h1 fun b => by rw [hs.2 b, h2.2 b]

end Go.Proofs.YtofkcmihcgmmpaaGreat
/-
  The specification's FactsEither and l1Pick: facts laid into a list one after another.
-/
namespace Go.Proofs.YtofkcmihcgmmpaaGreat
open Go.RowKit

theorem foldWith_bound : ∀ (l out : List LFact), (l.foldl factsWith out).length ≤ out.length + l.length ∧ tot (l.foldl factsWith out) ≤ tot out + tot l
  | [], out => by simp [tot]
  | f :: l, out => by
    have h1 := factsWith_bound out f
    have h2 := foldWith_bound l (factsWith out f)
    rw [tot_cons]
    simp only [List.foldl_cons, List.length_cons]
    omega
theorem setOf_bound (l : List LFact) : (setOf l).length ≤ l.length ∧ tot (setOf l) ≤ tot l := by
  have := foldWith_bound l []
  unfold setOf
  simpa [tot] using this
theorem setOf_snoc (l : List LFact) (f : LFact) : setOf (l ++ [f]) = factsWith (setOf l) f := by simp [setOf, List.foldl_append]

set_option maxHeartbeats 1000000 in
set_option maxRecDepth 100000 in
theorem specFactsEither_any (v v2 : Value) (xs ys : List LFact) (w : World) (h : RdFacts w w.heap.size v xs) (h2 : RdFacts w w.heap.size v2 ys) (hn : xs.length + ys.length ≤ 1048576) (ht : tot xs + tot ys ≤ 1048576) :
    Calls Tryz.prog 48 #[v, v2] w fun e w' => ∃ A' c', e = .returned (.slice A' (setOf (xs ++ ys)).length c') ∧ OwnFacts w' w.heap.size w'.heap.size (.slice A' (setOf (xs ++ ys)).length c') (setOf (xs ++ ys)) ∧ Below w.heap.size w w' := by
  have H := Lib.hid h
  have H2 := Lib.hid h2
  obtain ⟨A, c, rfl, hc, _⟩ := h
  obtain ⟨A2, c2, rfl, hc2, _⟩ := h2
  go_enter Tryz.func48, Tryz.ntmps48
  go_wp2_with (fail)
  go_loopw [5, 6] (fun o i wr => ∃ (k : Nat) (gs : List LFact) (A' : Option Addr) (c' : Nat), k ≤ xs.length ∧ i = .int .i64 k ∧ gs = setOf (xs.take k) ∧ o = .slice A' gs.length c' ∧ OwnFacts wr w.heap.size wr.heap.size (.slice A' gs.length c') gs ∧ Below w.heap.size w wr) (fun _ i _ => xs.length - (intOf i).toNat)
  case atStart => exact ⟨0, [], _, 0, Nat.zero_le _, rfl, rfl, rfl, (ColRel.empty w).own.own.mono (Nat.le_refl _) (Nat.le_refl _), below1 _ _⟩
  case round =>
    obtain ⟨k, gs, A', c', hk, rfl, hgs, rfl, ho, hbe⟩ := hrel
    have hbd := setOf_bound (xs.take k)
    rw [← hgs, List.length_take] at hbd
    have htk := tot_take_le xs k
    have HO := Lib.hid ho
    have HG := Lib.hid hgs
    clear ho hgs
    by_cases hlt : k < xs.length
    · obtain ⟨b, o, A3, c3, rfl, hbB, k1, k2, k3⟩ := (H.out.on hbe).get hlt
      have hln := len_le_tot xs k hlt
      have K3 := Lib.hid (show RdFact wr wr.heap.size (.agg #[.int .i64 xs[k].1, .slice A3 xs[k].2.length c3]) xs[k] from ⟨_, rfl, k3⟩)
      clear k3
      go_wp2_with (fail)
      refine (specFactsWith_any _ _ gs xs[k] _ HO.out.rd K3.out (by omega) (by omega) (by omega)).mono ?_
      rintro e w2 ⟨A4, c4, rfl, ho4, hb4⟩
      have HR := Lib.hid (show OwnFacts w2 w.heap.size w2.heap.size _ _ from ho4.mono hbe.size (Nat.le_refl _))
      have HB := Lib.hid (bthen hbe hb4)
      have HE := Lib.hid (show factsWith gs xs[k] = setOf (xs.take (k + 1)) by rw [take_snoc xs k hlt, setOf_snoc, ← HG.out])
      clear ho4 hb4
      go_wp2_with (fail)
      go_roundw
      case rel => exact ⟨k + 1, factsWith gs xs[k], _, _, by omega, by go_num, HE.out, rfl, HR.out, HB.out⟩
      case measure => simp [intOf]; omega
    · have hkn : k = xs.length := by omega
      subst hkn
      have HX := Lib.hid (show gs = setOf xs by rw [HG.out, List.take_length])
      clear HG
      go_wp2_with (fail)
      go_loopw [5, 7] (fun o i wq => ∃ (k : Nat) (gs : List LFact) (A' : Option Addr) (c' : Nat), k ≤ ys.length ∧ i = .int .i64 k ∧ gs = setOf (xs ++ ys.take k) ∧ o = .slice A' gs.length c' ∧ OwnFacts wq w.heap.size wq.heap.size (.slice A' gs.length c') gs ∧ Below w.heap.size w wq) (fun _ i _ => ys.length - (intOf i).toNat)
      case atStart => exact ⟨0, gs, _, _, Nat.zero_le _, rfl, by simpa using HX.out, rfl, HO.out, hbe⟩
      case round =>
        obtain ⟨k, gs, A', c', hk, rfl, hgs, rfl, ho, hbe⟩ := hrel
        have hbd := setOf_bound (xs ++ ys.take k)
        rw [← hgs, tot_append, List.length_append, List.length_take] at hbd
        have htk := tot_take_le ys k
        have HO := Lib.hid ho
        have HG := Lib.hid hgs
        clear ho hgs
        by_cases hlt : k < ys.length
        · obtain ⟨b, o, A3, c3, rfl, hbB, k1, k2, k3⟩ := (H2.out.on hbe).get hlt
          have hln := len_le_tot ys k hlt
          have K3 := Lib.hid (show RdFact _ _ (.agg #[.int .i64 ys[k].1, .slice A3 ys[k].2.length c3]) ys[k] from ⟨_, rfl, k3⟩)
          clear k3
          go_wp2_with (fail)
          refine (specFactsWith_any _ _ gs ys[k] _ HO.out.rd K3.out (by omega) (by omega) (by omega)).mono ?_
          rintro e w2 ⟨A4, c4, rfl, ho4, hb4⟩
          have HR := Lib.hid (show OwnFacts w2 w.heap.size w2.heap.size _ _ from ho4.mono hbe.size (Nat.le_refl _))
          have HB := Lib.hid (bthen hbe hb4)
          have HE := Lib.hid (show factsWith gs ys[k] = setOf (xs ++ ys.take (k + 1)) by rw [take_snoc ys k hlt, ← List.append_assoc, setOf_snoc, ← HG.out])
          clear ho4 hb4
          go_wp2_with (fail)
          go_roundw
          case rel => exact ⟨k + 1, factsWith gs ys[k], _, _, by omega, by go_num, HE.out, rfl, HR.out, HB.out⟩
          case measure => simp [intOf]; omega
        · have hkn : k = ys.length := by omega
          subst hkn
          have HY := Lib.hid (show gs = setOf (xs ++ ys) by rw [HG.out, List.take_length])
          have HB := Lib.hid hbe
          clear HG
          go_wp2_with (fail)
          go_ret
          rw [← HY.out]
          exact ⟨A', c', rfl, HO.out, HB.out⟩

end Go.Proofs.YtofkcmihcgmmpaaGreat
/-
  The specification's l3Solutions and Solutions.
-/
namespace Go.Proofs.YtofkcmihcgmmpaaGreat
open Go.RowKit

/-- A row of literals whose integers stand elsewhere. -/
def flatR : List LLit → List Value → List Value
  | l :: ls, u :: us => .int .i64 l.1 :: .int .i64 l.2.1 :: u :: flatR ls us
  | _, _ => []
theorem flatR_snoc : ∀ (ls : List LLit) (us : List Value) (_ : us.length = ls.length) (l : LLit) (u : Value), flatR (ls ++ [l]) (us ++ [u]) = flatR ls us ++ [.int .i64 l.1, .int .i64 l.2.1, u]
  | [], [], _, l, u => by simp [flatR]
  | [], u' :: us, h, _, _ => by simp at h
  | l :: ls, [], h, _, _ => by simp at h
  | l :: ls, u :: us, h, m, b => by simp [flatR, flatR_snoc ls us (by simpa using h) m b]
theorem flatR_at : ∀ (ls : List LLit) (us : List Value) (_ : us.length = ls.length) (k : Nat) (hk : k < ls.length) (hk' : k < us.length),
    (flatR ls us)[k * 3]? = some (.int .i64 ls[k].1) ∧ (flatR ls us)[k * 3 + 1]? = some (.int .i64 ls[k].2.1) ∧ (flatR ls us)[k * 3 + 2]? = some us[k]
  | l :: ls, u :: us, h, 0, _, _ => ⟨rfl, rfl, rfl⟩
  | l :: ls, u :: us, h, k + 1, h1, h2 => by
    have ih := flatR_at ls us (by simpa using h) k (by simpa using h1) (by simpa using h2)
    have e : ∀ r, (flatR (l :: ls) (u :: us))[(k + 1) * 3 + r]? = (flatR ls us)[k * 3 + r]? := fun r => by
      rw [show (k + 1) * 3 + r = (k * 3 + r) + 1 + 1 + 1 by omega]
      rfl
    have e0 := e 0
    rw [Nat.add_zero, Nat.add_zero] at e0
    rw [e0, e 1, e 2]
    exact ih
/-- The relation of a loop that collects literals that stand elsewhere. -/
structure ColLR (w wr : World) (ls : List LLit) (A : Option Addr) (c : Nat) (us : List Value) : Prop where
  below : Below w.heap.size w wr
  len : us.length = ls.length
  inn : ∀ i (h : i < ls.length) (h' : i < us.length), RdInts wr w.heap.size us[i] ls[i].2.2
  row : wr.ownsRow w.heap.size 38 3 (.slice A ls.length c) ls.length (flatR ls us)
theorem ColLR.empty (w wr : World) (hb : Below w.heap.size w wr) : ColLR w (wr.alloc (.cells #[] 38)) [] (some ⟨wr.heap.size, 0, none⟩) 0 [] :=
  ⟨hb.alloc hb.size _, rfl, fun i h => absurd h (by simp), World.ownsRow_made wr #[] 0 hb.size (by decide) rfl⟩
theorem ColLR.on {w wr w2 : World} {ls : List LLit} {A : Option Addr} {c : Nat} {us : List Value} (h : ColLR w wr ls A c us) (hb : Below wr.heap.size wr w2) : ColLR w w2 ls A c us :=
  ⟨bthen h.below hb, h.len, fun i a b => (h.inn i a b).below hb h.below.size, ownsRow_below h.row (fun g hg => (h.row.lt g hg).2) hb (Nat.le_refl _)⟩
theorem ColLR.push {w wr w2 w4 : World} {ls ls' : List LLit} {A : Option Addr} {c g cap : Nat} {l : LLit} {u : Value} {o : Obj} {us : List Value} (h : ColLR w wr ls A c us) (e : ls' = ls ++ [l]) (hb : Below wr.heap.size wr w2) (hu : RdInts w2 w.heap.size u l.2.2)
    (hg : (w2.alloc o).grownBy w4 (Value.slice A ls.length c).ownBlock) (hown : w4.ownsRow w.heap.size 38 3 (.slice (some ⟨g, 0, none⟩) (ls.length + 1) cap) (ls.length + 1) (flatR ls us ++ [.int .i64 l.1, .int .i64 l.2.1, u])) :
    ColLR w w4 ls' (some ⟨g, 0, none⟩) cap (us ++ [u]) ∧ ls.length + 1 = ls'.length := by
  subst e
  have h2 := h.on hb
  have hl : (ls ++ [l]).length = ls.length + 1 := by simp
  have hB : Below w.heap.size w2 w4 := by
    have hg' := grown_from_alloc hg
    refine ⟨hg'.os, hg'.tape, hg'.output, hg'.size, fun k hk => hg'.block k (by have := h2.below.size; omega) (fun e => ?_)⟩
    have := (h2.row.lt k e.symm).1
    omega
  refine ⟨⟨h2.below.trans hB, by simp [h.len], fun i h1 h3 => ?_, by rw [hl, flatR_snoc ls us h.len]; exact hown⟩, hl.symm⟩
  by_cases e : i < ls.length
  · have e' : i < us.length := by rw [h.len]; exact e
    rw [List.getElem_append_left e', List.getElem_append_left e]
    exact (h2.inn i e e').below hB (Nat.le_refl _)
  · have e2 : i = ls.length := by simp at h1; omega
    subst e2
    have := h.len
    simp [← this]
    exact hu.below hB (Nat.le_refl _)
theorem ColLR.rd {w wr : World} {ls : List LLit} {A : Option Addr} {c : Nat} {us : List Value} (h : ColLR w wr ls A c us) : RdLits wr wr.heap.size (.slice A ls.length c) ls := by
  have hcells := @World.ownsRow.cells wr w.heap.size 38 3 (.slice A ls.length c) ls.length (flatR ls us) h.row
  have hl := h.len
  have hsz := h.below.size
  obtain ⟨hfl, hr⟩ := h.row
  rcases hr with ⟨e, h0⟩ | ⟨g, cap, cur, e, hb, hgg, hn, _⟩
  · have : ls = [] := List.eq_nil_of_length_eq_zero h0
    subst this
    injection e with e1 _ e3
    subst e1 e3
    exact ⟨none, 0, rfl, by simp, fun h => absurd h (by simp)⟩
  · injection e with e1 _ e3
    subst e1 e3
    refine ⟨_, c, rfl, hn, fun _ => ⟨g, 0, rfl, Blk.lt hgg, fun k hk => ?_⟩⟩
    obtain ⟨c0, c1, c2⟩ := flatR_at ls us hl k hk (by omega)
    have d0 := hcells (g := g) rfl _ _ c0
    have d1 := hcells (g := g) rfl _ _ c1
    have d2 := hcells (g := g) rfl _ _ c2
    rw [Go.WideShapes.add_plain] at d0 d1 d2
    exact ⟨_, _, _, d0, d1, d2, rfl, rfl, (h.inn k hk (by omega)).more hsz⟩
theorem news3s (w : World) (x y z : Value) (t : TypeId) (n : Nat) (hn : w.heap.size = n) : ∀ j u, [x, y, z][j]? = some u → (w.alloc (.cells #[x, y, z] t)).cell? ((⟨n, 0, none⟩ : Addr).add j) = some u :=
  hn ▸ World.news_of_block (cs := #[x, y, z]) (heap_alloc_new w _)

theorem totL_sub : ∀ {xs ys : List LLit}, xs.Sublist ys → totL xs ≤ totL ys
  | _, _, .slnil => Nat.le_refl _
  | _, _, .cons a h => by have := totL_sub h; simp only [totL, List.map_cons, List.sum_cons] at this ⊢; omega
  | _, _, .cons_cons a h => by have := totL_sub h; simp only [totL, List.map_cons, List.sum_cons] at this ⊢; omega
/-- What the lists ahead of k, and list k with the facts ahead of j, become. -/
def nextTo (a : LFact) (fs : List LFact) (B : List (List Int)) (k j : Nat) : List (List Int) := nextL a fs (B.take k) ++ (fs.take j).filterMap fun f => matchL a f (B.getD k [])
theorem nextTo_none {a : LFact} {fs : List LFact} {B : List (List Int)} {k j : Nat} (hj : j < fs.length) (hk : k < B.length) (e : matchL a fs[j] B[k] = none) : nextTo a fs B k (j + 1) = nextTo a fs B k j := by
  unfold nextTo
  rw [take_snoc fs j hj, List.filterMap_append]
  simp [hk, e]
theorem nextTo_some {a : LFact} {fs : List LFact} {B : List (List Int)} {k j : Nat} {r : List Int} (hj : j < fs.length) (hk : k < B.length) (e : matchL a fs[j] B[k] = some r) : nextTo a fs B k (j + 1) = nextTo a fs B k j ++ [r] := by
  unfold nextTo
  rw [take_snoc fs j hj, List.filterMap_append]
  simp [hk, e]
theorem nextTo_row {a : LFact} {fs : List LFact} {B : List (List Int)} {k : Nat} (hk : k < B.length) : nextTo a fs B k fs.length = nextTo a fs B (k + 1) 0 := by
  have hd : B.getD k [] = B[k] := by simp [hk]
  unfold nextTo nextL
  rw [List.take_length, take_snoc B k hk, hd, List.flatMap_append]
  simp
theorem nextTo_start (a : LFact) (fs : List LFact) (B : List (List Int)) : nextTo a fs B 0 0 = [] := by simp [nextTo, nextL]
theorem nextTo_end (a : LFact) (fs : List LFact) (B : List (List Int)) : nextTo a fs B B.length 0 = nextL a fs B := by simp [nextTo]
theorem nextTo_len {a : LFact} {fs : List LFact} {B : List (List Int)} {k j : Nat} (hk : k < B.length) : (nextTo a fs B k j).length ≤ (nextL a fs B).length := by
  have e : B = B.take k ++ B[k] :: B.drop (k + 1) := by
    rw [← List.drop_eq_getElem_cons hk, List.take_append_drop]
  have h1 : (nextL a fs B).length = (nextL a fs (B.take k)).length + ((fs.filterMap fun f => matchL a f B[k]).length + (nextL a fs (B.drop (k + 1))).length) := by
    have key : ∀ (B1 B2 : List (List Int)) (b : List Int), (nextL a fs (B1 ++ b :: B2)).length = (nextL a fs B1).length + ((fs.filterMap fun f => matchL a f b).length + (nextL a fs B2).length) := fun B1 B2 b => by
      unfold nextL
      rw [List.flatMap_append, List.flatMap_cons, List.length_append, List.length_append]
    have := key (B.take k) (B.drop (k + 1)) B[k]
    rwa [← e] at this
  have h2 : ((fs.take j).filterMap fun f => matchL a f (B.getD k [])).length ≤ (fs.filterMap fun f => matchL a f B[k]).length := by
    have hd : B.getD k [] = B[k] := by simp [hk]
    rw [hd]
    exact ((List.take_sublist j fs).filterMap _).length_le
  unfold nextTo
  rw [List.length_append]
  omega

theorem WkRows.one {w : World} {lo : Nat} {u : Value} {xs : List Int} (h : OwnInts w lo w.heap.size u xs) (hl : lo ≤ w.heap.size) : WkRows (w.alloc (.cells #[u] 33)) lo (w.heap.size + 1) (.slice (some ⟨w.heap.size, 0, none⟩) 1 1) [xs] :=
  ⟨[u], ⟨rfl, fun i h1 h2 => by
    have : i = 0 := by simp at h1; omega
    subst this
    exact (h.below (below1 w _) (Nat.le_refl _)).mono (Nat.le_refl _) (by omega)⟩, ⟨rfl, .inr ⟨w.heap.size, 1, _, rfl, hl, heap_alloc_new w _, Nat.le_refl _, by decide, rfl, rfl⟩⟩, fun g hg => by simp [Value.ownBlock] at hg; omega⟩
theorem WkRows.empty (w : World) : WkRows (w.alloc (.cells #[] 33)) w.heap.size (w.heap.size + 1) (.slice (some ⟨w.heap.size, 0, none⟩) 0 0) [] :=
  ⟨[], ⟨rfl, fun i h => absurd h (by simp)⟩, World.ownsRow_made w #[] 0 (Nat.le_refl _) (by decide) rfl, fun g hg => by simp [Value.ownBlock] at hg; omega⟩

/-- What the outer loop has. -/
structure SolAt (w0 wr : World) (gs : List LFact) (ls : List LLit) (k : Nat) (Ab : Option Addr) (cb : Nat) (Ar : Option Addr) (cr : Nat) (us : List Value) : Prop where
  below : Below w0.heap.size w0 wr
  binds : WkRows wr w0.heap.size wr.heap.size (.slice Ab (bindsTo gs ls k).length cb) (bindsTo gs ls k)
  rest : ColLR w0 wr (restTo ls k) Ar cr us

set_option maxHeartbeats 16000000 in
set_option maxRecDepth 100000 in
theorem l3Solutions_any (v v2 : Value) (gs : List LFact) (ls : List LLit) (R : List (List Int)) (hR : R = solsOf gs ls) (w : World) (h : RdFacts w w.heap.size v gs) (h2 : RdLits w w.heap.size v2 ls) (hn : gs.length ≤ 1048576) (ht : tot gs ≤ 1048576) (hl : ls.length + totL ls ≤ 1048576)
    (hc : ∀ f ∈ gs, f.2.all constOk = true) (hnd : gs.Nodup) (hT : ∀ l ∈ ls, l.2.2.all termOk = true) :
    Calls Tryz.prog 47 #[v, v2] w fun e w' => ∃ A c, e = .returned (.slice A R.length c) ∧ WkRows w' w.heap.size w'.heap.size (.slice A R.length c) R ∧ Below w.heap.size w w' := by
  obtain ⟨i0, hi0, hz0, hz1, hz2⟩ := info_parts Tryz.infoIntS
  obtain ⟨i1, hi1, hy0, hy1, hy2⟩ := info_parts Tryz.infoLit
  have HR := Lib.hid hR
  have HC := Lib.hid hc
  have HT := Lib.hid hT
  have HOK := Lib.hid (fun k (hk : k ≤ ls.length) => bindsTo_ok hc hnd hT hk)
  have H00 := Lib.hid (And.intro h h2)
  obtain ⟨A, c, rfl, hcA, _⟩ := h
  obtain ⟨A2, c2, rfl, hc2, _⟩ := h2
  clear hR hc hT hnd
  go_enter Tryz.func47, Tryz.ntmps47
  go_upto_region 2 with fail
  have HO0 := Lib.hid (WkRows.empty w)
  obtain ⟨wA, hwA⟩ : ∃ wA, wA = w.alloc (Obj.cells #[] 33) := ⟨_, rfl⟩
  have hBA := Lib.hid (show Below w.heap.size w wA by rw [hwA]; exact below1 _ _)
  have hsA : wA.heap.size = w.heap.size + 1 := by rw [hwA]; simp
  rw [← hwA] at HO0 ⊢
  clear hwA
  have HSA := Lib.hid hsA
  have hsA2 : w.heap.size < wA.heap.size := by omega
  clear hsA
  have H := Lib.hid (H00.out.1.on hBA.out)
  have H2 := Lib.hid (H00.out.2.on hBA.out)
  clear H00
  go_upto_region 3 with (first
    | (go_at_call 82; refine (l3None_any _).mono ?_; rintro e w2 ⟨A4, c4, rfl, o4, b4⟩; have H4 := Lib.hid (And.intro o4 b4); clear o4 b4))
  obtain ⟨w3, hw3⟩ : ∃ w3, w3 = w2.alloc (Obj.cells #[Value.slice A4 4 c4] 33) := ⟨_, rfl⟩
  have HS0 := Lib.hid (show Below wA.heap.size wA w3 ∧ WkRows w3 wA.heap.size w3.heap.size (.slice (some ⟨w2.heap.size, 0, none⟩) 1 1) [noneB] from by
    obtain ⟨o4, b4⟩ := H4.out
    refine ⟨by rw [hw3]; exact bthen b4 (below1 _ _), ?_⟩
    have := WkRows.one o4 b4.size
    rw [hw3]
    exact this.mono (Nat.le_refl _) (by simp))
  rw [← hw3]
  clear hw3 H4
  go_upto_region 4 with fail
  have HSOL := Lib.hid (show SolAt wA (w3.alloc (Obj.cells #[] 38)) gs ls 0 (some ⟨w2.heap.size, 0, none⟩) 1 (some ⟨w3.heap.size, 0, none⟩) 0 [] from
    ⟨bthen HS0.out.1 (below1 _ _), (HS0.out.2.below (below1 _ _) (Nat.le_refl _)).mono (Nat.le_refl _) (by simp), ColLR.empty _ _ HS0.out.1⟩)
  clear HS0
  go_wp2_with fail
  go_loopw [6, 7, 8] (fun vb vr vi wr => ∃ (k : Nat) (Ab : Option Addr) (cb : Nat) (Ar : Option Addr) (cr : Nat) (us : List Value), k ≤ ls.length ∧ vi = .int .i64 k ∧ vb = .slice Ab (bindsTo gs ls k).length cb ∧ vr = .slice Ar (restTo ls k).length cr ∧ SolAt wA wr gs ls k Ab cb Ar cr us) (fun _ _ vi _ => ls.length - (intOf vi).toNat)
  case atStart => exact ⟨0, _, _, _, _, [], Nat.zero_le _, rfl, rfl, rfl, HSOL.out⟩
  case round =>
    obtain ⟨k, Ab, cb, Ar, cr, us, hk, rfl, rfl, rfl, hat⟩ := hrel
    have HAT := Lib.hid hat
    clear hat HSOL
    have hrl := restTo_length ls k
    by_cases hlt : k < ls.length
    · obtain ⟨b, o, u0, u1, u2, rfl, hbB, k0, k1, k2, rfl, rfl, p3⟩ := (H2.out.below HAT.out.below (Nat.le_refl _)).get hlt
      have HP3 := Lib.hid p3
      obtain ⟨A5, c5, rfl, hc5, _⟩ := p3
      have hln := len_le_totL ls k hlt
      by_cases h0 : ls[k].1 = 0
      · have hd : (ls[k].1 != 0) = false := by simp [h0]
        have HY := Lib.hid (bindsTo_yes (fs := gs) hlt h0)
        have HRY := Lib.hid (restTo_yes hlt h0)
        have hta := HT.out _ (List.getElem_mem hlt)
        have HLN := Lib.hid (HOK.out (k + 1) (by omega)).2
        have HBK := Lib.hid (HOK.out k (by omega))
        obtain ⟨B, hB⟩ : ∃ B, B = bindsTo gs ls k := ⟨_, rfl⟩
        have HBB := Lib.hid (show WkRows wr wA.heap.size wr.heap.size (.slice Ab B.length cb) B by rw [hB]; exact HAT.out.binds)
        rw [← hB] at HY HBK ⊢
        rw [HY.out] at HLN
        have HBE := Lib.hid hB
        have hbn : B.length ≤ 65536 := HBK.out.2
        clear hB
        go_wp2_with fail
        rename World => w1
        have C0 := Lib.hid (ColS.empty (lo := w1.heap.size) (Below.refl w1.heap.size w1))
        go_loopw [9, 10] (fun vn vp wr => ∃ (p : Nat) (An : Option Addr) (cn : Nat) (av : List Value), p ≤ B.length ∧ vp = .int .i64 p ∧ vn = .slice An (nextTo ls[k].2 gs B p 0).length cn ∧ ColS w1.heap.size w1 wr (nextTo ls[k].2 gs B p 0) An cn av) (fun _ vp _ => B.length - (intOf vp).toNat)
        case atStart =>
          refine ⟨0, some ⟨w1.heap.size, 0, none⟩, 0, [], Nat.zero_le _, rfl, ?_, ?_⟩
          · rw [nextTo_start]; rfl
          · rw [nextTo_start]; exact C0.out
        case round =>
          obtain ⟨p, An, cn, av, hp, rfl, rfl, hcol⟩ := hrel
          by_cases hltp : p < B.length
          · have HCOL := Lib.hid hcol
            clear hcol
            go_wp2_with fail
            rename World => w5
            go_loopw [9, 11] (fun vn vj wr => ∃ (j : Nat) (An : Option Addr) (cn : Nat) (av : List Value), j ≤ gs.length ∧ vj = .int .i64 j ∧ vn = .slice An (nextTo ls[k].2 gs B p j).length cn ∧ ColS w1.heap.size w1 wr (nextTo ls[k].2 gs B p j) An cn av) (fun _ vj _ => gs.length - (intOf vj).toNat)
            case atStart => exact ⟨0, An, cn, av, Nat.zero_le _, rfl, rfl, HCOL.out⟩
            case round =>
              obtain ⟨j, An, cn, av, hj, rfl, rfl, hcol⟩ := hrel
              have HCO := Lib.hid hcol
              have B1 := hcol.below
              clear hcol
              have BW := bthen HAT.out.below B1
              by_cases hltj : j < gs.length
              · obtain ⟨b3, o3, A6, c6, rfl, hb3, f0, f1, p6⟩ := (H.out.below BW (Nat.le_refl _)).get hltj
                obtain ⟨gb, A7, c7, rfl, hgb, r0, o7⟩ := (HBB.out.below B1 (Nat.le_refl _)).get hltp
                have hsz1 := B1.size
                have hszA := HAT.out.below.size
                have hlf := len_le_tot gs j hltj
                have hcf := HC.out _ (List.getElem_mem hltj)
                have hbok := HBK.out.1 _ (List.getElem_mem hltp)
                have hb4 := bindOk_len hbok
                have hbl : b < wr.heap.size := by omega
                have hb3l : b3 < wr.heap.size := by omega
                have hgl : gb < wr.heap.size := hgb
                have k1' : wr.cell? ⟨b, o + k * 3 + 1, none⟩ = some (.int .i64 ls[k].2.1) := (B1.cell (p := ⟨b, o + k * 3 + 1, none⟩) (by show b < w1.heap.size; omega)).trans k1
                have k2' : wr.cell? ⟨b, o + k * 3 + 2, none⟩ = some (.slice A5 ls[k].2.2.length c5) := (B1.cell (p := ⟨b, o + k * 3 + 2, none⟩) (by show b < w1.heap.size; omega)).trans k2
                have HS := Lib.hid (show ∀ W, Below wr.heap.size wr W → (Below wr.heap.size wr W ∧ W.cell? ⟨b, o + k * 3 + 1, none⟩ = some (.int .i64 ls[k].2.1) ∧ W.cell? ⟨b, o + k * 3 + 2, none⟩ = some (.slice A5 ls[k].2.2.length c5) ∧ W.cell? ⟨b3, o3 + j * 2, none⟩ = some (.int .i64 gs[j].1) ∧ W.cell? ⟨b3, o3 + j * 2 + 1, none⟩ = some (.slice A6 gs[j].2.length c6) ∧ W.cell? ⟨gb, p, none⟩ = some (.slice A7 B[p].length c7)) from fun W hW =>
                  ⟨hW, (hW.cell (p := ⟨b, o + k * 3 + 1, none⟩) hbl).trans k1', (hW.cell (p := ⟨b, o + k * 3 + 2, none⟩) hbl).trans k2', (hW.cell (p := ⟨b3, o3 + j * 2, none⟩) hb3l).trans f0, (hW.cell (p := ⟨b3, o3 + j * 2 + 1, none⟩) hb3l).trans f1, (hW.cell (p := ⟨gb, p, none⟩) hgl).trans r0⟩)
                obtain ⟨Rm, hRm⟩ : ∃ Rm, Rm = (matchL ls[k].2 gs[j] B[p]).getD [] := ⟨_, rfl⟩
                obtain ⟨ok, hok⟩ : ∃ ok, ok = (matchL ls[k].2 gs[j] B[p]).isSome := ⟨_, rfl⟩
                have HM := Lib.hid (show ∀ W, Below wr.heap.size wr W → Calls Tryz.prog 83 #[.agg #[.int .i64 ls[k].2.1, .slice A5 ls[k].2.2.length c5], .agg #[.int .i64 gs[j].1, .slice A6 gs[j].2.length c6], .slice A7 B[p].length c7] W fun e w' => ∃ A' c', e = .returned (.tuple #[.slice A' Rm.length c', .bool ok]) ∧ OwnInts w' wr.heap.size w'.heap.size (.slice A' Rm.length c') Rm ∧ Below wr.heap.size wr w' from fun W hW =>
                  (l3Match_n _ _ _ ls[k].2 gs[j] B[p] Rm ok hRm hok W hbok ⟨_, rfl, (HP3.out.below (bthen B1 hW) (by omega)).more (by have := hW.size; omega)⟩ ⟨_, rfl, (p6.below hW (by omega)).more (by have := hW.size; omega)⟩ ((o7.below hW (by omega)).rd.more (by have := hW.size; omega)) hta hcf (by omega) (by omega)).mono fun e w' ⟨A', c', he, ho, hb⟩ => ⟨A', c', he, ho.mono hW.size (Nat.le_refl _), bthen hW hb⟩)
                have HLE := Lib.hid (Nat.le_trans (nextTo_len (a := ls[k].2) (fs := gs) (j := j) hltp) HLN.out)
                have HMM := Lib.hid (And.intro hRm hok)
                clear p6 o7 hRm hok hcf hbok hb4 hln
                go_upto_region 16 with fail
                go_cut [12, 13] (fun s0 s1 wx => ∃ (Q : Option Addr) (f : Nat), s0 = .slice Q Rm.length f ∧ s1 = .bool ok ∧ OwnInts wx wr.heap.size wx.heap.size (.slice Q Rm.length f) Rm ∧ Below wr.heap.size wr wx)
                case first =>
                  clear k0 k1 k2 k1' k2' f0 f1 r0
                  go_region_held3 (fun W => Below wr.heap.size wr W ∧ W.cell? ⟨b, o + k * 3 + 1, none⟩ = some (.int .i64 ls[k].2.1) ∧ W.cell? ⟨b, o + k * 3 + 2, none⟩ = some (.slice A5 ls[k].2.2.length c5) ∧ W.cell? ⟨b3, o3 + j * 2, none⟩ = some (.int .i64 gs[j].1) ∧ W.cell? ⟨b3, o3 + j * 2 + 1, none⟩ = some (.slice A6 gs[j].2.length c6) ∧ W.cell? ⟨gb, p, none⟩ = some (.slice A7 B[p].length c7))
                    (first | exact HS.out _ (Below.refl _ _) | exact HS.out _ (Below.refl _ _).drew | exact HS.out _ (bthen (And.left (by assumption)) (by assumption)) | exact HS.out _ (by assumption))
                    (first
                      | (go_at_call 83; refine (HM.out _ (And.left (by assumption))).mono ?_; rintro e w_r ⟨Q, f, rfl, oo, hb_r⟩))
                  all_goals (go_wp2_with fail; go_meet; exact ⟨_, _, rfl, rfl, oo, hb_r⟩)
                case rest =>
                  obtain ⟨Q, f, rfl, rfl, oo, hb_r⟩ := hcut
                  clear HS HM k0 k1 k2 k1' k2' f0 f1 r0
                  generalize wc = w6 at *
                  have HOO := Lib.hid (And.intro oo hb_r)
                  clear oo hb_r
                  obtain ⟨hRm, hok⟩ := HMM.out
                  cases hm : matchL ls[k].2 gs[j] B[p] with
                  | none =>
                    rw [hm] at hok
                    have hokf : ok = false := hok
                    subst hokf
                    have HE := Lib.hid (nextTo_none hltj hltp hm)
                    clear hm hRm hok
                    go_wp2_with fail
                    go_roundw
                    case rel => exact ⟨j + 1, An, cn, av, by omega, by go_num, by rw [HE.out], by rw [HE.out]; exact HCO.out.on HOO.out.2⟩
                    case measure => simp [intOf]; omega
                  | some r =>
                    rw [hm] at hok hRm
                    have hokf : ok = true := hok
                    subst hokf
                    have hRr : Rm = r := hRm
                    subst hRr
                    have HE := Lib.hid (nextTo_some hltj hltp hm)
                    clear hm hRm hok
                    obtain ⟨zs, hzs⟩ : ∃ zs, zs = nextTo ls[k].2 gs B p j := ⟨_, rfl⟩
                    have hzl : zs.length ≤ 65536 := by rw [hzs]; exact HLE.out
                    rw [← hzs] at HCO HE ⊢
                    have HZ := Lib.hid hzs
                    clear hzs
                    go_wp2_with (at_builtin; refine wpList_append_lies _ rfl (.tmp 69) (.tmp 71) 27 rfl w1.heap.size 33 i0 (.slice none 0 0) 1 24 Tryz.underlying27 hi0 hz0 hz1 hz2 rfl (by decide) (.slice An zs.length cn) zs.length av rfl ?c1 ⟨_, 0, none⟩ 1 1 [.slice Q Rm.length f] rfl rfl (news1s _ _ _ _ (by simp)) ?c2 (by omega) (by unfold maxLen; omega) (by omega) ?c3 _ rfl ?_)
                    case c1 => exact (HCO.out.on HOO.out.2).row.alloc _
                    case c2 => intro u hu; simp at hu; subst hu; rfl
                    case c3 => have := HCO.out.below.size; have := HOO.out.2.size; simp; omega
                    intro g2 cap w8 hown hg _ _
                    obtain ⟨hcol, hlen⟩ := (HCO.out.on HOO.out.2).push HE.out (Below.refl _ _) (HOO.out.1.mono (by have := HCO.out.below.size; omega) (Nat.le_refl _)) hg hown
                    rw [hlen]
                    have HC2 := Lib.hid hcol
                    clear hcol hown hg
                    go_wp2_with fail
                    go_roundw
                    case rel => exact ⟨j + 1, _, _, _, by omega, by go_num, rfl, HC2.out⟩
                    case measure => simp [intOf]; omega
              · have HE := Lib.hid (show nextTo ls[k].2 gs B p j = nextTo ls[k].2 gs B (p + 1) 0 by rw [show j = gs.length by omega]; exact nextTo_row hltp)
                go_wp2_with fail
                go_roundw
                case rel => exact ⟨p + 1, An, cn, av, by omega, by go_num, by rw [HE.out], by rw [← HE.out]; exact HCO.out⟩
                case measure => simp [intOf]; omega
          · have HE := Lib.hid (show nextTo ls[k].2 gs B p 0 = bindsTo gs ls (k + 1) by rw [show p = B.length by omega, nextTo_end, HY.out])
            have HCOL := Lib.hid hcol
            have BW := bthen HAT.out.below hcol.below
            have HRE := Lib.hid (HAT.out.rest.on hcol.below)
            have hszA := HAT.out.below.size
            clear hcol
            go_wp2_with fail
            go_roundw
            case rel => exact ⟨k + 1, An, cn, Ar, cr, us, by omega, by go_num, by rw [HE.out], by rw [HRY.out], BW, by
              have := (HCOL.out.rows (Nat.le_refl _)).mono hszA (Nat.le_refl _)
              rw [HE.out] at this
              exact this, by rw [HRY.out]; exact HRE.out⟩
            case measure => simp [intOf]; omega
      · have hd : (ls[k].1 != 0) = true := by simp [h0]
        have HY := Lib.hid (bindsTo_no (fs := gs) hlt h0)
        have HRY := Lib.hid (restTo_no hlt h0)
        obtain ⟨zs, hzs⟩ : ∃ zs, zs = restTo ls k := ⟨_, rfl⟩
        have hzl : zs.length ≤ 1048576 := by rw [hzs]; omega
        have HRE := Lib.hid (show ColLR wA wr zs Ar cr us by rw [hzs]; exact HAT.out.rest)
        rw [← hzs] at HRY ⊢
        clear hzs
        go_wp2_with (at_builtin; refine wpList_append_lies _ rfl (.tmp 31) (.tmp 36) 24 rfl wA.heap.size 38 i1 (.agg #[.int .i64 0, .int .i64 0, .slice none 0 0]) 3 40 Tryz.underlying24 hi1 hy0 hy1 hy2 rfl (by decide) (.slice Ar zs.length cr) zs.length (flatR zs us) rfl ?c1 ⟨_, 0, none⟩ 1 1 [.int .i64 ls[k].1, .int .i64 ls[k].2.1, .slice A5 ls[k].2.2.length c5] rfl rfl (news3s _ _ _ _ _ _ (by simp)) ?c2 (by omega) (by unfold maxLen; omega) (by omega) ?c3 _ rfl ?_)
        case c1 => exact HRE.out.row.alloc _
        case c2 => intro u hu; simp at hu; rcases hu with rfl | rfl | rfl <;> rfl
        case c3 => have := HRE.out.below.size; simp; omega
        intro g2 cap w8 hown hg _ _
        obtain ⟨hcol, hlen⟩ := HRE.out.push HRY.out (Below.refl _ _) HP3.out hg hown
        rw [hlen]
        have HC2 := Lib.hid hcol
        have HB8 := Lib.hid (show WkRows w8 wA.heap.size w8.heap.size (.slice Ab (bindsTo gs ls k).length cb) (bindsTo gs ls k) from by
          have hg' := grown_from_alloc hg
          obtain ⟨av, ⟨a1, a2⟩, a3, a4⟩ := HAT.out.binds
          have hne : ∀ {v : Value} {n m : Nat} {e : TypeId} {xs : List Value} {lo : Nat}, wr.ownsRow lo e m v n xs → e ≠ 38 → ∀ q, v.ownBlock = some q → w8.heap[q]? = wr.heap[q]? := fun {v n m e xs lo} hv hne q hq => hg'.block q (hv.lt q hq).2 fun e2 => by
            rcases HRE.out.row.2 with ⟨e3, _⟩ | ⟨g1, c1, cur1, e3, _, h1, _⟩
            · rw [e3] at e2; cases e2
            · rw [e3] at e2
              have e4 : g1 = q := by simpa [Value.ownBlock] using e2.symm
              subst e4
              exact blk_ne_row hv (show Blk wr g1 38 cur1 from h1) hne hq
          exact ⟨av, ⟨a1, fun i x y => ((a2 i x y).kept (hne (a2 i x y).1 (by decide))).mono (Nat.le_refl _) hg'.size⟩, ownsRow_only a3 (hne a3 (by decide)), fun q hq => Nat.lt_of_lt_of_le (a4 q hq) hg'.size⟩)
        clear hcol hown hg
        go_wp2_with fail
        go_roundw
        case rel => exact ⟨k + 1, Ab, cb, _, _, _, by omega, by go_num, by rw [HY.out], rfl, HC2.out.below, by rw [HY.out]; exact HB8.out, HC2.out⟩
        case measure => simp [intOf]; omega
    · rename World => w1
      have hkn : k = ls.length := by omega
      subst hkn
      obtain ⟨B, hB⟩ : ∃ B, B = bindsTo gs ls ls.length := ⟨_, rfl⟩
      obtain ⟨rs, hrs⟩ : ∃ rs, rs = restTo ls ls.length := ⟨_, rfl⟩
      have HBB := Lib.hid (show WkRows w1 wA.heap.size w1.heap.size (.slice Ab B.length cb) B by rw [hB]; exact HAT.out.binds)
      have HRS := Lib.hid (show RdLits w1 w1.heap.size (.slice Ar rs.length cr) rs by rw [hrs]; exact HAT.out.rest.rd)
      have HBK := Lib.hid (show (∀ b ∈ B, bindOk b = true) ∧ B.length ≤ 65536 by rw [hB]; exact HOK.out _ (Nat.le_refl _))
      have hsub : ∀ l ∈ rs, l ∈ ls := fun l hl => by
        rw [hrs] at hl
        unfold restTo at hl
        rw [List.take_length] at hl
        exact (List.mem_filter.1 hl).1
      have HTR := Lib.hid (show ∀ l ∈ rs, l.2.2.all termOk = true from fun l hl => HT.out l (hsub l hl))
      have htr : totL rs ≤ totL ls := by
        have : rs.Sublist ls := by
          rw [hrs]
          unfold restTo
          rw [List.take_length]
          exact List.filter_sublist
        exact totL_sub this
      have hrn : rs.length ≤ 1048576 := by rw [hrs]; omega
      have HRR := Lib.hid (show R = triedTo gs rs B B.length by rw [HR.out, hrs, hB]; rfl)
      have hbn := HBK.out.2
      have HO1 := Lib.hid ((HO0.out.below HAT.out.below (by have := HSA.out; omega)).mono (lo' := w.heap.size) (hi' := w1.heap.size) (Nat.le_refl _) (by have := HSA.out; have := HAT.out.below.size; omega))
      rw [← hB, ← hrs]
      clear hB hrs hsub hrl
      go_wp2_with fail
      go_loopw [5, 14] (fun vo vk wr => ∃ (k : Nat) (Ao : Option Addr) (co : Nat), k ≤ B.length ∧ vk = .int .i64 k ∧ vo = .slice Ao (triedTo gs rs B k).length co ∧ WkRows wr w.heap.size wr.heap.size (.slice Ao (triedTo gs rs B k).length co) (triedTo gs rs B k) ∧ Below w1.heap.size w1 wr) (fun _ vk _ => B.length - (intOf vk).toNat)
      case atStart => exact ⟨0, _, 0, Nat.zero_le _, rfl, rfl, HO1.out, Below.refl _ _⟩
      case round =>
        obtain ⟨q, Ao, co, hq, rfl, rfl, hout, hbe⟩ := hrel
        have hszA := HAT.out.below.size
        have hsz := hbe.size
        by_cases hltq : q < B.length
        · obtain ⟨gb, A7, c7, rfl, hgb, r0, o7⟩ := (HBB.out.below hbe (Nat.le_refl _)).get hltq
          have hbok := HBK.out.1 _ (List.getElem_mem hltq)
          have HB4 := Lib.hid (bindOk_len hbok)
          have hb4l : B[q].length ≤ 1048576 := by have := HB4.out; omega
          obtain ⟨bo, hbo⟩ : ∃ bo, bo = (rs.all fun l => litHolds gs l B[q]) := ⟨_, rfl⟩
          have CT := Lib.hid (l3Try_any (.slice A gs.length c) (.slice Ar rs.length cr) (.slice A7 B[q].length c7) gs rs B[q] bo hbo wr (H.out.on (bthen HAT.out.below hbe)) (HRS.out.on hbe) (o7.rd.more (by omega)) HB4.out HTR.out hn ht hrn (by omega))
          obtain ⟨T, hTe⟩ : ∃ T, T = triedTo gs rs B q := ⟨_, rfl⟩
          have hTn : T.length ≤ 65536 := by
            have hup := (triedTo_is gs rs B q hq).1
            rw [hTe]
            exact binds_len hup.nodup fun b hb => HBK.out.1 b (triedTo_sub hq b hb)
          have hTl : ∀ s ∈ T, s.length ≤ 1048576 := fun s hs => by
            rw [hTe] at hs
            rw [bindOk_len (HBK.out.1 s (triedTo_sub hq s hs))]
            decide
          have HOUT := Lib.hid (show WkRows wr w.heap.size wr.heap.size (.slice Ao T.length co) T by rw [hTe]; exact hout)
          have HO7 := Lib.hid (show OwnInts wr w.heap.size wr.heap.size (.slice A7 B[q].length c7) B[q] from o7.mono (by omega) (by omega))
          have HBE := Lib.hid hbe
          have HTL := Lib.hid hTl
          have HTE := Lib.hid hTe
          rw [← hTe]
          clear o7 hbe hout hTl hTe hbok
          cases bo
          · have HE := Lib.hid (triedTo_no hltq hbo.symm)
            clear hbo
            go_wp2_with (go_at_call 84; refine CT.out.mono ?_; rintro e w2 ⟨rfl, hb2⟩; have HB2 := Lib.hid hb2; clear hb2)
            go_roundw
            case rel => exact ⟨q + 1, Ao, co, by omega, by go_num, by rw [HE.out, HTE.out], by rw [HE.out, ← HTE.out]; exact (HOUT.out.below HB2.out (Nat.le_refl _)).mono (Nat.le_refl _) HB2.out.size, bthen HBE.out HB2.out⟩
            case measure => simp [intOf]; omega
          · have HE := Lib.hid (triedTo_yes hltq hbo.symm)
            clear hbo
            obtain ⟨T2, hT2⟩ : ∃ T2, T2 = putB T B[q] := ⟨_, rfl⟩
            have HT2 := Lib.hid hT2
            have HPUT := Lib.hid (show ∀ W, Below wr.heap.size wr W → Calls Tryz.prog 85 #[.slice Ao T.length co, .slice A7 B[q].length c7] W fun e w' => ∃ A c, e = .returned (.slice A T2.length c) ∧ WkRows w' w.heap.size w'.heap.size (.slice A T2.length c) T2 ∧ Below W.heap.size W w' from fun W hW =>
              l3Put_any _ _ T B[q] T2 hT2 w.heap.size wr.heap.size W (HOUT.out.below hW (Nat.le_refl _)) (HO7.out.below hW (Nat.le_refl _)) hW.size (by have := hW.size; omega) (by omega) HTL.out (by omega))
            clear hT2
            have r0' : ∀ W, Below wr.heap.size wr W → W.cell? ⟨gb, q, none⟩ = some (.slice A7 B[q].length c7) := fun W hW => (hW.cell (p := ⟨gb, q, none⟩) hgb).trans r0
            have HR0 := Lib.hid r0'
            clear r0'
            go_wp2_with (first
              | (go_at_call 84; refine CT.out.mono ?_; rintro e w2 ⟨rfl, hb2⟩
                 have r2 := HR0.out w2 hb2
                 have HB2 := Lib.hid hb2
                 clear hb2)
              | (go_at_call 85; refine (HPUT.out _ HB2.out).mono ?_; rintro e w3 ⟨A8, c8, rfl, o8, b8⟩
                 have HO8 := Lib.hid (And.intro o8 b8)
                 clear o8 b8))
            go_roundw
            case rel => exact ⟨q + 1, A8, c8, by omega, by go_num, by rw [HE.out, ← HTE.out, ← HT2.out], by rw [HE.out, ← HTE.out, ← HT2.out]; exact HO8.out.1, bthen HBE.out (bthen HB2.out HO8.out.2)⟩
            case measure => simp [intOf]; omega
        · have HF := Lib.hid (show WkRows wr w.heap.size wr.heap.size (.slice Ao R.length co) R ∧ triedTo gs rs B q = R by
            have : q = B.length := by omega
            rw [this] at hout ⊢
            rw [HRR.out]
            exact ⟨hout, rfl⟩)
          have HBE := Lib.hid (bthen hBA.out (bthen HAT.out.below hbe))
          rw [HF.out.2]
          clear hout hbe
          go_wp2_with fail
          go_ret
          exact ⟨_, _, rfl, HF.out.1, HBE.out⟩

end Go.Proofs.YtofkcmihcgmmpaaGreat
/-
  Rows of slices of integers as results of laws: compared, marked, held.
-/
namespace Go.Proofs.YtofkcmihcgmmpaaGreat
open Go.RowKit

def totSS (xss : List (List Int)) : Nat := (xss.map List.length).sum
def szRows (xss : List (List Int)) : Nat := xss.length + totSS xss
theorem totSS_at : ∀ (xss : List (List Int)) (k : Nat) (h : k < xss.length), xss[k].length ≤ totSS xss
  | x :: xss, 0, _ => by simp [totSS]
  | x :: xss, k + 1, h => by
    have := totSS_at xss k (by simpa using h)
    simp only [totSS, List.map_cons, List.sum_cons, List.getElem_cons_succ] at this ⊢
    omega
theorem totSS_take (xss : List (List Int)) (k : Nat) (h : k < xss.length) : totSS (xss.take (k + 1)) = totSS (xss.take k) + xss[k].length := by
  unfold totSS
  rw [take_snoc xss k h, List.map_append, List.sum_append]
  simp
theorem totSS_take_le : ∀ (xss : List (List Int)) (k : Nat), totSS (xss.take k) ≤ totSS xss
  | [], k => by simp
  | x :: xss, 0 => by simp [totSS]
  | x :: xss, k + 1 => by
    have := totSS_take_le xss k
    simp only [totSS, List.take_succ_cons, List.map_cons, List.sum_cons] at this ⊢
    omega
theorem totSS_few {xss : List (List Int)} {n m : Nat} (hn : xss.length ≤ n) (hm : ∀ x ∈ xss, x.length ≤ m) : totSS xss ≤ n * m := by
  have key : ∀ (l : List (List Int)), (∀ x ∈ l, x.length ≤ m) → totSS l ≤ l.length * m := by
    intro l
    induction l with
    | nil => intro _; simp [totSS]
    | cons x l ih =>
      intro h
      have h1 := h x List.mem_cons_self
      have h2 := ih fun y hy => h y (List.mem_cons_of_mem _ hy)
      simp only [totSS, List.map_cons, List.sum_cons, List.length_cons, Nat.add_mul] at h2 ⊢
      omega
  exact Nat.le_trans (key xss hm) (Nat.mul_le_mul_right m hn)

/-- The rows that marks from k on leave. -/
def markR : Int → List (List Int) → List (List Int)
  | _, [] => []
  | k, x :: xs => seqI k x.length :: markR (k + (x.length : Int)) xs
theorem markR_length : ∀ (k : Int) (xs : List (List Int)), (markR k xs).length = xs.length
  | _, [] => rfl
  | k, x :: xs => by simp [markR, markR_length _ xs]
theorem markR_snoc : ∀ (k : Int) (xs : List (List Int)) (x : List Int), markR k (xs ++ [x]) = markR k xs ++ [seqI (k + (totSS xs : Int)) x.length]
  | k, [], x => by simp [markR, totSS]
  | k, y :: xs, x => by
    have h := markR_snoc (k + (y.length : Int)) xs x
    have e : k + (y.length : Int) + (totSS xs : Int) = k + (totSS (y :: xs) : Int) := by simp [totSS]; omega
    rw [e] at h
    simp [markR, h]
theorem markR_at {xss : List (List Int)} {k : Int} {j : Nat} (h : j < xss.length) (h' : j < (markR k xss).length) : (markR k xss)[j] = seqI (k + (totSS (xss.take j) : Int)) xss[j].length := by
  have hp : ∀ (xs ys : List (List Int)) (k : Int), ∃ zs, markR k (xs ++ ys) = markR k xs ++ zs := by
    intro xs
    induction xs with
    | nil => intro ys k; exact ⟨_, rfl⟩
    | cons x xs ih =>
      intro ys k
      obtain ⟨zs, hz⟩ := ih ys (k + (x.length : Int))
      exact ⟨zs, by simp [markR, hz]⟩
  have e : xss = xss.take (j + 1) ++ xss.drop (j + 1) := (List.take_append_drop _ _).symm
  have hl : (markR k (xss.take j)).length = j := by rw [markR_length]; simp; omega
  obtain ⟨zs, hz⟩ := hp (xss.take (j + 1)) (xss.drop (j + 1)) k
  rw [← e, take_snoc xss j h, markR_snoc] at hz
  have : (markR k xss)[j]? = some (seqI (k + (totSS (xss.take j) : Int)) xss[j].length) := by
    rw [hz, List.append_assoc, List.getElem?_append_right (by omega), hl]
    simp
  rw [List.getElem?_eq_getElem h'] at this
  exact Option.some.inj this
/-- The first j are marked. -/
def markedR (xss : List (List Int)) (k : Int) (j : Nat) : List (List Int) := markR k (xss.take j) ++ xss.drop j
theorem markedR_step {xss : List (List Int)} {k : Int} {j : Nat} (h : j < xss.length) : (markedR xss k j).set j (seqI (k + (totSS (xss.take j) : Int)) xss[j].length) = markedR xss k (j + 1) := by
  have hl : (markR k (xss.take j)).length = j := by rw [markR_length]; simp; omega
  unfold markedR
  rw [List.drop_eq_getElem_cons h, List.set_append_right _ _ (by omega), hl, Nat.sub_self, List.set_cons_zero, take_snoc xss j h, markR_snoc]
  simp
theorem markedR_at {xss : List (List Int)} {k : Int} {j : Nat} (h : j < xss.length) (h' : j < (markedR xss k j).length) : (markedR xss k j)[j] = xss[j] := by
  have hl : (markR k (xss.take j)).length = j := by rw [markR_length]; simp; omega
  have e : (markedR xss k j)[j]? = some xss[j] := by
    unfold markedR
    rw [List.getElem?_append_right (by omega), hl]
    simp [h]
  rw [List.getElem?_eq_getElem h'] at e
  exact Option.some.inj e
theorem markedR_length {xss : List (List Int)} {k : Int} {j : Nat} (h : j ≤ xss.length) : (markedR xss k j).length = xss.length := by simp [markedR, markR_length]; omega

/-- A row of slices of the call's own, the slices named. -/
structure OwnRA (w : World) (lo hi : Nat) (v : Value) (xss : List (List Int)) (av : List Value) : Prop where
  args : OwnArgs w lo hi av xss
  row : w.ownsRow lo 33 1 v xss.length av
  lt : ∀ g, v.ownBlock = some g → g < hi
theorem OwnRA.step {w w3 : World} {lo hi j : Nat} {v : Value} {xss : List (List Int)} {av : List Value} {ys : List Int} (h : OwnRA w lo hi v xss av) (hj : j < xss.length) (hja : j < av.length)
    (hI : OwnInts w3 lo hi av[j] ys) (hg : w.grownBy w3 av[j].ownBlock) : OwnRA w3 lo hi v (xss.set j ys) av := by
  obtain ⟨ha, hr, hlt⟩ := h
  have hlen := ha.len
  have hapart : ∀ i i' (hi' : i < av.length) (hi'' : i' < av.length), i ≠ i' → ∀ b, av[i].ownBlock = some b → av[i'].ownBlock ≠ some b := by
    intro i i' h1 h2 hne b hb hb'
    have hp := List.pairwise_iff_getElem.1 ha.apart
    rcases Nat.lt_or_gt_of_ne hne with hl | hl
    · exact hp i i' h1 h2 hl b hb hb'
    · exact hp i' i h2 h1 hl b hb' hb
  refine ⟨⟨by simp [hlen], fun i h1 h2 => ?_, ha.apart⟩, ?_, hlt⟩
  · by_cases e : i = j
    · subst e
      simpa using hI
    · have h0 := ha.own i (by simpa using h1) h2
      rw [List.getElem_set_ne (Ne.symm e)]
      exact h0.kept fun b hb => hg.block b (h0.lt hb).2.2 fun e2 => hapart i j h2 hja e b hb e2.symm
  · rw [List.length_set]
    exact ownsRow_only hr fun b hb => hg.block b (hr.lt b hb).2 fun e2 => rowsI_ne hr hb (ha.own j hj hja) e2.symm

/-- The marks from k on stand in a row of slices, and end at z. -/
def HdRows (w : World) (lo hi : Nat) (v : Value) (xss : List (List Int)) (k z : Int) : Prop := OwnRows w lo hi v (markR k xss) ∧ z = k + (totSS xss : Int) ∧ 0 ≤ k ∧ k ≤ 4294967296 ∧ szRows xss ≤ 1073741824
theorem HdRows.below {w w' : World} {lo hi B : Nat} {v : Value} {xss : List (List Int)} {k z : Int} (h : HdRows w lo hi v xss k z) (hb : Below B w w') (hB : hi ≤ B) : HdRows w' lo hi v xss k z := ⟨h.1.below hb hB, h.2⟩
theorem HdRows.only {w w' : World} {lo hi lo' hi' : Nat} {v : Value} {xss : List (List Int)} {k z : Int} (h : HdRows w lo hi v xss k z) (ho : Only lo' hi' w w') (hd : hi ≤ lo' ∨ hi' ≤ lo) : HdRows w' lo hi v xss k z := ⟨h.1.only ho hd, h.2⟩

end Go.Proofs.YtofkcmihcgmmpaaGreat
/-
  The specification's Solutions.
-/
namespace Go.Proofs.YtofkcmihcgmmpaaGreat
open Go.RowKit

theorem solsL_sz (fs : List LFact) (ls : List LLit) : szRows (solsL fs ls) ≤ 1048576 := by
  unfold solsL
  split
  · rename_i h
    rw [Bool.and_eq_true] at h
    have hc' := consts_of h.2
    obtain ⟨_, h2⟩ := solsOf_is (fs := fs) (gs := setOf fs) (SafeB.of h.1) (fun f hf => hc' f ((setOf_mem fs f).1 hf)) (asc_nodup (setOf_asc fs)) (setOf_mem fs)
    have hl := binds_len h2.1 h2.ok
    have ht := totSS_few hl (m := 4) fun b hb => by rw [bindOk_len (h2.ok b hb)]; exact Nat.le_refl _
    unfold szRows
    omega
  · simp [szRows, totSS]
theorem WkRows.none (w : World) (lo hi : Nat) : WkRows w lo hi (.slice none 0 0) [] := ⟨[], ⟨rfl, fun i h => absurd h (by simp)⟩, World.ownsRow_nil _ _ _ _, fun g hg => by cases hg⟩

end Go.Proofs.YtofkcmihcgmmpaaGreat
/-
  The specification's l4Of, l4All: the heads of rules.
-/
namespace Go.Proofs.YtofkcmihcgmmpaaGreat
open Go.RowKit

/-- The heads for the first k lists. -/
def headsTo (a : LFact) (S : List (List Int)) : Nat → List LFact
  | 0 => []
  | k + 1 => if headOk a (S.getD k []) then factsWith (headsTo a S k) (headOf a (S.getD k [])) else headsTo a S k
theorem headsTo_yes {a : LFact} {S : List (List Int)} {k : Nat} (h : k < S.length) (e : headOk a S[k] = true) : headsTo a S (k + 1) = factsWith (headsTo a S k) (headOf a S[k]) := by
  have hd : S.getD k [] = S[k] := by simp [h]
  show (if _ then _ else _) = _
  rw [hd, if_pos e]
theorem headsTo_no {a : LFact} {S : List (List Int)} {k : Nat} (h : k < S.length) (e : headOk a S[k] = false) : headsTo a S (k + 1) = headsTo a S k := by
  have hd : S.getD k [] = S[k] := by simp [h]
  show (if _ then _ else _) = _
  rw [hd, if_neg (by rw [e]; simp)]
theorem headsTo_bound {a : LFact} {S : List (List Int)} (ha : a.2.length ≤ 2) : ∀ k, (headsTo a S k).length ≤ k ∧ tot (headsTo a S k) ≤ k * 2
  | 0 => ⟨Nat.le_refl _, Nat.le_refl _⟩
  | k + 1 => by
    have ih := headsTo_bound (S := S) ha k
    show List.length (if _ then _ else _) ≤ _ ∧ tot (if _ then _ else _) ≤ _
    split
    · have hb := factsWith_bound (headsTo a S k) (headOf a (S.getD k []))
      have hl := headOf_length a (S.getD k [])
      omega
    · omega
/-- The heads of a rule. -/
def headsL (r : LRule) (gs : List LFact) : List LFact := headsTo r.1 (solsOf gs r.2) (solsOf gs r.2).length

end Go.Proofs.YtofkcmihcgmmpaaGreat
/-
  The walks of FactsOf: the program's and the specification's.
-/
namespace Go.Proofs.YtofkcmihcgmmpaaGreat
open Go.RowKit

def factsOf (fs : List LFact) (p : Int) : List LFact := fs.filter fun f => f.1 == p
theorem factsOf_yes {fs : List LFact} {p : Int} {k : Nat} (h : k < fs.length) (e : fs[k].1 = p) : factsOf (fs.take (k + 1)) p = factsOf (fs.take k) p ++ [fs[k]] := by
  unfold factsOf
  rw [take_snoc fs k h, List.filter_append]
  congr 1
  simp [e]
theorem factsOf_no {fs : List LFact} {p : Int} {k : Nat} (h : k < fs.length) (e : fs[k].1 ≠ p) : factsOf (fs.take (k + 1)) p = factsOf (fs.take k) p := by
  unfold factsOf
  rw [take_snoc fs k h, List.filter_append, List.filter_cons_of_neg (by simpa using e)]
  simp
theorem factsOf_length (fs : List LFact) (p : Int) (k : Nat) : (factsOf (fs.take k) p).length ≤ k := by
  have h1 := List.length_filter_le (fun f : LFact => f.1 == p) (fs.take k)
  have h2 : (fs.take k).length ≤ k := by rw [List.length_take]; omega
  unfold factsOf
  omega

end Go.Proofs.YtofkcmihcgmmpaaGreat
/-
  What FactsWith and FactsOf leave, plain mathematics.
-/
namespace Go.Proofs.YtofkcmihcgmmpaaGreat
open Go.RowKit

theorem withStep_mem (f : LFact) : ∀ (l : List LFact) (out : List LFact) (b : Bool), (b = true → f ∈ out) → ∀ x, x ∈ endW f (l.foldl (withStep f) (out, b)) ↔ x ∈ out ∨ x ∈ l ∨ x = f
  | [], out, b, hb, x => by
    cases b
    · simp [endW]
    · have := hb rfl
      simp only [List.foldl_nil, endW, if_true, List.not_mem_nil, false_or]
      constructor
      · exact .inl
      · rintro (h | rfl) <;> assumption
  | g :: l, out, b, hb, x => by
    rw [List.foldl_cons]
    have e : withStep f (out, b) g = ((withStep f (out, b) g).1, (withStep f (out, b) g).2) := rfl
    rw [e, withStep_mem f l _ _ ?_ x]
    · unfold withStep
      cases b
      · rcases Int.lt_trichotomy (factOrder f g) 0 with h1 | h1 | h1
        · simp [show factOrder f g ≤ 0 by omega, show factOrder f g ≠ 0 by omega]
          grind
        · have e2 := order_eq h1
          subst e2
          simp [order_refl]
          grind
        · simp [show ¬ factOrder f g ≤ 0 by omega, show factOrder f g ≠ 0 by omega]
          grind
      · have hf := hb rfl
        by_cases h1 : factOrder f g = 0
        · have e2 := order_eq h1
          subst e2
          simp [order_refl]
          grind
        · simp [h1]
          grind
    · intro hb2
      unfold withStep at hb2 ⊢
      cases b
      · have h1 : factOrder f g ≤ 0 := by simpa using hb2
        simp [h1]
      · exact List.mem_append_left _ (by simpa using hb rfl)
theorem factsWith_mem (fs : List LFact) (f x : LFact) : x ∈ factsWith fs f ↔ x ∈ fs ∨ x = f := by
  have := withStep_mem f fs [] false (by simp) x
  unfold endW at this
  unfold factsWith withTo
  rw [List.take_length]
  simpa using this
theorem has_mem (ys : List LFact) (f : LFact) : factsHas ys f = decide (f ∈ ys) := by
  unfold factsHas
  by_cases h : f ∈ ys
  · rw [decide_eq_true h]
    exact List.any_eq_true.2 ⟨f, h, by rw [order_refl]; rfl⟩
  · rw [decide_eq_false h]
    refine List.any_eq_false.2 fun g hg e => h ?_
    have e0 : factOrder g f = 0 := by simpa using e
    rw [← order_eq e0]
    exact hg
theorem with_has_new (fs : List LFact) (f : LFact) : factsHas (factsWith fs f) f = true := by
  rw [has_mem]
  exact decide_eq_true ((factsWith_mem fs f f).2 (.inr rfl))
theorem with_has_old (fs : List LFact) (f : LFact) {k : Nat} (h : k < fs.length) : factsHas (factsWith fs f) fs[k] = true := by
  rw [has_mem]
  exact decide_eq_true ((factsWith_mem fs f _).2 (.inl (List.getElem_mem h)))
theorem factsOf_few (fs : List LFact) (p : Int) : (factsOf fs p).length ≤ fs.length ∧ tot (factsOf fs p) ≤ tot fs := by
  refine ⟨List.length_filter_le _ _, ?_⟩
  unfold factsOf
  induction fs with
  | nil => simp
  | cons g fs ih =>
    rw [List.filter_cons, tot_cons]
    split
    · rw [tot_cons]; omega
    · omega

end Go.Proofs.YtofkcmihcgmmpaaGreat
/-
  The heads of all rules: how many they are, and the specification's l4All.
-/
namespace Go.Proofs.YtofkcmihcgmmpaaGreat
open Go.RowKit

theorem place_short {ar : List Int} {p : Int} {n : Nat} (ha : arityOk ar = true) (h : 0 ≤ p ∧ p < ar.length ∧ (n : Int) = ar.getD p.toNat 0) : n ≤ 2 := by
  obtain ⟨h0, h1, h2⟩ := h
  simp only [arityOk, Bool.and_eq_true, List.all_eq_true] at ha
  have hlt : p.toNat < ar.length := by omega
  have hp := ha.2 _ (List.getElem_mem hlt)
  simp only [placeOk, decide_eq_true_eq] at hp
  have hd : ar.getD p.toNat 0 = ar[p.toNat] := by simp [hlt]
  rw [hd] at h2
  omega
theorem fits_parts {ar : List Int} {f : LFact} (h : factFits ar f = true) : (0 ≤ f.1 ∧ f.1 < ar.length ∧ (f.2.length : Int) = ar.getD f.1.toNat 0) ∧ f.2.all constOk = true := by
  simp only [factFits, Bool.and_eq_true, decide_eq_true_eq] at h
  exact h
theorem fits_short {ar : List Int} {f : LFact} (ha : arityOk ar = true) (h : factFits ar f = true) : f.2.length ≤ 2 := place_short ha (fits_parts h).1
/-- A fact's number. -/
def encF (f : LFact) : Nat := f.1.toNat * 64 + (match f.2 with | [] => 0 | [x] => x.toNat + 1 | x :: y :: _ => x.toNat + 1 + 7 * (y.toNat + 1))
theorem const_range {x : Int} (h : constOk x = true) : 0 ≤ x ∧ x ≤ 5 := by simpa [constOk] using h
theorem encF_lt {ar : List Int} {f : LFact} (ha : arityOk ar = true) (h : factFits ar f = true) : encF f < 1536 := by
  have hs := fits_short ha h
  obtain ⟨⟨h0, h1, _⟩, h2⟩ := fits_parts h
  have hl : ar.length ≤ 24 := by simp only [arityOk, Bool.and_eq_true, decide_eq_true_eq] at ha; exact ha.1
  obtain ⟨p, xs⟩ := f
  rcases xs with _ | ⟨x, _ | ⟨y, _ | ⟨z, xs⟩⟩⟩
  · simp only [encF] at *; omega
  · simp only [List.all_cons, Bool.and_eq_true] at h2
    have := const_range h2.1
    simp only [encF] at *; omega
  · simp only [List.all_cons, Bool.and_eq_true] at h2
    have := const_range h2.1
    have := const_range h2.2.1
    simp only [encF] at *; omega
  · simp at hs
theorem split64 {a b c d : Nat} (e : a * 64 + c = b * 64 + d) (hc : c < 64) (hd : d < 64) : a = b ∧ c = d := by omega
theorem split7 {a b c d : Nat} (e : a + 1 + 7 * (c + 1) = b + 1 + 7 * (d + 1)) (ha : a < 6) (hb : b < 6) : a = b ∧ c = d := by omega
theorem encF_inj {ar : List Int} {f g : LFact} (ha : arityOk ar = true) (hf : factFits ar f = true) (hg : factFits ar g = true) (e : encF f = encF g) : f = g := by
  have hs := fits_short ha hf
  have hs' := fits_short ha hg
  obtain ⟨⟨h0, _, _⟩, h2⟩ := fits_parts hf
  obtain ⟨⟨h0', _, _⟩, h2'⟩ := fits_parts hg
  obtain ⟨p, xs⟩ := f
  obtain ⟨q, ys⟩ := g
  rcases xs with _ | ⟨x, _ | ⟨y, _ | ⟨z, xs⟩⟩⟩ <;> rcases ys with _ | ⟨x', _ | ⟨y', _ | ⟨z', ys⟩⟩⟩ <;> (try (simp at hs; done)) <;> (try (simp at hs'; done)) <;>
    simp only [List.all_cons, List.all_nil, Bool.and_eq_true, and_true] at h2 h2' <;> simp only [encF] at e h0 h0'
  · obtain ⟨e1, _⟩ := split64 e (by omega) (by omega); simp; omega
  · have := const_range h2'; obtain ⟨_, e2⟩ := split64 e (by omega) (by omega); omega
  · have := const_range h2'.1; have := const_range h2'.2; obtain ⟨_, e2⟩ := split64 e (by omega) (by omega); omega
  · have := const_range h2; obtain ⟨_, e2⟩ := split64 e (by omega) (by omega); omega
  · have := const_range h2; have := const_range h2'; obtain ⟨e1, e2⟩ := split64 e (by omega) (by omega); simp; omega
  · have := const_range h2; have := const_range h2'.1; have := const_range h2'.2; obtain ⟨_, e2⟩ := split64 e (by omega) (by omega); omega
  · have := const_range h2.1; have := const_range h2.2; obtain ⟨_, e2⟩ := split64 e (by omega) (by omega); omega
  · have := const_range h2.1; have := const_range h2.2; have := const_range h2'; obtain ⟨_, e2⟩ := split64 e (by omega) (by omega); omega
  · have := const_range h2.1; have := const_range h2.2; have := const_range h2'.1; have := const_range h2'.2
    obtain ⟨e1, e2⟩ := split64 e (by omega) (by omega)
    obtain ⟨e3, e4⟩ := split7 e2 (by omega) (by omega)
    simp; omega
theorem tot_short : ∀ {l : List LFact}, (∀ f ∈ l, f.2.length ≤ 2) → tot l ≤ l.length * 2
  | [], _ => by simp [tot]
  | f :: l, h => by
    have h1 := h f (List.mem_cons_self ..)
    have h2 := tot_short fun g hg => h g (List.mem_cons_of_mem _ hg)
    rw [tot_cons, List.length_cons]
    omega
/-- Facts that fit, no two alike: few. -/
theorem facts_few {ar : List Int} {l : List LFact} (ha : arityOk ar = true) (hn : l.Nodup) (h : ∀ f ∈ l, factFits ar f = true) : l.length ≤ 1536 ∧ tot l ≤ 3072 := by
  have h1 := nodup_len 1536 (l.map encF) (by
    unfold List.Nodup
    rw [List.pairwise_map]
    exact List.Pairwise.imp_of_mem (fun {a b} hx hy hne e => hne (encF_inj ha (h a hx) (h b hy) e)) hn) fun x hx => by
      obtain ⟨b, hb, rfl⟩ := List.mem_map.1 hx
      exact encF_lt ha (h b hb)
  rw [List.length_map] at h1
  have h2 := tot_short fun f hf => fits_short ha (h f hf)
  omega

theorem headOf_fits {ar : List Int} {a : LFact} {bs : List Int} (ha : atomFits ar a = true) (e : headOk a bs = true) : factFits ar (headOf a bs) = true := by
  rw [headOf_yes e]
  simp only [atomFits, Bool.and_eq_true, decide_eq_true_eq] at ha
  simp only [headOk, Bool.and_eq_true] at e
  simp only [factFits, Bool.and_eq_true, decide_eq_true_eq, List.length_map]
  exact ⟨ha.1, e.2⟩
theorem headsTo_asc (a : LFact) (S : List (List Int)) : ∀ k, Asc (headsTo a S k)
  | 0 => List.Pairwise.nil
  | k + 1 => by
    have ih := headsTo_asc a S k
    show Asc (if _ then _ else _)
    split
    · exact (foldWith [headOf a (S.getD k [])] _ ih).1
    · exact ih
theorem headsTo_fits {ar : List Int} {a : LFact} {S : List (List Int)} (ha : atomFits ar a = true) : ∀ k, ∀ f ∈ headsTo a S k, factFits ar f = true
  | 0 => fun f hf => by cases hf
  | k + 1 => by
    have ih := headsTo_fits (S := S) ha k
    intro f hf
    have hf : f ∈ (if headOk a (S.getD k []) then factsWith (headsTo a S k) (headOf a (S.getD k [])) else headsTo a S k) := hf
    split at hf
    · rename_i e
      rcases (factsWith_mem _ _ _).1 hf with h | rfl
      · exact ih f h
      · exact headOf_fits ha e
    · exact ih f hf
theorem headsL_fits {ar : List Int} {r : LRule} (gs : List LFact) (h : ruleFits ar r = true) : ∀ f ∈ headsL r gs, factFits ar f = true := by
  simp only [ruleFits, Bool.and_eq_true] at h
  exact headsTo_fits h.1 _
theorem headsL_few {ar : List Int} {r : LRule} (gs : List LFact) (ha : arityOk ar = true) (h : ruleFits ar r = true) : (headsL r gs).length ≤ 1536 ∧ tot (headsL r gs) ≤ 3072 :=
  facts_few ha (asc_nodup (headsTo_asc _ _ _)) (headsL_fits gs h)
/-- The heads of rules. -/
def headsAll (rs : List LRule) (gs : List LFact) : List LFact := setOf (rs.flatMap fun r => headsL r gs)
theorem setOf_more (xs ys : List LFact) : setOf (setOf xs ++ ys) = setOf (xs ++ ys) :=
  (setOf_asc _).unique (setOf_asc _) fun f => by rw [setOf_mem, setOf_mem, List.mem_append, List.mem_append, setOf_mem]
theorem headsAll_snoc (rs : List LRule) (gs : List LFact) (k : Nat) (h : k < rs.length) : headsAll (rs.take (k + 1)) gs = setOf (headsAll (rs.take k) gs ++ headsL rs[k] gs) := by
  unfold headsAll
  rw [take_snoc rs k h, List.flatMap_append, setOf_more]
  simp
theorem headsAll_fits {ar : List Int} {rs : List LRule} (gs : List LFact) (h : ∀ r ∈ rs, ruleFits ar r = true) : ∀ f ∈ headsAll rs gs, factFits ar f = true := by
  intro f hf
  obtain ⟨r, hr, hm⟩ := List.mem_flatMap.1 ((setOf_mem _ _).1 hf)
  exact headsL_fits gs (h r hr) f hm
theorem headsAll_few {ar : List Int} {rs : List LRule} (gs : List LFact) (ha : arityOk ar = true) (h : ∀ r ∈ rs, ruleFits ar r = true) : (headsAll rs gs).length ≤ 1536 ∧ tot (headsAll rs gs) ≤ 3072 :=
  facts_few ha (asc_nodup (setOf_asc _)) (headsAll_fits gs h)
theorem lit_terms {ar : List Int} {l : LLit} (h : litFits ar l = true) : l.2.2.all termOk = true := by
  unfold litFits at h
  split at h
  · simp only [atomFits, Bool.and_eq_true] at h; exact h.2
  · split at h
    · simp only [Bool.and_eq_true] at h; exact h.2
    · cases h

end Go.Proofs.YtofkcmihcgmmpaaGreat
/-
  The specification's l1Pick, FactsBoth and FactsLess.
-/
namespace Go.Proofs.YtofkcmihcgmmpaaGreat
open Go.RowKit

theorem filter_tot_le (p : LFact → Bool) : ∀ l : List LFact, tot (l.filter p) ≤ tot l
  | [] => by simp [tot]
  | f :: l => by
    have := filter_tot_le p l
    by_cases h : p f = true <;> simp [h, tot_cons] <;> omega

/-- The facts of a list that another has, or has not. -/
def pickL (xs ys : List LFact) (b : Bool) : List LFact := setOf (xs.filter fun f => factsHas ys f == b)
theorem pickL_bound (xs ys : List LFact) (b : Bool) : (pickL xs ys b).length ≤ xs.length ∧ tot (pickL xs ys b) ≤ tot xs := by
  have h := setOf_bound (xs.filter fun f => factsHas ys f == b)
  have h1 := List.length_filter_le (fun f => factsHas ys f == b) xs
  have h2 := filter_tot_le (fun f => factsHas ys f == b) xs
  unfold pickL
  omega
theorem pickL_yes {xs ys : List LFact} {b : Bool} {k : Nat} (h : k < xs.length) (e : factsHas ys xs[k] = b) : pickL (xs.take (k + 1)) ys b = factsWith (pickL (xs.take k) ys b) xs[k] := by
  unfold pickL
  rw [take_snoc xs k h, List.filter_append, ← setOf_snoc]
  simp [e]
theorem pickL_no {xs ys : List LFact} {b : Bool} {k : Nat} (h : k < xs.length) (e : factsHas ys xs[k] ≠ b) : pickL (xs.take (k + 1)) ys b = pickL (xs.take k) ys b := by
  unfold pickL
  rw [take_snoc xs k h, List.filter_append]
  simp [e]

end Go.Proofs.YtofkcmihcgmmpaaGreat
