/-
  Texts that the claim's last one imports, laid together: part 4 of 12. No condition of its own.
-/
import Derived.Deep.RegionHeld3
import Derived.Deep.DeepCutAuto
import Derived.Test.YtokmmloakahkhaaGreatMSs2
import Derived.Test.YtokmmloakahkhaaGreatMSs3
/-
  Marks on results, read again: the numbers lie in cells that a list names, each once. The words, and the walks of markIntS, heldIntS over such lists.
-/
namespace Go.Proofs.YtokmmloakahkhaaGreat
open Go.RowKit

/-- The cells ps hold k, k + 1, .. -/
def HoldsFrom (w : World) (k : Int) (ps : List Addr) : Prop := ∀ i (h : i < ps.length), w.cell? ps[i] = some (.int .i64 (k + (i : Int)))
/-- The cells ps hold k, k + 1, ..; the others are as they were. -/
structure SeqAt (lo hi : Nat) (k : Int) (ps : List Addr) (w w' : World) : Prop where
  marked : Marked lo hi w w'
  holds : HoldsFrom w' k ps
  other : ∀ p : Addr, p.block < w.heap.size → p ∉ ps → w'.cell? p = w.cell? p

section
variable {lo hi : Nat} {w w1 w' : World} {k : Int} {ps qs : List Addr}
theorem HoldsFrom.nil : HoldsFrom w k [] := fun i h => absurd h (by simp)
theorem HoldsFrom.left (h : HoldsFrom w k (ps ++ qs)) : HoldsFrom w k ps := fun i hi => by
  have := h i (by simp; omega)
  rwa [List.getElem_append_left hi] at this
theorem HoldsFrom.right (h : HoldsFrom w k (ps ++ qs)) : HoldsFrom w (k + (ps.length : Int)) qs := fun i hi => by
  have := h (ps.length + i) (by simp; omega)
  rw [List.getElem_append_right (by omega)] at this
  simp only [Nat.add_sub_cancel_left] at this
  rw [this]
  congr 2
  omega
theorem HoldsFrom.append (h : HoldsFrom w k ps) (h2 : HoldsFrom w (k + (ps.length : Int)) qs) : HoldsFrom w k (ps ++ qs) := fun i hi => by
  by_cases hl : i < ps.length
  · rw [List.getElem_append_left hl]
    exact h i hl
  · rw [List.getElem_append_right (by omega)]
    simp at hi
    rw [h2 (i - ps.length) (by omega)]
    congr 2
    omega
theorem HoldsFrom.lt (h : HoldsFrom w k ps) {p : Addr} (hp : p ∈ ps) : p.block < w.heap.size := by
  obtain ⟨i, hi, rfl⟩ := List.getElem_of_mem hp
  exact World.block_lt_of_cell? _ _ (h i hi)
theorem HoldsFrom.kept (h : HoldsFrom w k ps) (hc : ∀ p ∈ ps, w'.cell? p = w.cell? p) : HoldsFrom w' k ps := fun i hi => (hc _ (List.getElem_mem hi)).trans (h i hi)
theorem HoldsFrom.below (h : HoldsFrom w k ps) (hb : Below w.heap.size w w') : HoldsFrom w' k ps := h.kept fun _ hp => hb.cell (h.lt hp)
theorem SeqAt.below (h : Below w.heap.size w w') : SeqAt lo hi k [] w w' := ⟨Marked.of_below h, HoldsFrom.nil, fun _ hp _ => h.cell hp⟩
theorem SeqAt.store {p : Addr} {x : Int} (hp : lo ≤ p.block ∧ p.block < hi) (hc : w.cell? p = some (.int .i64 x)) (k : Int) : SeqAt lo hi k [p] w (w.setCell p (.int .i64 k)) := by
  refine ⟨Marked.store hp hc k, fun i hi => ?_, fun q _ hq => World.cell?_setCell_other _ _ _ _ (fun e => hq (by simp [e]))⟩
  obtain rfl : i = 0 := by simpa using hi
  simpa using World.cell?_setCell_same _ _ (.int .i64 k) hc
theorem SeqAt.append (h : SeqAt lo hi k ps w w1) (h2 : SeqAt lo hi (k + (ps.length : Int)) qs w1 w') (hd : ∀ p ∈ ps, p ∉ qs) : SeqAt lo hi k (ps ++ qs) w w' := by
  refine ⟨h.marked.trans h2.marked, (h.holds.kept fun p hp => h2.other p (h.holds.lt hp) (hd p hp)).append h2.holds, fun p hp hq => ?_⟩
  simp only [List.mem_append, not_or] at hq
  exact (h2.other p (Nat.lt_of_lt_of_le hp h.marked.only.size) hq.2).trans (h.other p hp hq.1)
theorem SeqAt.then_below (h : SeqAt lo hi k ps w w1) (hb : Below w1.heap.size w1 w') : SeqAt lo hi k ps w w' := by
  have := h.append (qs := []) (SeqAt.below (lo := lo) (hi := hi) hb) (fun _ _ hq => by simp at hq)
  simpa using this
theorem SeqAt.below_then (hb : Below w.heap.size w w1) (h : SeqAt lo hi k ps w1 w') : SeqAt lo hi k ps w w' := by
  have h0 : SeqAt lo hi k [] w w1 := SeqAt.below hb
  have := h0.append (by simpa using h) (fun _ hp => by simp at hp)
  simpa using this
end

/-- The first j groups of leaves. -/
def preL (el : Nat → List Addr) (j : Nat) : List Addr := ((List.range j).map el).flatten
theorem preL_zero (el : Nat → List Addr) : preL el 0 = [] := rfl
theorem preL_succ (el : Nat → List Addr) (j : Nat) : preL el (j + 1) = preL el j ++ el j := by
  unfold preL
  rw [List.range_succ, List.map_append, List.flatten_append]
  simp
theorem preL_split (el : Nat → List Addr) : ∀ n j, j ≤ n → ∃ rest, preL el n = preL el j ++ rest
  | 0, j, h => ⟨[], by rw [show j = 0 by omega]; rfl⟩
  | n + 1, j, h => by
    by_cases e : j = n + 1
    · exact ⟨[], by rw [e]; simp⟩
    · obtain ⟨r, hr⟩ := preL_split el n j (by omega)
      exact ⟨r ++ el n, by rw [preL_succ, hr, List.append_assoc]⟩
theorem preL_nodup {el : Nat → List Addr} {n j : Nat} (h : (preL el n).Nodup) (hj : j < n) : (preL el j ++ el j).Nodup := by
  obtain ⟨r, hr⟩ := preL_split el n (j + 1) hj
  rw [hr, List.nodup_append] at h
  rw [← preL_succ]
  exact h.1
theorem preL_holds {w : World} {k : Int} {el : Nat → List Addr} {n j : Nat} (h : HoldsFrom w k (preL el n)) (hj : j < n) : HoldsFrom w (k + ((preL el j).length : Int)) (el j) := by
  obtain ⟨r, hr⟩ := preL_split el n (j + 1) hj
  rw [hr] at h
  have := h.left
  rw [preL_succ] at this
  exact this.right
theorem mem_preL {el : Nat → List Addr} : ∀ {n : Nat} {p : Addr}, p ∈ preL el n ↔ ∃ j, j < n ∧ p ∈ el j
  | 0, p => by simp [preL]
  | n + 1, p => by
    rw [preL_succ, List.mem_append, mem_preL]
    constructor
    · rintro (⟨j, hj, hp⟩ | hp)
      · exact ⟨j, by omega, hp⟩
      · exact ⟨n, by omega, hp⟩
    · rintro ⟨j, hj, hp⟩
      by_cases e : j = n
      · exact .inr (e ▸ hp)
      · exact .inl ⟨j, by omega, hp⟩
/-- Groups that are once each and apart from each other. -/
theorem preL_nodup_of {el : Nat → List Addr} : ∀ {n : Nat}, (∀ j, j < n → (el j).Nodup) → (∀ i j, i < j → j < n → ∀ p ∈ el i, p ∉ el j) → (preL el n).Nodup
  | 0, _, _ => by simp [preL]
  | n + 1, h1, h2 => by
    rw [preL_succ, List.nodup_append]
    refine ⟨preL_nodup_of (fun j hj => h1 j (by omega)) (fun i j hij hj => h2 i j hij (by omega)), h1 n (by omega), fun a ha b hb e => ?_⟩
    obtain ⟨j, hj, hp⟩ := mem_preL.1 ha
    exact h2 j n hj (by omega) a hp (e ▸ hb)
theorem preL_length_le {el : Nat → List Addr} {n j : Nat} (h : j ≤ n) : (preL el j).length ≤ (preL el n).length := by
  obtain ⟨r, hr⟩ := preL_split el n j h
  rw [hr]
  simp

/-- A slice of n numbers in blocks from lo on and below hi that may be written; ps are its cells. -/
def LvInts (w : World) (lo hi : Nat) (v : Value) (n : Nat) (ps : List Addr) : Prop :=
  ∃ A c, v = .slice A n c ∧ n ≤ c ∧ ps.length = n ∧ (0 < n → ∃ b o, A = some ⟨b, o, none⟩ ∧ lo ≤ b ∧ b < hi ∧ ps = (List.range n).map (fun k => ⟨b, o + k, none⟩) ∧
    ∀ k, k < n → w.frozen? ⟨b, o + k, none⟩ = false ∧ ∃ x, w.cell? ⟨b, o + k, none⟩ = some (.int .i64 x))
theorem LvInts.marked {w w' : World} {lo hi lo' hi' n : Nat} {v : Value} {ps : List Addr} (h : LvInts w lo hi v n ps) (hm : Marked lo' hi' w w') : LvInts w' lo hi v n ps := by
  obtain ⟨A, c, rfl, hcc, hl, h⟩ := h
  refine ⟨A, c, rfl, hcc, hl, fun hn => ?_⟩
  obtain ⟨b, o, rfl, h1, h2, hp, hx⟩ := h hn
  refine ⟨b, o, rfl, h1, h2, hp, fun k hk => ?_⟩
  obtain ⟨hf, x, hc⟩ := hx k hk
  exact ⟨(hm.frozen _ (World.block_lt_of_cell? _ _ hc)).trans hf, hm.int hc⟩
theorem LvInts.mono {w : World} {lo hi lo' hi' n : Nat} {v : Value} {ps : List Addr} (h : LvInts w lo hi v n ps) (h1 : lo' ≤ lo) (h2 : hi ≤ hi') : LvInts w lo' hi' v n ps := by
  obtain ⟨A, c, rfl, hcc, hl, h⟩ := h
  refine ⟨A, c, rfl, hcc, hl, fun hn => ?_⟩
  obtain ⟨b, o, rfl, h3, h4, hp, hx⟩ := h hn
  exact ⟨b, o, rfl, by omega, by omega, hp, hx⟩
theorem LvInts.block {w : World} {lo hi n : Nat} {v : Value} {ps : List Addr} (h : LvInts w lo hi v n ps) {p : Addr} (hp : p ∈ ps) : lo ≤ p.block ∧ p.block < hi := by
  obtain ⟨A, c, rfl, _, hl, h⟩ := h
  have hn : 0 < n := by rw [← hl]; exact List.length_pos_of_mem hp
  obtain ⟨b, o, rfl, h1, h2, rfl, _⟩ := h hn
  simp only [List.mem_map, List.mem_range] at hp
  obtain ⟨k, _, rfl⟩ := hp
  exact ⟨h1, h2⟩
theorem LvInts.nodup {w : World} {lo hi n : Nat} {v : Value} {ps : List Addr} (h : LvInts w lo hi v n ps) : ps.Nodup := by
  obtain ⟨A, c, rfl, _, hl, h⟩ := h
  rcases Nat.eq_zero_or_pos n with h0 | hn
  · rw [h0] at hl
    rw [List.eq_nil_of_length_eq_zero hl]
    exact List.nodup_nil
  · obtain ⟨b, o, rfl, h1, h2, rfl, _⟩ := h hn
    rw [List.nodup_iff_pairwise_ne, List.pairwise_map]
    exact List.Pairwise.imp (fun {a b} hab e => by injection e with _ e2 _; omega) List.pairwise_lt_range
theorem OwnInts.leaves {w : World} {lo hi : Nat} {v : Value} {xs : List Int} (h : OwnInts w lo hi v xs) : ∃ ps, LvInts w lo hi v xs.length ps := by
  obtain ⟨A2, c2, e2, hcc, _⟩ := h.rd
  obtain ⟨A, c, rfl, hx⟩ := h.wr
  injection e2 with _ _ e2
  subst e2
  rcases Nat.eq_zero_or_pos xs.length with h0 | hn
  · exact ⟨[], A, c, rfl, hcc, by simp [h0], fun hn => absurd hn (by omega)⟩
  · obtain ⟨b, o, rfl, h1, h2, hx⟩ := hx hn
    exact ⟨(List.range xs.length).map (fun k => ⟨b, o + k, none⟩), _, c, rfl, hcc, by simp, fun _ => ⟨b, o, rfl, h1, h2, rfl, hx⟩⟩

set_option maxHeartbeats 400000 in
theorem lmarkIntS_any (v : Value) (n : Nat) (ps : List Addr) (k : Int) (lo hi : Nat) (w : World) (h : LvInts w lo hi v n ps) (hk0 : 0 ≤ k) (hk : k + n ≤ 4611686018427387904) :
    Calls Tryz.prog 33 #[v, .int .i64 k] w fun e w' => e = .returned (.int .i64 (k + n)) ∧ SeqAt lo hi k ps w w' := by
  have H := Lib.hid h
  have hnd := h.nodup
  obtain ⟨A, c, rfl, hcc, hl, h⟩ := h
  go_enter Tryz.func33, Tryz.ntmps33
  go_wp2_with (fail)
  go_loopw [1, 5] (fun m i wr => ∃ j : Nat, j ≤ n ∧ i = .int .i64 j ∧ m = .int .i64 (k + j) ∧ SeqAt lo hi k (ps.take j) w wr) (fun _ i _ => n - (intOf i).toNat)
  case atStart => exact ⟨0, Nat.zero_le _, rfl, by simp, by simpa using SeqAt.below (Below.refl _ _)⟩
  case round =>
    obtain ⟨j, hj, rfl, rfl, hs⟩ := hrel
    by_cases hlt : j < n
    · obtain ⟨b, o, rfl, h1, h2, hp, hx⟩ := h (by omega)
      obtain ⟨hf, x, hc⟩ := hx j hlt
      obtain ⟨y, hc1⟩ := hs.marked.int hc
      have hf1 : wr.frozen? ⟨b, o + j, none⟩ = false := (hs.marked.frozen _ (World.block_lt_of_cell? _ _ hc)).trans hf
      have hst := hs.append (SeqAt.store (lo := lo) (hi := hi) (p := ⟨b, o + j, none⟩) ⟨h1, h2⟩ hc1 (k + ((ps.take j).length : Int))) (fun q hq hq2 => by
        have hat : ps[j]'(by omega) = ⟨b, o + j, none⟩ := by simp [hp]
        simp only [List.mem_singleton] at hq2
        rw [hq2, ← hat] at hq
        rw [← List.take_append_drop j ps, List.drop_eq_getElem_cons (by omega)] at hnd
        rw [List.nodup_append] at hnd
        exact hnd.2.2 _ hq _ (List.mem_cons_self) rfl)
      have htk : ps.take j ++ [(⟨b, o + j, none⟩ : Addr)] = ps.take (j + 1) := by
        rw [take_snoc ps j (by omega)]
        simp [hp]
      rw [htk, show (ps.take j).length = j by rw [List.length_take]; omega] at hst
      have HS := Lib.hid hst
      clear hst hs hp hx htk hnd
      go_wp2_with (fail)
      go_roundw
      case rel => exact ⟨j + 1, by omega, by go_num, by go_num, HS.out⟩
      case measure => simp [intOf]; omega
    · have hkn : j = n := by omega
      have HK := Lib.hid (show k + (j : Int) = k + n by rw [hkn])
      have HS := Lib.hid (show SeqAt lo hi k ps w wr by rw [hkn, ← hl, List.take_length] at hs; exact hs)
      clear hkn hs h
      go_wp2_with (fail)
      go_ret
      exact ⟨ret_int HK.out, HS.out⟩

theorem LvInts.rd {w : World} {lo hi n : Nat} {v : Value} {ps : List Addr} {k : Int} (h : LvInts w lo hi v n ps) (hh : HoldsFrom w k ps) : RdInts w w.heap.size v (seqI k n) := by
  obtain ⟨A, c, rfl, hcc, hl, h⟩ := h
  refine ⟨A, c, by rw [seqI_length], by rw [seqI_length]; exact hcc, fun hn => ?_⟩
  rw [seqI_length] at hn
  obtain ⟨b, o, rfl, h1, h2, hp, hx⟩ := h hn
  have hat : ∀ j (hj : j < n), w.cell? ⟨b, o + j, none⟩ = some (.int .i64 (k + (j : Int))) := fun j hj => by
    have := hh j (by omega)
    simpa [hp] using this
  refine ⟨b, o, rfl, World.block_lt_of_cell? _ _ (hat 0 hn), fun j hj => ?_⟩
  rw [seqI_at]
  exact hat j (by rwa [seqI_length] at hj)

theorem lheldIntS_any (v : Value) (n : Nat) (ps : List Addr) (k : Int) (lo hi : Nat) (w : World) (h : LvInts w lo hi v n ps) (hh : HoldsFrom w k ps) (hk0 : 0 ≤ k) (hk : k + n ≤ 4611686018427387904) :
    Calls Tryz.prog 77 #[v, .int .i64 k] w fun e w' => e = .returned (.int .i64 (k + n)) ∧ w = w' :=
  heldIntS_any v n k w (h.rd hh) hk0 hk

end Go.Proofs.YtokmmloakahkhaaGreat
/-
  The program's renaming: the walks of varTerm and term.
-/
namespace Go.Proofs.YtokmmloakahkhaaGreat
open Go.RowKit

/-- Block g holds what the variables have become. -/
def NamesAt (w : World) (g : Nat) (s : Ren) : Prop := ∃ a b c d : Int, s.1 = [a, b, c, d] ∧ Blk w g 198 #[.int .i64 a, .int .i64 b, .int .i64 c, .int .i64 d, .int .i64 (s.2 : Int)]
theorem NamesAt.below {w w' : World} {g B : Nat} {s : Ren} (h : NamesAt w g s) (hb : Below B w w') (hg : g < B) : NamesAt w' g s := by
  obtain ⟨a, b, c, d, e, hx⟩ := h
  exact ⟨a, b, c, d, e, hx.below hb hg⟩
theorem NamesAt.lt {w : World} {g : Nat} {s : Ren} (h : NamesAt w g s) : g < w.heap.size := by
  obtain ⟨_, _, _, _, _, hx⟩ := h
  exact hx.lt
theorem NamesAt.far {w : World} {g : Nat} {s : Ren} (h : NamesAt w g s) {p : Addr} (hp : g ≠ p.block) (u : Value) : NamesAt (w.setCell p u) g s := by
  obtain ⟨a, b, c, d, e, hx⟩ := h
  exact ⟨a, b, c, d, e, hx.far hp u⟩
theorem NamesAt.len {w : World} {g : Nat} {s : Ren} (h : NamesAt w g s) : s.1.length = 4 := by
  obtain ⟨_, _, _, _, e, _⟩ := h
  simp [e]

theorem varTerm_big (n : Int) (h0 : 0 ≤ n) (h1 : n ≤ 4611686018427387904) (w : World) : Calls Tryz.prog 174 #[.int .i64 n] w fun e w' => e = .returned (.int .i64 (-1 - n)) ∧ w = w' := by
  go_enter Tryz.func174, Tryz.ntmps174
  go_wp2
  go_ret
  exact ⟨rfl, rfl⟩

set_option maxHeartbeats 1000000 in
set_option maxRecDepth 100000 in
theorem term_any (g : Nat) (s : Ren) (t : Int) (w : World) (h : NamesAt w g s) (hv : isVarB t = true) (hm : s.2 ≤ 4611686018427387900) :
    Calls Tryz.prog 162 #[.pointer (some ⟨g, 0, none⟩), .int .i64 (-1 - t)] w fun e w' => e = .returned (.int .i64 (look (renStep s t) t)) ∧ NamesAt w' g (renStep s t) ∧ Only g (g + 1) w w' := by
  obtain ⟨a, b, c, d, hs, hx⟩ := h
  obtain ⟨ts, m⟩ := s
  subst hs
  have h4 : t = -1 ∨ t = -2 ∨ t = -3 ∨ t = -4 := by simp [isVarB] at hv; omega
  have c0 : w.cell? ⟨g, 0, none⟩ = some (.int .i64 a) := hx.cell 0
  have c1 : w.cell? ⟨g, 1, none⟩ = some (.int .i64 b) := hx.cell 1
  have c2 : w.cell? ⟨g, 2, none⟩ = some (.int .i64 c) := hx.cell 2
  have c3 : w.cell? ⟨g, 3, none⟩ = some (.int .i64 d) := hx.cell 3
  have c4 : w.cell? ⟨g, 4, none⟩ = some (.int .i64 (m : Int)) := hx.cell 4
  have f0 := hx.frozen 0
  have f4 := hx.frozen 4
  simp only at hm
  have HX := Lib.hid hx
  rcases h4 with rfl | rfl | rfl | rfl
  · have fv := hx.frozen 0
    by_cases ha : a = 0
    · have ht : (a == 0) = true := by simp [ha]
      have HR := Lib.hid (show renStep ([a, b, c, d], m) (-1) = ([-1 - (m : Int), b, c, d], m + 1) by simp [renStep, isVarB, ha])
      rw [HR.out]
      clear ha hx
      go_enter Tryz.func162, Tryz.ntmps162
      go_wp2_with (fail)
      go_cut [18] (fun _ wx => ∃ n, wx = (w.setCell ⟨g, 0, none⟩ (.int .i64 (-1 - (m : Int)))).drewN n)
      case first =>
        go_region_held3 (fun W => W.cell? ⟨g, 4, none⟩ = some (.int .i64 (m : Int)))
          (first | exact c4 | exact (World.cell?_setCell_other _ _ _ _ (by simp)).trans c4)
          (first | (go_at_call 174; refine (varTerm_big (m : Int) (by omega) (by omega) _).mono ?_; rintro e w' ⟨rfl, rfl⟩))
        all_goals (go_wp2_with (fail); go_meet; exact ⟨1, rfl⟩)
      case rest =>
        have B2 : Blk wc g 198 #[.int .i64 (-1 - (m : Int)), .int .i64 b, .int .i64 c, .int .i64 d, .int .i64 (m : Int)] := by
          obtain ⟨n, rfl⟩ := hcut
          simpa using (HX.out.set_ 0 (.int .i64 (-1 - (m : Int)))).drewN n
        have O2 : Only g (g + 1) w wc := by
          obtain ⟨n, rfl⟩ := hcut
          exact ((Only.refl _ _ _).setCell (p := ⟨g, 0, none⟩) ⟨Nat.le_refl _, Nat.lt_succ_self _⟩ _).trans ⟨rfl, rfl, rfl, Nat.le_refl _, fun _ _ _ => rfl⟩
        clear hcut c0 c1 c2 c3 c4 f0 f4 fv
        have k0 : wc.cell? ⟨g, 0, none⟩ = some (.int .i64 (-1 - (m : Int))) := B2.cell 0
        have k4 : wc.cell? ⟨g, 4, none⟩ = some (.int .i64 (m : Int)) := B2.cell 4
        have j4 := B2.frozen 4
        go_wp2_with (fail)
        go_ret
        exact ⟨rfl, ⟨_, _, _, _, rfl, by simpa using B2.set_ 4 (.int .i64 ((m : Int) + 1))⟩, O2.setCell (p := ⟨g, 4, none⟩) ⟨Nat.le_refl _, Nat.lt_succ_self _⟩ _⟩
    · have ht : (a == 0) = false := by simp [ha]
      have HR := Lib.hid (show renStep ([a, b, c, d], m) (-1) = ([a, b, c, d], m) by simp [renStep, isVarB, ha])
      rw [HR.out]
      clear ha hx
      go_enter Tryz.func162, Tryz.ntmps162
      go_wp2_with (fail)
      go_ret
      exact ⟨rfl, ⟨a, b, c, d, rfl, HX.out⟩, Only.refl _ _ _⟩
  · have fv := hx.frozen 1
    by_cases ha : b = 0
    · have ht : (b == 0) = true := by simp [ha]
      have HR := Lib.hid (show renStep ([a, b, c, d], m) (-2) = ([a, -1 - (m : Int), c, d], m + 1) by simp [renStep, isVarB, ha])
      rw [HR.out]
      clear ha hx
      go_enter Tryz.func162, Tryz.ntmps162
      go_wp2_with (fail)
      go_cut [18] (fun _ wx => ∃ n, wx = (w.setCell ⟨g, 1, none⟩ (.int .i64 (-1 - (m : Int)))).drewN n)
      case first =>
        go_region_held3 (fun W => W.cell? ⟨g, 4, none⟩ = some (.int .i64 (m : Int)))
          (first | exact c4 | exact (World.cell?_setCell_other _ _ _ _ (by simp)).trans c4)
          (first | (go_at_call 174; refine (varTerm_big (m : Int) (by omega) (by omega) _).mono ?_; rintro e w' ⟨rfl, rfl⟩))
        all_goals (go_wp2_with (fail); go_meet; exact ⟨1, rfl⟩)
      case rest =>
        have B2 : Blk wc g 198 #[.int .i64 a, .int .i64 (-1 - (m : Int)), .int .i64 c, .int .i64 d, .int .i64 (m : Int)] := by
          obtain ⟨n, rfl⟩ := hcut
          simpa using (HX.out.set_ 1 (.int .i64 (-1 - (m : Int)))).drewN n
        have O2 : Only g (g + 1) w wc := by
          obtain ⟨n, rfl⟩ := hcut
          exact ((Only.refl _ _ _).setCell (p := ⟨g, 1, none⟩) ⟨Nat.le_refl _, Nat.lt_succ_self _⟩ _).trans ⟨rfl, rfl, rfl, Nat.le_refl _, fun _ _ _ => rfl⟩
        clear hcut c0 c1 c2 c3 c4 f0 f4 fv
        have k0 : wc.cell? ⟨g, 1, none⟩ = some (.int .i64 (-1 - (m : Int))) := B2.cell 1
        have k4 : wc.cell? ⟨g, 4, none⟩ = some (.int .i64 (m : Int)) := B2.cell 4
        have j4 := B2.frozen 4
        go_wp2_with (fail)
        go_ret
        exact ⟨rfl, ⟨_, _, _, _, rfl, by simpa using B2.set_ 4 (.int .i64 ((m : Int) + 1))⟩, O2.setCell (p := ⟨g, 4, none⟩) ⟨Nat.le_refl _, Nat.lt_succ_self _⟩ _⟩
    · have ht : (b == 0) = false := by simp [ha]
      have HR := Lib.hid (show renStep ([a, b, c, d], m) (-2) = ([a, b, c, d], m) by simp [renStep, isVarB, ha])
      rw [HR.out]
      clear ha hx
      go_enter Tryz.func162, Tryz.ntmps162
      go_wp2_with (fail)
      go_ret
      exact ⟨rfl, ⟨a, b, c, d, rfl, HX.out⟩, Only.refl _ _ _⟩
  · have fv := hx.frozen 2
    by_cases ha : c = 0
    · have ht : (c == 0) = true := by simp [ha]
      have HR := Lib.hid (show renStep ([a, b, c, d], m) (-3) = ([a, b, -1 - (m : Int), d], m + 1) by simp [renStep, isVarB, ha])
      rw [HR.out]
      clear ha hx
      go_enter Tryz.func162, Tryz.ntmps162
      go_wp2_with (fail)
      go_cut [18] (fun _ wx => ∃ n, wx = (w.setCell ⟨g, 2, none⟩ (.int .i64 (-1 - (m : Int)))).drewN n)
      case first =>
        go_region_held3 (fun W => W.cell? ⟨g, 4, none⟩ = some (.int .i64 (m : Int)))
          (first | exact c4 | exact (World.cell?_setCell_other _ _ _ _ (by simp)).trans c4)
          (first | (go_at_call 174; refine (varTerm_big (m : Int) (by omega) (by omega) _).mono ?_; rintro e w' ⟨rfl, rfl⟩))
        all_goals (go_wp2_with (fail); go_meet; exact ⟨1, rfl⟩)
      case rest =>
        have B2 : Blk wc g 198 #[.int .i64 a, .int .i64 b, .int .i64 (-1 - (m : Int)), .int .i64 d, .int .i64 (m : Int)] := by
          obtain ⟨n, rfl⟩ := hcut
          simpa using (HX.out.set_ 2 (.int .i64 (-1 - (m : Int)))).drewN n
        have O2 : Only g (g + 1) w wc := by
          obtain ⟨n, rfl⟩ := hcut
          exact ((Only.refl _ _ _).setCell (p := ⟨g, 2, none⟩) ⟨Nat.le_refl _, Nat.lt_succ_self _⟩ _).trans ⟨rfl, rfl, rfl, Nat.le_refl _, fun _ _ _ => rfl⟩
        clear hcut c0 c1 c2 c3 c4 f0 f4 fv
        have k0 : wc.cell? ⟨g, 2, none⟩ = some (.int .i64 (-1 - (m : Int))) := B2.cell 2
        have k4 : wc.cell? ⟨g, 4, none⟩ = some (.int .i64 (m : Int)) := B2.cell 4
        have j4 := B2.frozen 4
        go_wp2_with (fail)
        go_ret
        exact ⟨rfl, ⟨_, _, _, _, rfl, by simpa using B2.set_ 4 (.int .i64 ((m : Int) + 1))⟩, O2.setCell (p := ⟨g, 4, none⟩) ⟨Nat.le_refl _, Nat.lt_succ_self _⟩ _⟩
    · have ht : (c == 0) = false := by simp [ha]
      have HR := Lib.hid (show renStep ([a, b, c, d], m) (-3) = ([a, b, c, d], m) by simp [renStep, isVarB, ha])
      rw [HR.out]
      clear ha hx
      go_enter Tryz.func162, Tryz.ntmps162
      go_wp2_with (fail)
      go_ret
      exact ⟨rfl, ⟨a, b, c, d, rfl, HX.out⟩, Only.refl _ _ _⟩
  · have fv := hx.frozen 3
    by_cases ha : d = 0
    · have ht : (d == 0) = true := by simp [ha]
      have HR := Lib.hid (show renStep ([a, b, c, d], m) (-4) = ([a, b, c, -1 - (m : Int)], m + 1) by simp [renStep, isVarB, ha])
      rw [HR.out]
      clear ha hx
      go_enter Tryz.func162, Tryz.ntmps162
      go_wp2_with (fail)
      go_cut [18] (fun _ wx => ∃ n, wx = (w.setCell ⟨g, 3, none⟩ (.int .i64 (-1 - (m : Int)))).drewN n)
      case first =>
        go_region_held3 (fun W => W.cell? ⟨g, 4, none⟩ = some (.int .i64 (m : Int)))
          (first | exact c4 | exact (World.cell?_setCell_other _ _ _ _ (by simp)).trans c4)
          (first | (go_at_call 174; refine (varTerm_big (m : Int) (by omega) (by omega) _).mono ?_; rintro e w' ⟨rfl, rfl⟩))
        all_goals (go_wp2_with (fail); go_meet; exact ⟨1, rfl⟩)
      case rest =>
        have B2 : Blk wc g 198 #[.int .i64 a, .int .i64 b, .int .i64 c, .int .i64 (-1 - (m : Int)), .int .i64 (m : Int)] := by
          obtain ⟨n, rfl⟩ := hcut
          simpa using (HX.out.set_ 3 (.int .i64 (-1 - (m : Int)))).drewN n
        have O2 : Only g (g + 1) w wc := by
          obtain ⟨n, rfl⟩ := hcut
          exact ((Only.refl _ _ _).setCell (p := ⟨g, 3, none⟩) ⟨Nat.le_refl _, Nat.lt_succ_self _⟩ _).trans ⟨rfl, rfl, rfl, Nat.le_refl _, fun _ _ _ => rfl⟩
        clear hcut c0 c1 c2 c3 c4 f0 f4 fv
        have k0 : wc.cell? ⟨g, 3, none⟩ = some (.int .i64 (-1 - (m : Int))) := B2.cell 3
        have k4 : wc.cell? ⟨g, 4, none⟩ = some (.int .i64 (m : Int)) := B2.cell 4
        have j4 := B2.frozen 4
        go_wp2_with (fail)
        go_ret
        exact ⟨rfl, ⟨_, _, _, _, rfl, by simpa using B2.set_ 4 (.int .i64 ((m : Int) + 1))⟩, O2.setCell (p := ⟨g, 4, none⟩) ⟨Nat.le_refl _, Nat.lt_succ_self _⟩ _⟩
    · have ht : (d == 0) = false := by simp [ha]
      have HR := Lib.hid (show renStep ([a, b, c, d], m) (-4) = ([a, b, c, d], m) by simp [renStep, isVarB, ha])
      rw [HR.out]
      clear ha hx
      go_enter Tryz.func162, Tryz.ntmps162
      go_wp2_with (fail)
      go_ret
      exact ⟨rfl, ⟨a, b, c, d, rfl, HX.out⟩, Only.refl _ _ _⟩

end Go.Proofs.YtokmmloakahkhaaGreat
/-
  The program's renaming: the walk of atom.
-/
namespace Go.Proofs.YtokmmloakahkhaaGreat
open Go.RowKit

theorem rowIs_only {w w' : World} {lo hi g n : Nat} {t : TypeId} {f : Nat → Value} (h : w.rowIs g t n f) (ho : Only lo hi w w') (hd : g < lo ∨ hi ≤ g) : w'.rowIs g t n f := by
  obtain ⟨c, hb, r⟩ := h
  exact ⟨c, (ho.block g (Array.getElem?_eq_some_iff.1 hb).1 hd).trans hb, r⟩
theorem RdInts.only {w w' : World} {lo hi B : Nat} {v : Value} {xs : List Int} (h : RdInts w B v xs) (ho : Only lo hi w w') (hB : B ≤ lo) : RdInts w' B v xs := by
  obtain ⟨A, c, rfl, hc, h⟩ := h
  refine ⟨A, c, rfl, hc, fun hn => ?_⟩
  obtain ⟨b, o, rfl, hlt, hk⟩ := h hn
  refine ⟨b, o, rfl, hlt, fun k hkl => ?_⟩
  have hc := hk k hkl
  rw [← hc]
  exact World.cell?_of_block (by exact ho.block b (World.block_lt_of_cell? _ _ hc) (.inl (by omega)))

/-- All blocks but two are as they were. -/
structure But2 (g r : Nat) (w w' : World) : Prop where
  os : w'.os = w.os
  tape : w'.tape = w.tape
  output : w'.output = w.output
  size : w.heap.size ≤ w'.heap.size
  block : ∀ k, k < w.heap.size → k ≠ g → k ≠ r → w'.heap[k]? = w.heap[k]?
theorem But2.refl (g r : Nat) (w : World) : But2 g r w w := ⟨rfl, rfl, rfl, Nat.le_refl _, fun _ _ _ _ => rfl⟩
theorem But2.only {g r : Nat} {w w1 w' : World} (h : But2 g r w w1) (ho : Only g (g + 1) w1 w') : But2 g r w w' :=
  ⟨ho.os.trans h.os, ho.tape.trans h.tape, ho.output.trans h.output, Nat.le_trans h.size ho.size, fun k hk h1 h2 => (ho.block k (Nat.lt_of_lt_of_le hk h.size) (by omega)).trans (h.block k hk h1 h2)⟩
theorem But2.set {g r j : Nat} {w w1 : World} (h : But2 g r w w1) (u : Value) : But2 g r w (w1.setCell ⟨r, j, none⟩ u) :=
  ⟨h.os, h.tape, h.output, by simpa using h.size, fun k hk h1 h2 => (Below.heap_setCell _ _ _ _ h2).trans (h.block k hk h1 h2)⟩
theorem Blk.but {g r b : Nat} {w w' : World} {t : TypeId} {cs : Array Value} (h : Blk w b t cs) (hb : But2 g r w w') (h1 : b ≠ g) (h2 : b ≠ r) : Blk w' b t cs := (hb.block b h.lt h1 h2).trans h

theorem renOut_at {s : Ren} {xs : List Int} {k : Nat} (h : k < xs.length) : (renOut s xs).getD k 0 = look (renStep (renList s (xs.take k)) xs[k]) xs[k] := by
  rw [← renList_take s h]
  simp [renOut, h]
theorem renStep_no {s : Ren} {t : Int} (h : isVarB t = false) : renStep s t = s := by simp [renStep, h]
theorem look_no {s : Ren} {t : Int} (h : isVarB t = false) : look s t = t := by simp [look, h]
theorem renStep_count (s : Ren) (t : Int) : (renStep s t).2 ≤ s.2 + 1 := by
  unfold renStep
  split <;> simp
theorem renList_count : ∀ (xs : List Int) (s : Ren), (renList s xs).2 ≤ s.2 + xs.length
  | [], s => by simp [renList]
  | t :: xs, s => by
    have h1 := renList_count xs (renStep s t)
    have h2 := renStep_count s t
    show (renList (renStep s t) xs).2 ≤ _
    simp only [List.length_cons]
    omega

set_option maxHeartbeats 1000000 in
set_option maxRecDepth 100000 in
theorem renAtom_any (g : Nat) (s : Ren) (p : Int) (v : Value) (xs : List Int) (w : World) (hN : NamesAt w g s) (h : RdInts w g v xs) (hn : xs.length ≤ 1048576) (hm : s.2 ≤ 4611686014132420000) :
    Calls Tryz.prog 163 #[.pointer (some ⟨g, 0, none⟩), .agg #[.int .i64 p, v]] w fun e w' => ∃ A' c', e = .returned (.agg #[.int .i64 p, .slice A' xs.length c']) ∧
      OwnInts w' w.heap.size w'.heap.size (.slice A' xs.length c') (renOut s xs) ∧ NamesAt w' g (renList s xs) ∧ Only g (g + 1) w w' := by
  have hg := hN.lt
  have HN := Lib.hid hN
  have HV := Lib.hid h
  clear hN
  obtain ⟨A, c, rfl, hc, h⟩ := h
  have hmk := run_make_row' (P := Tryz.prog) 31 3 (.int .i64 0) 8 Tryz.underlying31 Tryz.infoInt rfl .i64 .i64 xs.length (by omega) (by omega)
  go_enter Tryz.func163, Tryz.ntmps163
  go_wp2_with (fail)
  obtain ⟨w3, hw3⟩ : ∃ w3, w3 = ((w.alloc (Obj.cells #[Value.int IntKind.i64 p, Value.slice A xs.length c] 33)).alloc (Obj.cells #[Value.int IntKind.i64 0, Value.slice none 0 0] 33)).alloc (Obj.cells (madeCells #[Value.int IntKind.i64 0] xs.length) 3) := ⟨_, rfl⟩
  have B3 : Below w.heap.size w w3 := by rw [hw3]; exact below3 _ _ _ _
  have s3 : w3.heap.size = w.heap.size + 3 := by rw [hw3]; simp
  have x3 : Blk w3 w.heap.size 33 #[.int .i64 p, .slice A xs.length c] := by rw [hw3]; exact ((Blk.new w _ _).alloc _).alloc _
  have y3 : Blk w3 (w.heap.size + 1) 33 #[.int .i64 0, .slice none 0 0] := by
    rw [hw3]
    have := (Blk.new (w.alloc (Obj.cells #[Value.int IntKind.i64 p, Value.slice A xs.length c] 33)) 33 #[.int .i64 0, .slice none 0 0]).alloc (Obj.cells (madeCells #[Value.int IntKind.i64 0] xs.length) 3)
    simpa using this
  have r3 : w3.rowIs (w.heap.size + 2) 3 xs.length (fun _ => .int .i64 0) := by
    rw [hw3]
    have := World.rowIs_made ((w.alloc (Obj.cells #[Value.int IntKind.i64 p, Value.slice A xs.length c] 33)).alloc (Obj.cells #[Value.int IntKind.i64 0, Value.slice none 0 0] 33)) (.int .i64 0) xs.length 3
    simpa using this
  have N3 := HN.out.below B3 hg
  rw [← hw3]
  clear hw3
  go_loopw [6, 7, 15] (fun _ _ i wr => ∃ k : Nat, k ≤ xs.length ∧ i = .int .i64 k ∧ wr.rowIs (w.heap.size + 2) 3 xs.length (fun j => if j < k then .int .i64 ((renOut s xs).getD j 0) else .int .i64 0) ∧ NamesAt wr g (renList s (xs.take k)) ∧
      But2 g (w.heap.size + 2) w3 wr) (fun _ _ i _ => xs.length - (intOf i).toNat)
  case atStart => exact ⟨0, Nat.zero_le _, rfl, r3.congr (fun j _ => by simp), N3, But2.refl _ _ _⟩
  case round =>
    obtain ⟨k, hk, rfl, hrow, hnm, hbt⟩ := hrel
    have xr := x3.but hbt (by omega) (by omega)
    have yr := y3.but hbt (by omega) (by omega)
    have q0 : wr.cell? ⟨w.heap.size, 0, none⟩ = some (.int .i64 p) := xr.cell 0
    have q1 : wr.cell? ⟨w.heap.size, 1, none⟩ = some (.slice A xs.length c) := xr.cell 1
    by_cases hlt : k < xs.length
    · obtain ⟨b, o, rfl, hbB, hx⟩ := h (by omega)
      have hbk := hx k hlt
      have hbw := World.block_lt_of_cell? _ _ hbk
      have hck : wr.cell? ⟨b, o + k, none⟩ = some (.int .i64 xs[k]) := by
        rw [← hbk]
        exact World.cell?_of_block ((hbt.block b (by rw [s3]; simp at hbw; omega) (by omega) (by simp at hbw; omega)).trans (B3.block b hbw))
      have hc2 := hrow.cell hlt
      have hf2 := hrow.frozen k
      have hcnt := renList_count (xs.take k) s
      rw [List.length_take] at hcnt
      have HR := Lib.hid (And.intro hrow (And.intro hnm hbt))
      clear hx hrow hnm hbt h hbk hbw
      by_cases he : isVarB xs[k] = true
      · have HK := Lib.hid (isVar_is he)
        have hv4 := Lib.hid (show -4 ≤ xs[k] ∧ xs[k] ≤ -1 by simpa [isVarB] using he)
        have HE := Lib.hid he
        clear he
        go_wp2_with (first | (go_at_call 133; refine (HK.out _).mono ?_; rintro e w' ⟨rfl, rfl⟩) | (go_at_call 134; refine (varNumber_any _ hv4.out.1 hv4.out.2 _).mono ?_; rintro e w' ⟨rfl, rfl⟩))
        refine (term_any g _ xs[k] _ (HR.out.2.1.far (p := ⟨w.heap.size + 2, k, none⟩) (by simp; omega) _) HE.out (by omega)).mono ?_
        rintro e w4 ⟨rfl, hn4, ho4⟩
        have hr4 := rowIs_only (HR.out.1.set k (.int .i64 xs[k])) ho4 (.inr (by omega))
        have hb4 := (HR.out.2.2.set (j := k) (.int .i64 xs[k])).only ho4
        have hc4 := hr4.cell hlt
        have hf4 := hr4.frozen k
        have HR4 := Lib.hid (And.intro hr4 (And.intro hn4 hb4))
        have HO := Lib.hid (renOut_at (s := s) hlt)
        clear hr4 hn4 hb4 ho4 hc2 hf2
        go_wp2_with (fail)
        go_roundw
        case rel =>
          refine ⟨k + 1, by omega, by go_num, (HR4.out.1.set k _).congr (fun j hj => ?_), ?_, HR4.out.2.2.set _⟩
          · by_cases e : j = k
            · subst e
              rw [if_pos rfl, if_pos (by omega), HO.out]
            · rw [if_neg e]
              by_cases h2 : j < k
              · rw [if_neg e, if_pos h2, if_pos (by omega)]
              · rw [if_neg e, if_neg h2, if_neg (by omega)]
          · rw [renList_take s hlt]
            exact HR4.out.2.1.far (by simp; omega) _
        case measure => simp [intOf]; omega
      · have he' : isVarB xs[k] = false := by simpa using he
        have HK := Lib.hid (isVar_is he')
        have HO := Lib.hid (show (renOut s xs).getD k 0 = xs[k] by rw [renOut_at hlt, look_no he'])
        have HT := Lib.hid (show renList s (xs.take (k + 1)) = renList s (xs.take k) by rw [renList_take s hlt, renStep_no he'])
        clear he he'
        go_wp2_with (go_at_call 133; refine (HK.out _).mono ?_; rintro e w' ⟨rfl, rfl⟩)
        go_roundw
        case rel =>
          refine ⟨k + 1, by omega, by go_num, (HR.out.1.set k _).congr (fun j hj => ?_), ?_, HR.out.2.2.set _⟩
          · by_cases e : j = k
            · subst e
              rw [if_pos rfl, if_pos (by omega), HO.out]
            · rw [if_neg e]
              by_cases h2 : j < k
              · rw [if_pos h2, if_pos (by omega)]
              · rw [if_neg h2, if_neg (by omega)]
          · rw [HT.out]
            exact HR.out.2.1.far (by simp; omega) _
        case measure => simp [intOf]; omega
    · have hkn : k = xs.length := by omega
      have HO : OwnInts wr (w.heap.size + 2) wr.heap.size (.slice (some ⟨w.heap.size + 2, 0, none⟩) (renOut s xs).length (renOut s xs).length) (renOut s xs) :=
        OwnInts.of_rowIs (by rw [renOut_length]; exact hrow.congr (fun j hj => by rw [if_pos (by omega)])) (Nat.le_refl _) hrow.lt (by rw [renOut_length]; unfold maxLen; omega)
      rw [renOut_length] at HO
      have HN2 := Lib.hid (show NamesAt wr g (renList s xs) by rw [hkn, List.take_length] at hnm; exact hnm)
      have HH := Lib.hid (And.intro HO hbt)
      have k0 : wr.cell? ⟨w.heap.size + 1, 0, none⟩ = some (.int .i64 0) := yr.cell 0
      have k1 : wr.cell? ⟨w.heap.size + 1, 1, none⟩ = some (.slice none 0 0) := yr.cell 1
      have j0 := yr.frozen 0
      have j1 := yr.frozen 1
      clear HO hkn hrow hnm hbt
      go_wp2_with (fail)
      have yb := (yr.set_ 0 (.int .i64 p)).set_ 1 (.slice (some ⟨w.heap.size + 2, 0, none⟩) xs.length xs.length)
      have d0 : ((wr.setCell ⟨w.heap.size + 1, 0, none⟩ (.int .i64 p)).setCell ⟨w.heap.size + 1, 1, none⟩ (.slice (some ⟨w.heap.size + 2, 0, none⟩) xs.length xs.length)).cell? ⟨w.heap.size + 1, 0, none⟩ = some (.int .i64 p) := by
        simpa using yb.cell 0
      have d1 : ((wr.setCell ⟨w.heap.size + 1, 0, none⟩ (.int .i64 p)).setCell ⟨w.heap.size + 1, 1, none⟩ (.slice (some ⟨w.heap.size + 2, 0, none⟩) xs.length xs.length)).cell? ⟨w.heap.size + 1, 1, none⟩ = some (.slice (some ⟨w.heap.size + 2, 0, none⟩) xs.length xs.length) := by
        simpa using yb.cell 1
      refine bodyPost_ret (v := .agg #[.int .i64 p, .slice (some ⟨w.heap.size + 2, 0, none⟩) xs.length xs.length]) (by simp [results, Tryz.results163, go_sem, d0, d1]) rfl ⟨_, _, rfl, ?_, ?_, ?_⟩
      · exact (((HH.out.1.set (p := ⟨w.heap.size + 1, 0, none⟩) (.inl (Nat.lt_succ_self _)) _).set (p := ⟨w.heap.size + 1, 1, none⟩) (.inl (Nat.lt_succ_self _)) _)).mono (by omega) (by simp)
      · exact (HN2.out.far (p := ⟨w.heap.size + 1, 0, none⟩) (by simp; omega) _).far (p := ⟨w.heap.size + 1, 1, none⟩) (by simp; omega) _
      · refine ⟨HH.out.2.os.trans B3.os, HH.out.2.tape.trans B3.tape, HH.out.2.output.trans B3.output, ?_, fun j hj hd => ?_⟩
        · have := HH.out.2.size
          simp
          omega
        · rw [Below.heap_setCell _ _ _ _ (by simp; omega), Below.heap_setCell _ _ _ _ (by simp; omega)]
          exact (HH.out.2.block j (by omega) (by omega) (by omega)).trans (B3.block j hj)

end Go.Proofs.YtokmmloakahkhaaGreat
/-
  Marks on lists of literals and on rules that are results, read again: markLitS, heldLitS, markAtom, heldAtom, markRule, heldRule.
-/
namespace Go.Proofs.YtokmmloakahkhaaGreat
open Go.RowKit

/-- The leaves of literal k of a row at offset o of block b. -/
def litEl (b o : Nat) (qs : Nat → List Addr) (k : Nat) : List Addr := ⟨b, o + k * 3, none⟩ :: ⟨b, o + k * 3 + 1, none⟩ :: qs k
/-- A slice of literals in blocks from lo on and below hi that may be written; ps are its leaves. -/
def LvLits (w : World) (lo hi : Nat) (v : Value) (ls : List LLit) (ps : List Addr) : Prop :=
  ∃ A c, v = .slice A ls.length c ∧ ls.length ≤ c ∧ (ls.length = 0 → ps = []) ∧ (0 < ls.length → ∃ b o qs, A = some ⟨b, o, none⟩ ∧ lo ≤ b ∧ b < hi ∧ ps = preL (litEl b o qs) ls.length ∧
    ∀ k (h : k < ls.length), (w.frozen? ⟨b, o + k * 3, none⟩ = false ∧ w.frozen? ⟨b, o + k * 3 + 1, none⟩ = false) ∧ ∃ x y u2,
      w.cell? ⟨b, o + k * 3, none⟩ = some (.int .i64 x) ∧ w.cell? ⟨b, o + k * 3 + 1, none⟩ = some (.int .i64 y) ∧ w.cell? ⟨b, o + k * 3 + 2, none⟩ = some u2 ∧ LvInts w lo hi u2 ls[k].2.2.length (qs k))
theorem LvLits.marked {w w' : World} {lo hi lo' hi' : Nat} {v : Value} {ls : List LLit} {ps : List Addr} (h : LvLits w lo hi v ls ps) (hm : Marked lo' hi' w w') : LvLits w' lo hi v ls ps := by
  obtain ⟨A, c, rfl, hc, h0, h⟩ := h
  refine ⟨A, c, rfl, hc, h0, fun hn => ?_⟩
  obtain ⟨b, o, qs, rfl, h1, h2, hp, hx⟩ := h hn
  refine ⟨b, o, qs, rfl, h1, h2, hp, fun k hk => ?_⟩
  obtain ⟨⟨f0, f1⟩, x, y, u2, c0, c1, c2, hI⟩ := hx k hk
  obtain ⟨x', d0⟩ := hm.int c0
  obtain ⟨y', d1⟩ := hm.int c1
  have hI' := hI.marked hm
  obtain ⟨A2, c2', rfl, _⟩ := hI
  exact ⟨⟨(hm.frozen _ (World.block_lt_of_cell? _ _ c0)).trans f0, (hm.frozen _ (World.block_lt_of_cell? _ _ c1)).trans f1⟩, _, _, _, d0, d1, hm.slice c2, hI'⟩
theorem litEl_len {w : World} {lo hi n : Nat} {u : Value} {b o : Nat} {qs : Nat → List Addr} {k : Nat} (h : LvInts w lo hi u n (qs k)) : (litEl b o qs k).length = 2 + n := by
  obtain ⟨_, _, _, _, hl, _⟩ := h
  simp [litEl, hl]
  omega

set_option maxHeartbeats 1000000 in
set_option maxRecDepth 100000 in
theorem lmarkLitS_any (v : Value) (ls : List LLit) (ps : List Addr) (k : Int) (lo hi : Nat) (w : World) (h : LvLits w lo hi v ls ps) (hnd : ps.Nodup) (hk0 : 0 ≤ k) (hk : k ≤ 4294967296) (hn : ps.length ≤ 1073741824) :
    Calls Tryz.prog 32 #[v, .int .i64 k] w fun e w' => e = .returned (.int .i64 (k + ps.length)) ∧ SeqAt lo hi k ps w w' := by
  have H := Lib.hid h
  have HND := Lib.hid hnd
  clear hnd
  obtain ⟨A, c, rfl, hc, h0, h⟩ := h
  have hcap : ls.length ≤ 9223372036854775807 := by
    rcases Nat.eq_zero_or_pos ls.length with e | hp
    · omega
    · obtain ⟨b, o, qs, rfl, h1, h2, rfl, hx⟩ := h hp
      have : ∀ j, j ≤ ls.length → j ≤ (preL (litEl b o qs) j).length := by
        intro j
        induction j with
        | zero => intro _; omega
        | succ j ih =>
          intro hj
          have := ih (by omega)
          rw [preL_succ, List.length_append]
          simp [litEl]
          omega
      have := this ls.length (Nat.le_refl _)
      omega
  rcases Nat.eq_zero_or_pos ls.length with hz | hp
  · have hps := h0 hz
    subst hps
    have HZ := Lib.hid hz
    have hz' : ¬ (0 : Int) < (ls.length : Int) := by omega
    clear hz h h0
    go_enter Tryz.func32, Tryz.ntmps32
    go_wp2_with (fail)
    go_loopw [1, 5] (fun m i wr => i = .int .i64 0 ∧ m = .int .i64 k ∧ wr = w) (fun _ i _ => 0)
    case atStart => exact ⟨rfl, rfl, rfl⟩
    case round =>
      obtain ⟨rfl, rfl, rfl⟩ := hrel
      go_wp2_with (fail)
      go_ret
      exact ⟨ret_int (by simp), SeqAt.below (Below.refl _ _)⟩
  · obtain ⟨b, o, qs, rfl, h1, h2, rfl, hx⟩ := h hp
    have HX := Lib.hid hx
    clear hx h
    go_enter Tryz.func32, Tryz.ntmps32
    go_wp2_with (fail)
    go_loopw [1, 5] (fun m i wr => ∃ (j : Nat) (q : Int), j ≤ ls.length ∧ i = .int .i64 j ∧ m = .int .i64 q ∧ q = k + ((preL (litEl b o qs) j).length : Int) ∧ SeqAt lo hi k (preL (litEl b o qs) j) w wr) (fun _ i _ => ls.length - (intOf i).toNat)
    case atStart => exact ⟨0, k, Nat.zero_le _, rfl, rfl, by simp [preL_zero], SeqAt.below (Below.refl _ _)⟩
    case round =>
      obtain ⟨j, q, hj, rfl, rfl, hq, hs⟩ := hrel
      by_cases hlt : j < ls.length
      · obtain ⟨⟨f0, f1⟩, x, y, u2, c0, c1, c2, hI⟩ := HX.out j hlt
        have hlen := litEl_len (b := b) (o := o) hI
        have hpl : (preL (litEl b o qs) (j + 1)).length ≤ (preL (litEl b o qs) ls.length).length := preL_length_le hlt
        rw [preL_succ, List.length_append, hlen] at hpl
        obtain ⟨x', d0⟩ := hs.marked.int c0
        obtain ⟨y', d1⟩ := hs.marked.int c1
        have hI2 := hI.marked hs.marked
        have g0 : wr.frozen? ⟨b, o + j * 3, none⟩ = false := (hs.marked.frozen _ (World.block_lt_of_cell? _ _ c0)).trans f0
        have g1 : wr.frozen? ⟨b, o + j * 3 + 1, none⟩ = false := (hs.marked.frozen _ (World.block_lt_of_cell? _ _ c1)).trans f1
        obtain ⟨A3, c3, rfl, hcc3, hl3, _⟩ := hI
        have d2 := hs.marked.slice c2
        have m0 := SeqAt.store (lo := lo) (hi := hi) (p := ⟨b, o + j * 3, none⟩) ⟨h1, h2⟩ d0 q
        obtain ⟨y2, e1⟩ := m0.marked.int d1
        have e2 := m0.marked.slice d2
        have k1 : (wr.setCell ⟨b, o + j * 3, none⟩ (.int .i64 q)).frozen? ⟨b, o + j * 3 + 1, none⟩ = false := (m0.marked.frozen _ (World.block_lt_of_cell? _ _ d1)).trans g1
        have m1 := SeqAt.store (lo := lo) (hi := hi) (p := ⟨b, o + j * 3 + 1, none⟩) ⟨h1, h2⟩ e1 (q + 1)
        have e3 := m1.marked.slice e2
        have hI3 := (hI2.marked m0.marked).marked m1.marked
        have HI := Lib.hid hI3
        have HS := Lib.hid (And.intro hs (And.intro m0 (And.intro m1 hq)))
        have hq0 : 0 ≤ q := by omega
        have hq1 : q ≤ 8589934592 := by omega
        have hl3' : ls[j].2.2.length ≤ 1073741824 := by omega
        have HLE := Lib.hid hlen
        clear hI2 hI3 m0 m1 hs hq hlen hpl e2 d2 c2 c0 c1 hl3
        go_wp2_with (fail)
        refine (lmarkIntS_any _ _ (qs j) (q + 1 + 1) lo hi _ HI.out (by omega) (by omega)).mono ?_
        rintro e w3 ⟨rfl, hm3⟩
        obtain ⟨hs, m0, m1, hq⟩ := HS.out
        have hnd := preL_nodup HND.out hlt
        have hst : SeqAt lo hi k (preL (litEl b o qs) (j + 1)) w w3 := by
          rw [preL_succ]
          refine hs.append ?_ (fun p hp hp2 => (List.nodup_append.1 hnd).2.2 p hp p hp2 rfl)
          rw [← hq]
          have hn2 := (List.nodup_append.1 hnd).2.1
          have hm01 := m0.append (qs := [⟨b, o + j * 3 + 1, none⟩]) (by simpa using m1) (by simp [litEl] at hn2 ⊢)
          refine hm01.append (qs := qs j) ?_ (fun p hp hp2 => ?_)
          · simpa [Int.add_assoc] using hm3
          · simp only [litEl, List.nodup_cons, List.mem_cons, not_or] at hn2
            simp only [List.mem_append, List.mem_singleton] at hp
            rcases hp with rfl | rfl
            · exact hn2.1.2 hp2
            · exact hn2.2.1 hp2
        have HQ := Lib.hid (And.intro (show q + 1 + 1 + (ls[j].2.2.length : Int) = k + ((preL (litEl b o qs) (j + 1)).length : Int) by
          rw [preL_succ, List.length_append, HLE.out, hq]
          omega) hst)
        clear hs m0 m1 hq hnd hst hm3
        go_wp2_with (fail)
        go_roundw
        case rel => exact ⟨j + 1, _, by omega, by go_num, rfl, HQ.out.1, HQ.out.2⟩
        case measure => simp [intOf]; omega
      · have hkn : j = ls.length := by omega
        have HK := Lib.hid (show q = k + ((preL (litEl b o qs) ls.length).length : Int) by rw [hq, hkn])
        have HS := Lib.hid (show SeqAt lo hi k (preL (litEl b o qs) ls.length) w wr by rw [hkn] at hs; exact hs)
        clear hkn hs hq
        go_wp2_with (fail)
        go_ret
        exact ⟨ret_int HK.out, HS.out⟩

theorem preL_lits_le (b o : Nat) (qs : Nat → List Addr) : ∀ j, j ≤ (preL (litEl b o qs) j).length
  | 0 => by simp [preL_zero]
  | j + 1 => by
    have := preL_lits_le b o qs j
    rw [preL_succ, List.length_append]
    simp [litEl]
    omega

/-- A rule of blocks from lo on and below hi that may be written; ps are its leaves. -/
def LvRule (w : World) (lo hi : Nat) (v : Value) (r : LRule) (ps : List Addr) : Prop :=
  ∃ p a b qs rs, v = .agg #[.int .i64 p, a, b] ∧ ps = qs ++ rs ∧ LvInts w lo hi a r.1.2.length qs ∧ LvLits w lo hi b r.2 rs
theorem LvRule.marked {w w' : World} {lo hi lo' hi' : Nat} {v : Value} {r : LRule} {ps : List Addr} (h : LvRule w lo hi v r ps) (hm : Marked lo' hi' w w') : LvRule w' lo hi v r ps := by
  obtain ⟨p, a, b, qs, rs, rfl, rfl, h1, h2⟩ := h
  exact ⟨p, a, b, qs, rs, rfl, rfl, h1.marked hm, h2.marked hm⟩

end Go.Proofs.YtokmmloakahkhaaGreat
/-
  A row that make laid and a loop fills, element by element, each element's own memory behind the one's ahead of it: so no two share a cell. The words; no walk.
-/
namespace Go.Proofs.YtokmmloakahkhaaGreat
open Go.RowKit

section
variable {α : Type}
/-- What holds at the loop that fills block g with xs: k elements are there; element j's own memory lies in blocks from f j on and below f (j + 1). -/
structure Fill (t : TypeId) (z0 z1 z2 : Value) (O : World → Nat → Nat → Value → Value → Value → α → Prop) (g : Nat) (wr : World) (xs : List α) (k : Nat) (f : Nat → Nat) : Prop where
  row : ∃ cur : Array Value, Blk wr g t cur ∧ (∀ j, j < k → ∀ hx : j < xs.length, ∃ u0 u1 u2, cur[j * 3]? = some u0 ∧ cur[j * 3 + 1]? = some u1 ∧ cur[j * 3 + 2]? = some u2 ∧ O wr (f j) (f (j + 1)) u0 u1 u2 xs[j]) ∧
    (∀ j, k ≤ j → j < xs.length → cur[j * 3]? = some z0 ∧ cur[j * 3 + 1]? = some z1 ∧ cur[j * 3 + 2]? = some z2)
  mono : ∀ j, j < k → f j ≤ f (j + 1)
  lo : g < f 0
  hi : f k ≤ wr.heap.size

variable {t : TypeId} {z0 z1 z2 : Value} {O : World → Nat → Nat → Value → Value → Value → α → Prop} {g : Nat} {w wr w4 : World} {xs : List α} {k : Nat} {f : Nat → Nat}
theorem Fill.start (h : Blk w g t (madeCells #[z0, z1, z2] (xs.length * 3))) (m : Nat) (hm : g < m) (hw : m ≤ w.heap.size) : Fill t z0 z1 z2 O g w xs 0 (fun _ => m) :=
  ⟨⟨_, h, fun j hj => absurd hj (by omega), fun j _ hj => by
    have e0 : j * 3 % 3 = 0 := by omega
    have e1 : (j * 3 + 1) % 3 = 1 := by omega
    have e2 : (j * 3 + 2) % 3 = 2 := by omega
    have l0 : j * 3 < xs.length * 3 := by omega
    have l1 : j * 3 + 1 < xs.length * 3 := by omega
    have l2 : j * 3 + 2 < xs.length * 3 := by omega
    refine ⟨?_, ?_, ?_⟩ <;> simp [madeCells, *]⟩, fun j hj => absurd hj (by omega), hm, hw⟩
theorem Fill.le (h : Fill t z0 z1 z2 O g wr xs k f) : ∀ {i j : Nat}, i ≤ j → j ≤ k → f i ≤ f j := by
  intro i j hij
  induction j with
  | zero => intro _; rw [show i = 0 by omega]; exact Nat.le_refl _
  | succ j ih =>
    intro hj
    by_cases e : i = j + 1
    · rw [e]; exact Nat.le_refl _
    · exact Nat.le_trans (ih (by omega) (by omega)) (h.mono j (by omega))
theorem Fill.room (h : Fill t z0 z1 z2 O g wr xs k f) (hlt : k < xs.length) (hb : w4.heap[g]? = wr.heap[g]?) :
    w4.cell? ⟨g, k * 3, none⟩ = some z0 ∧ w4.cell? ⟨g, k * 3 + 1, none⟩ = some z1 ∧ w4.cell? ⟨g, k * 3 + 2, none⟩ = some z2 ∧
    w4.frozen? ⟨g, k * 3, none⟩ = false ∧ w4.frozen? ⟨g, k * 3 + 1, none⟩ = false ∧ w4.frozen? ⟨g, k * 3 + 2, none⟩ = false := by
  obtain ⟨cur, hcur, _, hz⟩ := h.row
  have h4 : Blk w4 g t cur := hb.trans hcur
  obtain ⟨c0, c1, c2⟩ := hz k (Nat.le_refl _) hlt
  exact ⟨(h4.cell _).trans c0, (h4.cell _).trans c1, (h4.cell _).trans c2, h4.frozen _, h4.frozen _, h4.frozen _⟩
theorem Fill.kept (keep : ∀ {w w' : World} {lo hi : Nat} {u0 u1 u2 : Value} {x : α}, O w lo hi u0 u1 u2 x → (∀ g, lo ≤ g → g < hi → w'.heap[g]? = w.heap[g]?) → O w' lo hi u0 u1 u2 x)
    (h : Fill t z0 z1 z2 O g wr xs k f) (hb : w4.heap[g]? = wr.heap[g]?) (hk : ∀ b, f 0 ≤ b → b < f k → w4.heap[b]? = wr.heap[b]?) (hsz : wr.heap.size ≤ w4.heap.size) : Fill t z0 z1 z2 O g w4 xs k f := by
  obtain ⟨cur, hcur, hdone, hz⟩ := h.row
  refine ⟨⟨cur, hb.trans hcur, fun j hj hx => ?_, hz⟩, h.mono, h.lo, Nat.le_trans h.hi hsz⟩
  obtain ⟨v0, v1, v2, c0, c1, c2, hO⟩ := hdone j hj hx
  have g1 := h.le (Nat.zero_le j) (by omega)
  have g2 := h.le (show j + 1 ≤ k by omega) (Nat.le_refl _)
  exact ⟨v0, v1, v2, c0, c1, c2, keep hO fun b h1 h2 => hk b (by omega) (by omega)⟩
/-- One more element. -/
theorem Fill.step (keep : ∀ {w w' : World} {lo hi : Nat} {u0 u1 u2 : Value} {x : α}, O w lo hi u0 u1 u2 x → (∀ g, lo ≤ g → g < hi → w'.heap[g]? = w.heap[g]?) → O w' lo hi u0 u1 u2 x)
    (omono : ∀ {w : World} {lo hi lo' hi' : Nat} {u0 u1 u2 : Value} {x : α}, O w lo hi u0 u1 u2 x → lo' ≤ lo → hi ≤ hi' → O w lo' hi' u0 u1 u2 x)
    (h : Fill t z0 z1 z2 O g wr xs k f) (hlt : k < xs.length) (hb : w4.heap[g]? = wr.heap[g]?) (hk : ∀ b, f 0 ≤ b → b < f k → w4.heap[b]? = wr.heap[b]?) (hsz : wr.heap.size ≤ w4.heap.size)
    {u0 u1 u2 : Value} (ha : O w4 wr.heap.size w4.heap.size u0 u1 u2 xs[k]) :
    Fill t z0 z1 z2 O g (((w4.setCell ⟨g, k * 3, none⟩ u0).setCell ⟨g, k * 3 + 1, none⟩ u1).setCell ⟨g, k * 3 + 2, none⟩ u2) xs (k + 1) (fun j => if j ≤ k then f j else w4.heap.size) := by
  have hh := h.hi
  have hlo := h.lo
  have hf : ∀ b, b ≠ g → (((w4.setCell ⟨g, k * 3, none⟩ u0).setCell ⟨g, k * 3 + 1, none⟩ u1).setCell ⟨g, k * 3 + 2, none⟩ u2).heap[b]? = w4.heap[b]? := fun b hne => by
    rw [Below.heap_setCell _ _ _ _ hne, Below.heap_setCell _ _ _ _ hne, Below.heap_setCell _ _ _ _ hne]
  obtain ⟨cur, hcur, hdone, hz⟩ := h.row
  have h4 : Blk w4 g t cur := hb.trans hcur
  have hlast : cur.size > k * 3 + 2 := by
    have := (hz k (Nat.le_refl _) hlt).2.2
    exact (Array.getElem?_eq_some_iff.1 this).1
  refine ⟨⟨_, ((h4.set_ (k * 3) u0).set_ (k * 3 + 1) u1).set_ (k * 3 + 2) u2, fun j hj hx => ?_, fun j hj hx => ?_⟩, fun j hj => ?_, by simp; omega, by rw [if_neg (by omega)]; simp⟩
  · by_cases e : j = k
    · subst e
      refine ⟨u0, u1, u2, ?_, ?_, ?_, ?_⟩
      · simp [Array.getElem?_setIfInBounds]; omega
      · simp [Array.getElem?_setIfInBounds]; omega
      · simp [Array.getElem?_setIfInBounds]; omega
      · rw [if_pos (Nat.le_refl _), if_neg (by omega)]
        exact omono (keep ha fun b h1 _ => hf b (by have := h.le (Nat.zero_le j) (Nat.le_refl _); omega)) hh (Nat.le_refl _)
    · obtain ⟨v0, v1, v2, c0, c1, c2, hO⟩ := hdone j (by omega) hx
      refine ⟨v0, v1, v2, ?_, ?_, ?_, ?_⟩
      · rw [← c0]; simp only [Array.getElem?_setIfInBounds, Array.size_setIfInBounds]; rw [if_neg (by omega), if_neg (by omega), if_neg (by omega)]
      · rw [← c1]; simp only [Array.getElem?_setIfInBounds, Array.size_setIfInBounds]; rw [if_neg (by omega), if_neg (by omega), if_neg (by omega)]
      · rw [← c2]; simp only [Array.getElem?_setIfInBounds, Array.size_setIfInBounds]; rw [if_neg (by omega), if_neg (by omega), if_neg (by omega)]
      · rw [if_pos (by omega), if_pos (by omega)]
        refine keep hO fun b h1 h2 => ?_
        have g1 := h.le (Nat.zero_le j) (by omega)
        have g2 := h.le (show j + 1 ≤ k by omega) (Nat.le_refl _)
        rw [hf b (by omega)]
        exact hk b (by omega) (by omega)
  · obtain ⟨c0, c1, c2⟩ := hz j (by omega) hx
    refine ⟨?_, ?_, ?_⟩
    · rw [← c0]; simp only [Array.getElem?_setIfInBounds, Array.size_setIfInBounds]; rw [if_neg (by omega), if_neg (by omega), if_neg (by omega)]
    · rw [← c1]; simp only [Array.getElem?_setIfInBounds, Array.size_setIfInBounds]; rw [if_neg (by omega), if_neg (by omega), if_neg (by omega)]
    · rw [← c2]; simp only [Array.getElem?_setIfInBounds, Array.size_setIfInBounds]; rw [if_neg (by omega), if_neg (by omega), if_neg (by omega)]
  · by_cases e : j = k
    · subst e
      rw [if_pos (Nat.le_refl _), if_neg (by omega)]
      omega
    · rw [if_pos (by omega), if_pos (by omega)]
      exact h.mono j (by omega)
end

/-- A filled row of literals reads so, and its leaves are once each. -/
theorem Fill.lits {z0 z1 z2 : Value} {g : Nat} {wr : World} {ls : List LLit} {f : Nat → Nat} {c lo hi : Nat} (h : Fill 35 z0 z1 z2 OLit g wr ls ls.length f) (hc : ls.length ≤ c) (hlo : lo ≤ g) (hhi : wr.heap.size ≤ hi) :
    OwnLits wr lo hi (.slice (some ⟨g, 0, none⟩) ls.length c) ls ∧ ∃ ps, LvLits wr lo hi (.slice (some ⟨g, 0, none⟩) ls.length c) ls ps ∧ ps.Nodup ∧ ∀ p ∈ ps, p.block = g ∨ (f 0 ≤ p.block ∧ p.block < wr.heap.size) := by
  obtain ⟨cur, hcur, hdone, _⟩ := h.row
  have hgl := hcur.lt
  have hfl : ∀ j, j < ls.length → f 0 ≤ f j ∧ f (j + 1) ≤ wr.heap.size := fun j hj => ⟨h.le (Nat.zero_le j) (by omega), Nat.le_trans (h.le (show j + 1 ≤ ls.length by omega) (Nat.le_refl _)) h.hi⟩
  have hlo0 := h.lo
  refine ⟨⟨_, c, rfl, hc, fun _ => ⟨g, 0, rfl, hlo, by omega, fun j hj => ?_⟩⟩, ?_⟩
  · obtain ⟨u0, u1, u2, c0, c1, c2, e0, e1, hI⟩ := hdone j hj hj
    have := hfl j hj
    exact ⟨⟨hcur.frozen _, hcur.frozen _⟩, u0, u1, u2, by simpa using (hcur.cell (j * 3)).trans c0, by simpa using (hcur.cell (j * 3 + 1)).trans c1, by simpa using (hcur.cell (j * 3 + 2)).trans c2, e0, e1, hI.mono (by omega) (by omega)⟩
  · rcases Nat.eq_zero_or_pos ls.length with hz | hp
    · refine ⟨[], ⟨_, c, rfl, hc, fun _ => rfl, fun hn => absurd hn (by omega)⟩, List.nodup_nil, fun p hp => by simp at hp⟩
    · have hex : ∀ j, ∃ q : List Addr, ∀ (hj : j < ls.length), ∃ u2, cur[j * 3 + 2]? = some u2 ∧ LvInts wr (f j) (f (j + 1)) u2 ls[j].2.2.length q := fun j => by
        by_cases hj : j < ls.length
        · obtain ⟨u0, u1, u2, c0, c1, c2, e0, e1, hI⟩ := hdone j hj hj
          obtain ⟨q, hq⟩ := hI.leaves
          exact ⟨q, fun _ => ⟨u2, c2, hq⟩⟩
        · exact ⟨[], fun hj' => absurd hj' hj⟩
      obtain ⟨qs, hqs⟩ := Classical.axiomOfChoice hex
      have hblk : ∀ j, j < ls.length → ∀ p ∈ qs j, f j ≤ p.block ∧ p.block < f (j + 1) := fun j hj p hp => by
        obtain ⟨u2, _, hL⟩ := hqs j hj
        exact hL.block hp
      refine ⟨preL (litEl g 0 qs) ls.length, ⟨_, c, rfl, hc, fun hz => absurd hp (by omega), fun _ => ⟨g, 0, qs, rfl, hlo, by omega, rfl, fun j hj => ?_⟩⟩, ?_, fun p hp => ?_⟩
      · obtain ⟨u0, u1, u2, c0, c1, c2, rfl, rfl, hI⟩ := hdone j hj hj
        obtain ⟨u2', c2', hL⟩ := hqs j hj
        have hu : u2 = u2' := Option.some.inj (c2.symm.trans c2')
        subst hu
        have := hfl j hj
        refine ⟨⟨hcur.frozen _, hcur.frozen _⟩, _, _, u2, by simpa using (hcur.cell (j * 3)).trans c0, by simpa using (hcur.cell (j * 3 + 1)).trans c1, by simpa using (hcur.cell (j * 3 + 2)).trans c2, hL.mono (by omega) (by omega)⟩
      · refine preL_nodup_of (fun j hj => ?_) (fun i j hij hj p hpi hpj => ?_)
        · obtain ⟨u2, _, hL⟩ := hqs j hj
          have hb := hblk j hj
          have := hfl j hj
          refine List.nodup_cons.2 ⟨fun hm => ?_, List.nodup_cons.2 ⟨fun hm => ?_, hL.nodup⟩⟩
          · rcases List.mem_cons.1 hm with e | hm
            · injection e with _ e _
              omega
            · have := hb _ hm
              simp at this
              omega
          · have := hb _ hm
            simp at this
            omega
        · have hi := hblk i (by omega)
          have hj' := hblk j hj
          have h1 := hfl i (by omega)
          have h2 := hfl j hj
          have h3 := h.le (show i + 1 ≤ j by omega) (by omega)
          have hcase : ∀ k, ∀ q ∈ litEl g 0 qs k, q = ⟨g, 0 + k * 3, none⟩ ∨ q = ⟨g, 0 + k * 3 + 1, none⟩ ∨ q ∈ qs k := fun k q hq => by
            simpa [litEl] using hq
          rcases hcase i p hpi with rfl | rfl | hpi <;> rcases hcase j _ hpj with e | e | hpj
          · injection e with _ e _; omega
          · injection e with _ e _; omega
          · have := hj' _ hpj; simp at this; omega
          · injection e with _ e _; omega
          · injection e with _ e _; omega
          · have := hj' _ hpj; simp at this; omega
          · have := hi _ hpi; rw [e] at this; simp at this; omega
          · have := hi _ hpi; rw [e] at this; simp at this; omega
          · have := hi _ hpi; have := hj' _ hpj; omega
      · obtain ⟨j, hj, hpj⟩ := mem_preL.1 hp
        have hb := hblk j hj
        have := hfl j hj
        simp only [litEl, List.mem_cons] at hpj
        rcases hpj with rfl | rfl | hpj
        · exact .inl rfl
        · exact .inl rfl
        · have := hb _ hpj
          exact .inr (by omega)

end Go.Proofs.YtokmmloakahkhaaGreat
/-
  The program's renaming: the walks of ruleHasTerms and Renamed.
-/
namespace Go.Proofs.YtokmmloakahkhaaGreat
open Go.RowKit

theorem Blk.last (w : World) (o : Obj) (t : TypeId) (cs : Array Value) : Blk ((w.alloc o).alloc (.cells cs t)).drew (w.heap.size + 1) t cs := by
  have := Blk.new (w.alloc o) t cs
  rw [World.size_alloc] at this
  exact this
theorem Only.al {lo hi : Nat} {w W : World} (h : Only lo hi w W) (o : Obj) : Only lo hi w (W.alloc o) := h.trans (Only.of_below (below1 _ _))
theorem Only.setNew {lo hi : Nat} {w W : World} (h : Only lo hi w W) {p : Addr} (hp : w.heap.size ≤ p.block) (u : Value) : Only lo hi w (W.setCell p u) :=
  ⟨h.os, h.tape, h.output, by simpa using h.size, fun k hk ho => (Below.heap_setCell _ _ _ _ (by omega)).trans (h.block k hk ho)⟩

/-- What holds behind the region that begins a renamed rule: the new rule's block gO, its body's row gB, its head's row, the names. -/
def RenMid (w2 : World) (g : Nat) (p : Int) (s0 : Ren) (xs : List Int) (m : Nat) (ptr : Value) (wx : World) : Prop :=
  ∃ gO gB A c la ha, ptr = .pointer (some ⟨gO, 0, none⟩) ∧ Blk wx gO 69 #[.int .i64 p, .slice A xs.length c, .slice (some ⟨gB, 0, none⟩) m m] ∧ Blk wx gB 35 (madeCells #[.int .i64 0, .int .i64 0, .slice none 0 0] (m * 3)) ∧
    OwnInts wx la ha (.slice A xs.length c) (renOut s0 xs) ∧ NamesAt wx g (renList s0 xs) ∧ Only g (g + 1) w2 wx ∧ (w2.heap.size ≤ la ∧ w2.heap.size ≤ gO ∧ w2.heap.size ≤ gB) ∧ ((gO < la ∨ ha ≤ gO) ∧ (gB < la ∨ ha ≤ gB) ∧ gO ≠ gB) ∧ ha ≤ wx.heap.size

section
variable {w2 W3 : World} {g m la : Nat} {p : Int} {s0 : Ren} {xs : List Int} {A : Option Addr} {c : Nat}
/-- The row of a new body, before it is filled. -/
abbrev litRow (m : Nat) : Obj := Obj.cells (madeCells #[Value.int IntKind.i64 0, Value.int IntKind.i64 0, Value.slice none 0 0] (m * 3)) 35
abbrev outRow (p : Int) (A : Option Addr) (n c gB m : Nat) : Obj := Obj.cells #[Value.int IntKind.i64 p, Value.slice A n c, Value.slice (some ⟨gB, 0, none⟩) m m] 69
theorem OwnInts.al {w : World} {lo hi : Nat} {v : Value} {ys : List Int} (h : OwnInts w lo hi v ys) (hh : hi ≤ w.heap.size) (o : Obj) : OwnInts (w.alloc o) lo hi v ys := h.below (below1 _ _) hh
theorem RenMid.o1 (hK : Only g (g + 1) w2 W3) (ho : OwnInts W3 la W3.heap.size (.slice A xs.length c) (renOut s0 xs)) (hn : NamesAt W3 g (renList s0 xs)) (hla : w2.heap.size ≤ la) :
    RenMid w2 g p s0 xs m (.pointer (some ⟨W3.heap.size + 1, 0, none⟩)) ((W3.alloc (litRow m)).alloc (outRow p A xs.length c W3.heap.size m)) := by
  have hs := hK.size
  refine ⟨W3.heap.size + 1, W3.heap.size, A, c, la, W3.heap.size, rfl, ?_, (Blk.new W3 _ _).alloc _, (ho.al (Nat.le_refl _) _).al (by simp) _, hn.below (below2 _ _ _) hn.lt, (hK.al _).al _, ⟨hla, by omega, by omega⟩, ⟨.inr (by omega), .inr (Nat.le_refl _), by omega⟩, by simp; omega⟩
  have := Blk.new (W3.alloc (litRow m)) 69 #[Value.int IntKind.i64 p, Value.slice A xs.length c, Value.slice (some ⟨W3.heap.size, 0, none⟩) m m]
  rw [World.size_alloc] at this
  exact this
theorem RenMid.o2 (hK : Only g (g + 1) w2 W3) (ho : OwnInts W3 la W3.heap.size (.slice A xs.length c) (renOut s0 xs)) (hn : NamesAt W3 g (renList s0 xs)) (hla : w2.heap.size ≤ la) :
    RenMid w2 g p s0 xs m (.pointer (some ⟨W3.heap.size, 0, none⟩)) ((W3.alloc (outRow p A xs.length c (W3.heap.size + 1) m)).alloc (litRow m)) := by
  have hs := hK.size
  refine ⟨W3.heap.size, W3.heap.size + 1, A, c, la, W3.heap.size, rfl, (Blk.new W3 _ _).alloc _, ?_, (ho.al (Nat.le_refl _) _).al (by simp) _, hn.below (below2 _ _ _) hn.lt, (hK.al _).al _, ⟨hla, by omega, by omega⟩, ⟨.inr (Nat.le_refl _), .inr (by omega), by omega⟩, by simp; omega⟩
  have := Blk.new (W3.alloc (outRow p A xs.length c (W3.heap.size + 1) m)) 35 (madeCells #[Value.int IntKind.i64 0, Value.int IntKind.i64 0, Value.slice none 0 0] (m * 3))
  rw [World.size_alloc] at this
  exact this
theorem RenMid.o3 (hg : g < w2.heap.size) (hb : Only g (g + 1) (w2.alloc (litRow m)).drew W3) (ho : OwnInts W3 (w2.alloc (litRow m)).drew.heap.size W3.heap.size (.slice A xs.length c) (renOut s0 xs)) (hn : NamesAt W3 g (renList s0 xs)) :
    RenMid w2 g p s0 xs m (.pointer (some ⟨W3.heap.size, 0, none⟩)) (W3.alloc (outRow p A xs.length c w2.heap.size m)) := by
  have hs := hb.size
  simp at hs
  have hK : Only g (g + 1) w2 W3 := (Only.of_below (below1 w2 (litRow m)).drew).trans hb
  have z : Blk W3 w2.heap.size 35 (madeCells #[.int .i64 0, .int .i64 0, .slice none 0 0] (m * 3)) := (show Blk (w2.alloc (litRow m)).drew _ _ _ from Blk.new w2 _ _).only hb (.inr (by omega))
  exact ⟨W3.heap.size, w2.heap.size, A, c, _, W3.heap.size, rfl, Blk.new W3 _ _, z.alloc _, ho.al (Nat.le_refl _) _, hn.below (below1 _ _) hn.lt, hK.al _, ⟨by simp, by omega, Nat.le_refl _⟩, ⟨.inr (Nat.le_refl _), .inl (by simp), by omega⟩, by simp⟩
theorem OwnInts.set3 {w : World} {lo hi gO : Nat} {v : Value} {ys : List Int} (h : OwnInts w lo hi v ys) (hp : gO < lo) (u0 u1 u2 : Value) : OwnInts (((w.setCell ⟨gO, 0, none⟩ u0).setCell ⟨gO, 1, none⟩ u1).setCell ⟨gO, 2, none⟩ u2) lo hi v ys :=
  ((h.set (p := ⟨gO, 0, none⟩) (.inl hp) _).set (p := ⟨gO, 1, none⟩) (.inl hp) _).set (p := ⟨gO, 2, none⟩) (.inl hp) _
theorem NamesAt.set3 {w : World} {g gO : Nat} {s : Ren} (h : NamesAt w g s) (hp : g ≠ gO) (u0 u1 u2 : Value) : NamesAt (((w.setCell ⟨gO, 0, none⟩ u0).setCell ⟨gO, 1, none⟩ u1).setCell ⟨gO, 2, none⟩ u2) g s :=
  ((h.far (p := ⟨gO, 0, none⟩) hp _).far (p := ⟨gO, 1, none⟩) hp _).far (p := ⟨gO, 2, none⟩) hp _
theorem Only.set3 {w W : World} {lo hi gO : Nat} (h : Only lo hi w W) (hp : w.heap.size ≤ gO) (u0 u1 u2 : Value) : Only lo hi w (((W.setCell ⟨gO, 0, none⟩ u0).setCell ⟨gO, 1, none⟩ u1).setCell ⟨gO, 2, none⟩ u2) :=
  ((h.setNew (p := ⟨gO, 0, none⟩) hp _).setNew (p := ⟨gO, 1, none⟩) hp _).setNew (p := ⟨gO, 2, none⟩) hp _
theorem Blk.set3 {w : World} {gO : Nat} {t : TypeId} {v0 v1 v2 : Value} (h : Blk w gO t #[v0, v1, v2]) (u0 u1 u2 : Value) : Blk (((w.setCell ⟨gO, 0, none⟩ u0).setCell ⟨gO, 1, none⟩ u1).setCell ⟨gO, 2, none⟩ u2) gO t #[u0, u1, u2] := by
  simpa using ((h.set_ 0 u0).set_ 1 u1).set_ 2 u2
theorem Blk.far3 {w : World} {g gO : Nat} {t : TypeId} {cs : Array Value} (h : Blk w g t cs) (hp : g ≠ gO) (u0 u1 u2 : Value) : Blk (((w.setCell ⟨gO, 0, none⟩ u0).setCell ⟨gO, 1, none⟩ u1).setCell ⟨gO, 2, none⟩ u2) g t cs :=
  ((h.far (p := ⟨gO, 0, none⟩) hp _).far (p := ⟨gO, 1, none⟩) hp _).far (p := ⟨gO, 2, none⟩) hp _
theorem size_set3 (w : World) (gO : Nat) (u0 u1 u2 : Value) : (((w.setCell ⟨gO, 0, none⟩ u0).setCell ⟨gO, 1, none⟩ u1).setCell ⟨gO, 2, none⟩ u2).heap.size = w.heap.size := by simp
theorem NamesAt.set3' {w : World} {g gO a b c : Nat} {s : Ren} (h : NamesAt w g s) (hp : g ≠ gO) (u0 u1 u2 : Value) : NamesAt (((w.setCell ⟨gO, a, none⟩ u0).setCell ⟨gO, b, none⟩ u1).setCell ⟨gO, c, none⟩ u2) g s :=
  ((h.far (p := ⟨gO, a, none⟩) hp _).far (p := ⟨gO, b, none⟩) hp _).far (p := ⟨gO, c, none⟩) hp _
/-- The new rule before it is filled. -/
abbrev ruleRow : Obj := Obj.cells #[Value.int IntKind.i64 0, Value.slice none 0 0, Value.slice none 0 0] 69
theorem RenMid.o4 (hg : g < w2.heap.size) (hb : Only g (g + 1) ((w2.alloc (litRow m)).alloc ruleRow).drew W3) (ho : OwnInts W3 ((w2.alloc (litRow m)).alloc ruleRow).drew.heap.size W3.heap.size (.slice A xs.length c) (renOut s0 xs)) (hn : NamesAt W3 g (renList s0 xs)) :
    RenMid w2 g p s0 xs m (.pointer (some ⟨w2.heap.size + 1, 0, none⟩)) (((W3.setCell ⟨w2.heap.size + 1, 0, none⟩ (.int .i64 p)).setCell ⟨w2.heap.size + 1, 1, none⟩ (.slice A xs.length c)).setCell ⟨w2.heap.size + 1, 2, none⟩ (.slice (some ⟨w2.heap.size, 0, none⟩) m m)) := by
  have hs := hb.size
  simp at hs
  have hK : Only g (g + 1) w2 W3 := (Only.of_below (below2 w2 (litRow m) ruleRow).drew).trans hb
  have z : Blk W3 w2.heap.size 35 (madeCells #[.int .i64 0, .int .i64 0, .slice none 0 0] (m * 3)) := (show Blk ((w2.alloc (litRow m)).alloc ruleRow).drew _ _ _ from (Blk.new w2 _ _).alloc _).only hb (.inr (by omega))
  have y := (Blk.last w2 (litRow m) 69 #[Value.int IntKind.i64 0, Value.slice none 0 0, Value.slice none 0 0]).only hb (.inr (by omega))
  exact ⟨w2.heap.size + 1, w2.heap.size, A, c, _, W3.heap.size, rfl, y.set3 _ _ _, z.far3 (by omega) _ _ _, ho.set3 (by simp) _ _ _, hn.set3 (by omega) _ _ _, hK.set3 (by omega) _ _ _, ⟨by simp; omega, by omega, Nat.le_refl _⟩, ⟨.inl (by simp), .inl (by simp; omega), by omega⟩, by rw [size_set3]; exact Nat.le_refl _⟩
theorem RenMid.o5 (hg : g < w2.heap.size) (hb : Only g (g + 1) (w2.alloc ruleRow).drew W3) (ho : OwnInts W3 (w2.alloc ruleRow).drew.heap.size W3.heap.size (.slice A xs.length c) (renOut s0 xs)) (hn : NamesAt W3 g (renList s0 xs)) :
    RenMid w2 g p s0 xs m (.pointer (some ⟨w2.heap.size, 0, none⟩)) ((((W3.setCell ⟨w2.heap.size, 0, none⟩ (.int .i64 p)).setCell ⟨w2.heap.size, 1, none⟩ (.slice A xs.length c)).setCell ⟨w2.heap.size, 2, none⟩ (.slice (some ⟨W3.heap.size, 0, none⟩) m m)).alloc (litRow m)) := by
  have hs := hb.size
  simp at hs
  have hK : Only g (g + 1) w2 W3 := (Only.of_below (below1 w2 ruleRow).drew).trans hb
  have y : Blk W3 w2.heap.size 69 #[Value.int IntKind.i64 0, Value.slice none 0 0, Value.slice none 0 0] := (show Blk (w2.alloc ruleRow).drew _ _ _ from Blk.new w2 _ _).only hb (.inr (by omega))
  have hsz := size_set3 W3 w2.heap.size (.int .i64 p) (.slice A xs.length c) (.slice (some ⟨W3.heap.size, 0, none⟩) m m)
  have hN := hn.set3 (gO := w2.heap.size) (by omega) (.int .i64 p) (.slice A xs.length c) (.slice (some ⟨W3.heap.size, 0, none⟩) m m)
  refine ⟨w2.heap.size, W3.heap.size, A, c, _, W3.heap.size, rfl, (y.set3 _ _ _).alloc _, ?_, (ho.set3 (by simp) _ _ _).al (by rw [hsz]; exact Nat.le_refl _) _, hN.below (below1 _ _) hN.lt, (hK.set3 (Nat.le_refl _) _ _ _).al _, ⟨by simp, Nat.le_refl _, by omega⟩, ⟨.inl (by simp), .inr (Nat.le_refl _), by omega⟩, by simp⟩
  have hz := Blk.new (((W3.setCell ⟨w2.heap.size, 0, none⟩ (.int .i64 p)).setCell ⟨w2.heap.size, 1, none⟩ (.slice A xs.length c)).setCell ⟨w2.heap.size, 2, none⟩ (.slice (some ⟨W3.heap.size, 0, none⟩) m m)) 35 (madeCells #[Value.int IntKind.i64 0, Value.int IntKind.i64 0, Value.slice none 0 0] (m * 3))
  rw [hsz] at hz
  exact hz
theorem RenMid.o6 (hg : g < w2.heap.size) (hb : Only g (g + 1) ((w2.alloc ruleRow).alloc (litRow m)).drew W3) (ho : OwnInts W3 ((w2.alloc ruleRow).alloc (litRow m)).drew.heap.size W3.heap.size (.slice A xs.length c) (renOut s0 xs)) (hn : NamesAt W3 g (renList s0 xs)) :
    RenMid w2 g p s0 xs m (.pointer (some ⟨w2.heap.size, 0, none⟩)) (((W3.setCell ⟨w2.heap.size, 0, none⟩ (.int .i64 p)).setCell ⟨w2.heap.size, 1, none⟩ (.slice A xs.length c)).setCell ⟨w2.heap.size, 2, none⟩ (.slice (some ⟨w2.heap.size + 1, 0, none⟩) m m)) := by
  have hs := hb.size
  simp at hs
  have hK : Only g (g + 1) w2 W3 := (Only.of_below (below2 w2 ruleRow (litRow m)).drew).trans hb
  have y : Blk W3 w2.heap.size 69 #[Value.int IntKind.i64 0, Value.slice none 0 0, Value.slice none 0 0] := (show Blk ((w2.alloc ruleRow).alloc (litRow m)).drew _ _ _ from (Blk.new w2 _ _).alloc _).only hb (.inr (by omega))
  have z := (Blk.last w2 ruleRow 35 (madeCells #[Value.int IntKind.i64 0, Value.int IntKind.i64 0, Value.slice none 0 0] (m * 3))).only hb (.inr (by omega))
  exact ⟨w2.heap.size, w2.heap.size + 1, A, c, _, W3.heap.size, rfl, y.set3 _ _ _, z.far3 (by omega) _ _ _, ho.set3 (by simp; omega) _ _ _, hn.set3 (by omega) _ _ _, hK.set3 (Nat.le_refl _) _ _ _, ⟨by simp; omega, Nat.le_refl _, by omega⟩, ⟨.inl (by simp; omega), .inl (by simp), by omega⟩, by rw [size_set3]; exact Nat.le_refl _⟩
end

theorem But2.then_ {w wc wr : World} {g r : Nat} (hb : Below w.heap.size w wc) (h : But2 g r wc wr) (h1 : w.heap.size ≤ g) (h2 : w.heap.size ≤ r) : Below w.heap.size w wr :=
  hb.trans ⟨h.os, h.tape, h.output, h.size, fun k hk => h.block k (Nat.lt_of_lt_of_le hk hb.size) (by omega) (by omega)⟩
theorem But2.trans {w wc wr : World} {g r : Nat} (h : But2 g r w wc) (k : But2 g r wc wr) : But2 g r w wr :=
  ⟨k.os.trans h.os, k.tape.trans h.tape, k.output.trans h.output, Nat.le_trans h.size k.size, fun b hb h1 h2 => (k.block b (Nat.lt_of_lt_of_le hb h.size) h1 h2).trans (h.block b hb h1 h2)⟩
theorem But2.of_below {w w' : World} {g r : Nat} (h : Below w.heap.size w w') : But2 g r w w' := ⟨h.os, h.tape, h.output, h.size, fun k hk _ _ => h.block k hk⟩
theorem But2.set3 {g r a b c : Nat} {w w1 : World} (h : But2 g r w w1) (u0 u1 u2 : Value) : But2 g r w (((w1.setCell ⟨r, a, none⟩ u0).setCell ⟨r, b, none⟩ u1).setCell ⟨r, c, none⟩ u2) := ((h.set u0).set u1).set u2
theorem renBody_count : ∀ (ls : List LLit) (s : Ren), (renBody s ls).2 ≤ s.2 + totL ls
  | [], s => by simp [renBody]
  | l :: ls, s => by
    have h1 := renBody_count ls (renList s l.2.2)
    have h2 := renList_count l.2.2 s
    show (renBody (renList s l.2.2) ls).2 ≤ _
    simp only [totL, List.map_cons, List.sum_cons] at h1 ⊢
    omega
theorem totL_take_le (ls : List LLit) (k : Nat) : totL (ls.take k) ≤ totL ls := by
  have := congrArg (fun l => (l.map fun l : LLit => l.2.2.length).sum) (List.take_append_drop k ls)
  simp only [List.map_append, List.sum_append] at this
  unfold totL
  omega
theorem renLits_at {s : Ren} {ls xs : List LLit} (hxs : xs = renLits s ls) {k : Nat} (h : k < ls.length) (h' : k < xs.length) : xs[k] = (ls[k].1, ls[k].2.1, renOut (renBody s (ls.take k)) ls[k].2.2) := by
  subst hxs
  have e1 : ls.getD k (0, (0, [])) = ls[k] := by simp [h]
  simp [renLits, h]

theorem LvLits.length {w : World} {lo hi : Nat} {v : Value} {ls : List LLit} {ps : List Addr} (h : LvLits w lo hi v ls ps) : ps.length = 2 * ls.length + totL ls := by
  obtain ⟨A, c, rfl, hc, h0, h⟩ := h
  rcases Nat.eq_zero_or_pos ls.length with hz | hp
  · rw [h0 hz, List.eq_nil_of_length_eq_zero hz]
    simp [totL]
  · obtain ⟨b, o, qs, rfl, h1, h2, rfl, hx⟩ := h hp
    have : ∀ j, j ≤ ls.length → (preL (litEl b o qs) j).length = 2 * j + totL (ls.take j) := by
      intro j
      induction j with
      | zero => intro _; simp [preL_zero, totL]
      | succ j ih =>
        intro hj
        obtain ⟨_, x, y, u2, _, _, _, hI⟩ := hx j (by omega)
        rw [preL_succ, List.length_append, ih (by omega), litEl_len hI, totL_take ls j (by omega)]
        omega
    have := this ls.length (Nat.le_refl _)
    rwa [List.take_length] at this
theorem LvRule.length {w : World} {lo hi : Nat} {v : Value} {r : LRule} {ps : List Addr} (h : LvRule w lo hi v r ps) : ps.length ≤ 2 * szR r := by
  obtain ⟨p, a, b, qs, rs, rfl, rfl, ⟨_, _, _, _, hl, _⟩, h2⟩ := h
  rw [List.length_append, hl, h2.length]
  unfold szR
  omega

end Go.Proofs.YtokmmloakahkhaaGreat
/-
  A row of literals that grows: the words; the specification's renaming: the walk of l2Rule.
-/
namespace Go.Proofs.YtokmmloakahkhaaGreat
open Go.RowKit

/-- The cells of literals, a literal's three behind each other. -/
def flatL : List LLit → List Value → List Value
  | l :: ls, u :: us => .int .i64 l.1 :: .int .i64 l.2.1 :: u :: flatL ls us
  | _, _ => []
theorem flatL_length : ∀ (ls : List LLit) (us : List Value), us.length = ls.length → (flatL ls us).length = ls.length * 3
  | [], _, _ => by simp [flatL]
  | l :: ls, [], h => by simp at h
  | l :: ls, u :: us, h => by
    have := flatL_length ls us (by simpa using h)
    simp only [flatL, List.length_cons, this]
    omega
theorem flatL_at : ∀ (ls : List LLit) (us : List Value) (_ : us.length = ls.length) (k : Nat) (hk : k < ls.length) (hk' : k < us.length),
    (flatL ls us)[k * 3]? = some (.int .i64 ls[k].1) ∧ (flatL ls us)[k * 3 + 1]? = some (.int .i64 ls[k].2.1) ∧ (flatL ls us)[k * 3 + 2]? = some us[k]
  | [], _, _, k, hk, _ => absurd hk (by simp)
  | l :: ls, [], h, _, _, _ => by simp at h
  | l :: ls, u :: us, h, 0, _, _ => by simp [flatL]
  | l :: ls, u :: us, h, k + 1, hk, hk' => by
    have := flatL_at ls us (by simpa using h) k (by simpa using hk) (by simpa using hk')
    simpa [flatL, Nat.add_mul] using this
theorem flatL_snoc : ∀ (ls : List LLit) (us : List Value) (_ : us.length = ls.length) (l : LLit) (u : Value), flatL (ls ++ [l]) (us ++ [u]) = flatL ls us ++ [.int .i64 l.1, .int .i64 l.2.1, u]
  | [], [], _, l, u => by simp [flatL]
  | [], u' :: us, h, _, _ => by simp at h
  | l :: ls, [], h, _, _ => by simp at h
  | l :: ls, u :: us, h, m, b => by simp [flatL, flatL_snoc ls us (by simpa using h) m b]

/-- A row of literals of the call's own that grows, with its rows of integers us, in blocks from base on. -/
structure ColL (base : Nat) (wr : World) (ls : List LLit) (A : Option Addr) (c : Nat) (us : List Value) : Prop where
  len : us.length = ls.length
  own : ∀ i (h : i < ls.length) (h' : i < us.length), OwnInts wr base wr.heap.size us[i] ls[i].2.2
  row : wr.ownsRow base 35 3 (.slice A ls.length c) ls.length (flatL ls us)
section
variable {base : Nat} {wr w2 w4 : World} {ls : List LLit} {A : Option Addr} {c : Nat} {us : List Value}
theorem ColL.nil (base : Nat) (w : World) : ColL base w [] none 0 [] := ⟨rfl, fun i h => absurd h (by simp), by simpa [flatL] using World.ownsRow_nil w base 35 3⟩
theorem ColL.below (h : ColL base wr ls A c us) (hb : Below wr.heap.size wr w2) : ColL base w2 ls A c us :=
  ⟨h.len, fun i h1 h2 => ((h.own i h1 h2).below hb (Nat.le_refl _)).mono (Nat.le_refl _) hb.size, ownsRow_only h.row fun g hg => hb.block g (h.row.lt g hg).2⟩
theorem int_ne_lit {n : Nat} {v a : Value} {zs : List Value} {xs : List Int} {lo hi g : Nat} (hr : wr.ownsRow base 35 3 v n zs) (hv : v.ownBlock = some g) (ha : OwnInts wr lo hi a xs) : a.ownBlock ≠ some g := by
  rcases hr.2 with ⟨rfl, _⟩ | ⟨g1, c1, cur1, rfl, _, h1, _⟩
  · cases hv
  · have e : g1 = g := by simpa [Value.ownBlock] using hv
    subst e
    rcases ha.1.2 with ⟨rfl, _⟩ | ⟨g2, c2, cur2, rfl, _, h2, _⟩
    · simp [Value.ownBlock]
    · intro e
      have e : g2 = g1 := by simpa [Value.ownBlock] using e
      subst e
      rw [h1] at h2
      injection h2 with h2
      injection h2 with _ h2
      exact absurd h2 (by decide)
/-- One more literal. -/
theorem ColL.push {l : LLit} {u : Value} {g cap : Nat} {o : Obj} (h : ColL base wr ls A c us) (hb : Below wr.heap.size wr w2) (hu : OwnInts w2 base w2.heap.size u l.2.2)
    (hg : (w2.alloc o).grownBy w4 (Value.slice A ls.length c).ownBlock) (hown : w4.ownsRow base 35 3 (.slice (some ⟨g, 0, none⟩) (ls.length + 1) cap) (ls.length + 1) (flatL ls us ++ [.int .i64 l.1, .int .i64 l.2.1, u])) :
    ColL base w4 (ls ++ [l]) (some ⟨g, 0, none⟩) cap (us ++ [u]) := by
  have h2 := h.below hb
  have hg2 := grown_from_alloc hg
  have hl : (ls ++ [l]).length = ls.length + 1 := by simp
  have keep : ∀ {v : Value} {xs : List Int}, OwnInts w2 base w2.heap.size v xs → OwnInts w4 base w4.heap.size v xs := fun {v xs} hv =>
    (hv.kept (fun b hb' => hg2.block b (hv.lt hb').2.2 (fun e => int_ne_lit h2.row e.symm hv hb'))).mono (Nat.le_refl _) hg2.size
  refine ⟨by simp [h.len], fun i h1 h3 => ?_, ?_⟩
  · by_cases e : i < ls.length
    · have e' : i < us.length := by rw [h.len]; exact e
      rw [List.getElem_append_left e', List.getElem_append_left e]
      exact keep (h2.own i e e')
    · have e2 : i = ls.length := by simp at h1; omega
      subst e2
      simp [← h.len]
      simpa using keep hu
  · rw [hl, flatL_snoc ls us h.len]
    exact hown
theorem ColL.lits (h : ColL base wr ls A c us) (hn : ls.length ≤ c) : OwnLits wr base wr.heap.size (.slice A ls.length c) ls := by
  have hcells := @World.ownsRow.cells wr base 35 3 (.slice A ls.length c) ls.length (flatL ls us) h.row
  have hlt := h.row.lt
  have hl := h.len
  refine ⟨A, c, rfl, hn, fun hpos => ?_⟩
  rcases h.row.2 with ⟨e, h0⟩ | ⟨g, cap, cur, e, hb, hgg, _⟩
  · omega
  · injection e with e1 _ e3
    subst e1
    refine ⟨g, 0, rfl, hb, (hlt g rfl).2, fun k hk => ⟨⟨by simp [World.frozen?, hgg], by simp [World.frozen?, hgg]⟩, ?_⟩⟩
    obtain ⟨c0, c1, c2⟩ := flatL_at ls us hl k hk (by omega)
    have d0 := hcells (g := g) rfl _ _ c0
    have d1 := hcells (g := g) rfl _ _ c1
    have d2 := hcells (g := g) rfl _ _ c2
    rw [Go.WideShapes.add_plain] at d0 d1 d2
    exact ⟨_, _, _, d0, d1, d2, rfl, rfl, h.own k hk (by omega)⟩
theorem ColL.set {p : Addr} (h : ColL base wr ls A c us) (hp : p.block < base) (u : Value) : ColL base (wr.setCell p u) ls A c us :=
  ⟨h.len, fun i h1 h2 => ((h.own i h1 h2).set (.inl hp) u).mono (Nat.le_refl _) (by simp), ownsRow_only h.row fun g hg => Below.heap_setCell _ _ _ _ (by have := (h.row.lt g hg).1; omega)⟩
theorem ColL.cap (h : ColL base wr ls A c us) : ls.length ≤ c := by
  rcases h.row.2 with ⟨e, h0⟩ | ⟨g, cap, cur, e, hb, hgg, hn, _⟩
  · injection e with _ _ e
    omega
  · injection e with _ _ e
    omega
end

end Go.Proofs.YtokmmloakahkhaaGreat
/-
  A body drawn: rows of literals of the call's own that grow; the walk of l2Body.
-/
namespace Go.Proofs.YtokmmloakahkhaaGreat
open Go.RowKit

/-- The kinds of literals are kinds. -/
def KindsOk (ls : List LLit) : Prop := ∀ l ∈ ls, 0 ≤ l.1 ∧ l.1 ≤ 3
theorem KindsOk.nil : KindsOk [] := fun l h => absurd h (by simp)
theorem KindsOk.snoc {ls : List LLit} {l : LLit} (h : KindsOk ls) (hl : 0 ≤ l.1 ∧ l.1 ≤ 3) : KindsOk (ls ++ [l]) := fun m hm => by
  rcases List.mem_append.1 hm with hm | hm
  · exact h m hm
  · rw [List.mem_singleton.1 hm]; exact hl
theorem KindsOk.one {l : LLit} (hl : 0 ≤ l.1 ∧ l.1 ≤ 3) : KindsOk [l] := KindsOk.snoc KindsOk.nil hl
/-- What a draw of literals keeps: the row and the atoms' rows lie from w on, the reader is read on. -/
structure DrL (w wr : World) (g : Nat) (bs : List Nat) (q : Nat) (A : Option Addr) (c : Nat) (ls : List LLit) (us : List Value) : Prop where
  col : ColL w.heap.size wr ls A c us
  kinds : KindsOk ls
  rdr : Rdr wr g bs q
  only : Only g (g + 1) w wr
section
variable {w wr w' w4 : World} {g q : Nat} {bs : List Nat} {A : Option Addr} {c : Nat} {ls : List LLit} {us : List Value}
theorem ColL.onlyG {base : Nat} (h : ColL base wr ls A c us) (ho : Only g (g + 1) wr w') (hg : g < base) : ColL base w' ls A c us :=
  ⟨h.len, fun i h1 h2 => ((h.own i h1 h2).only ho (.inr (by omega))).mono (Nat.le_refl _) ho.size, ownsRow_only h.row fun b hb => ho.block b (h.row.lt b hb).2 (by have := (h.row.lt b hb).1; omega)⟩
theorem ColL.empty {w : World} : ColL w.heap.size (w.alloc (.cells #[] 35)) [] (some ⟨w.heap.size, 0, none⟩) 0 [] :=
  ⟨rfl, fun i h => absurd h (by simp), World.ownsRow_made w #[] 0 (Nat.le_refl _) (by decide) rfl⟩
theorem DrL.empty (h : Rdr w g bs q) : DrL w (w.alloc (.cells #[] 35)) g bs q (some ⟨w.heap.size, 0, none⟩) 0 [] [] :=
  ⟨ColL.empty, KindsOk.nil, h.below (below1 _ _) h.lt, Only.of_below (below1 _ _)⟩
theorem DrL.go (h : DrL w wr g bs q A c ls us) (hg : g < w.heap.size) {q' : Nat} (hr : Rdr w' g bs q') (ho : Only g (g + 1) wr w') : DrL w w' g bs q' A c ls us :=
  ⟨h.col.onlyG ho hg, h.kinds, hr, h.only.trans ho⟩
theorem DrL.push {g2 cap : Nat} {l : LLit} {u : Value} {o : Obj} (h : DrL w wr g bs q A c ls us) (hkd : 0 ≤ l.1 ∧ l.1 ≤ 3) (hgw : g < w.heap.size) (hu : OwnInts wr w.heap.size wr.heap.size u l.2.2) (hg : (wr.alloc o).grownBy w4 (Value.slice A ls.length c).ownBlock)
    (hown : w4.ownsRow w.heap.size 35 3 (.slice (some ⟨g2, 0, none⟩) (ls.length + 1) cap) (ls.length + 1) (flatL ls us ++ [.int .i64 l.1, .int .i64 l.2.1, u])) : DrL w w4 g bs q (some ⟨g2, 0, none⟩) cap (ls ++ [l]) (us ++ [u]) := by
  have hg2 := grown_from_alloc hg
  have hlow : ∀ b, b < w.heap.size → w4.heap[b]? = wr.heap[b]? := fun b hb => hg2.block b (by have := h.only.size; omega) (fun e => by have := (h.col.row.lt b e.symm).1; omega)
  exact ⟨h.col.push (Below.refl _ _) hu hg hown, h.kinds.snoc hkd, h.rdr.same fun k hk => hlow k (by omega), ⟨hg2.os.trans h.only.os, hg2.tape.trans h.only.tape, hg2.output.trans h.only.output, Nat.le_trans h.only.size hg2.size, fun b hb hn => (hlow b hb).trans (h.only.block b hb hn)⟩⟩
end

/-- A row of two numbers that a call lays. -/
theorem own_two (w : World) (base : Nat) (x y : Int) (hb : base ≤ w.heap.size) : OwnInts (w.alloc (.cells #[.int .i64 x, .int .i64 y] 3)) base (w.heap.size + 1) (.slice (some ⟨w.heap.size, 0, none⟩) 2 2) [x, y] :=
  OwnInts.of_rowIs (xs := [x, y]) (World.rowIs_alloc w #[.int .i64 x, .int .i64 y] 3 (fun j => .int .i64 ([x, y].getD j 0)) (fun i hi => by
    match i, hi with
    | 0, _ => rfl
    | 1, _ => rfl)) hb (Nat.lt_succ_self _) (by show 2 ≤ maxLen; unfold maxLen; omega)
theorem totL_snoc (ls : List LLit) (l : LLit) : totL (ls ++ [l]) = totL ls + l.2.2.length := by simp [totL]

set_option maxHeartbeats 4000000 in
set_option maxRecDepth 100000 in
theorem l2Body_any (g : Nat) (bs : List Nat) (p lo hi n : Nat) (no : Int) (v : Value) (ar : List Int) (w : World) (h : Rdr w g bs p) (hp : p ≤ 1048500) (ha : OwnInts w lo hi v ar) (hg : g < lo) (hh : hi ≤ w.heap.size) (hr : ∀ x ∈ ar, 0 ≤ x ∧ x ≤ 2) (h0 : 0 < ar.length) (hl : ar.length ≤ 1048576) (hn : n ≤ 1048576) :
    Calls Tryz.prog 204 #[.pointer (some ⟨g, 0, none⟩), v, .int .i64 n, .int .i64 no] w fun e w' => ∃ (A : Option Addr) (c : Nat) (ls : List LLit) (us : List Value) (q : Nat), e = .returned (.slice A ls.length c) ∧ ls.length ≤ 4 ∧ totL ls ≤ 8 ∧ q ≤ p + 40 ∧ DrL w w' g bs q A c ls us := by
  obtain ⟨i0, hi0, hz0, hz1, hz2⟩ := info_parts Tryz.infoLit
  have H := Lib.hid h
  have hgl := h.lt
  have HA := Lib.hid ha
  have HRG := Lib.hid hr
  obtain ⟨A0, c0, hv0⟩ := ha.form
  subst hv0
  clear h ha hr
  have CD := Lib.hid (fun (W : World) (q j : Nat) (hR : Rdr W g bs q) (hq : q ≤ 1048576) (hO : Only g (g + 1) w W) (hj : j < ar.length) => l2Draw_any g bs q lo hi j ar[j].toNat n (.slice A0 ar.length c0) ar W hR hq (HA.out.only hO (.inr (by omega))) hg (Nat.le_trans hh hO.size) hj (by have := HRG.out _ (List.getElem_mem hj); omega) (by have := HRG.out _ (List.getElem_mem hj); omega) hl hn)
  go_enter Tryz.func204, Tryz.ntmps204
  go_wp2_with (fail)
  have H1 := Lib.hid (DrL.empty H.out)
  refine (pick_any g bs p 2 _ H1.out.rdr (by omega) (by omega)).mono ?_
  rintro e w2 ⟨⟨x, rfl, hx⟩, hp2⟩
  have hxr : 0 ≤ x ∧ x < 2 := hx.1 (by omega)
  have hw1 : IntKind.i64.wrap (1 + x) = 1 + x := by
    unfold IntKind.wrap
    simp [IntKind.bits, IntKind.signed] <;> omega
  obtain ⟨i, hi1⟩ : ∃ i : Nat, 1 + x = (i : Int) := ⟨(1 + x).toNat, by omega⟩
  have hi2 : i ≤ 2 := by omega
  have H2 := Lib.hid (H1.out.go hgl hp2.1 hp2.2)
  have HI := Lib.hid hi1
  clear hp2 hx
  go_wp2_with (fail)
  obtain ⟨b0, hb0⟩ : ∃ b0, b0 = w.heap.size := ⟨_, rfl⟩
  rw [← hb0] at H2
  go_loopw [9, 10] (fun o i wr => ∃ (k : Nat) (A' : Option Addr) (c' : Nat) (ls : List LLit) (us : List Value) (q : Nat), k ≤ 2 ∧ i = .int .i64 k ∧ ls.length + k ≤ 2 ∧ totL ls ≤ 2 * ls.length ∧ q + 7 * k ≤ p + 15 ∧ o = .slice A' ls.length c' ∧ DrL w wr g bs q A' c' ls us) (fun _ i _ => (intOf i).toNat)
  case atStart => exact ⟨i, some ⟨b0, 0, none⟩, 0, [], [], p + 1, hi2, rfl, by simp; omega, by simp [totL], by omega, by rw [hb0]; rfl, H2.out⟩
  case round =>
    obtain ⟨k, A', c', ls, us, q, hk, rfl, hll, htl, hq, rfl, hr⟩ := hrel
    have HR := Lib.hid hr
    have hszr0 := hr.only.size
    clear hr
    by_cases hlt : 0 < k
    · obtain ⟨k, rfl⟩ : ∃ k', k = k' + 1 := ⟨k - 1, by omega⟩
      go_wp2_with (fail)
      refine (pick_any g bs q ar.length _ HR.out.rdr (by omega) (by omega)).mono ?_
      rintro e wpa ⟨⟨ja, rfl, hja⟩, hpa⟩
      have hjar : 0 ≤ ja ∧ ja < ar.length := hja.1 (by omega)
      obtain ⟨ja, rfl⟩ : ∃ j : Nat, ja = (j : Int) := ⟨ja.toNat, by omega⟩
      have Hpa := Lib.hid (HR.out.go hgl hpa.1 hpa.2)
      clear hpa hja
      go_wp2_with (fail)
      refine (CD.out wpa (q + 1) ja Hpa.out.rdr (by omega) Hpa.out.only (by omega)).mono ?_
      rintro e wda ⟨Ada, cda, xsa, qda, rfl, hxsa, hqda, hoda, hrda, hOda⟩
      have hszpa := Hpa.out.only.size
      have Hda := Lib.hid (And.intro (Hpa.out.go hgl hrda hOda) (hoda.mono (show w.heap.size ≤ wpa.heap.size by omega) (Nat.le_refl _)))
      have hszda := Hda.out.1.only.size
      clear hoda hrda hOda
      go_wp2_with (at_builtin; refine wpList_append_lies _ rfl (.tmp 20) (.tmp 30) 24 rfl w.heap.size 35 i0 (.agg #[.int .i64 0, .int .i64 0, .slice none 0 0]) 3 40 Tryz.underlying24 hi0 hz0 hz1 hz2 rfl (by decide) (.slice A' ls.length c') ls.length (flatL ls us) rfl ?c1 ⟨_, 0, none⟩ 1 1 [.int .i64 0, .int .i64 ja, .slice Ada xsa.length cda] rfl rfl (World.news_of_block (cs := #[.int .i64 0, .int .i64 ja, .slice Ada xsa.length cda]) (heap_alloc_new wda _)) ?c2 (by omega) (by unfold maxLen; omega) (by omega) ?c3 _ rfl ?_)
      case c1 => exact Hda.out.1.col.row.alloc _
      case c2 => intro u hu; simp at hu; rcases hu with rfl | rfl | rfl <;> rfl
      case c3 => simp; omega
      intro ga capa w9a howna hgra _ _
      have HCa := Lib.hid (Hda.out.1.push (l := (0, ((ja : Int), xsa))) (show (0 : Int) ≤ 0 ∧ (0 : Int) ≤ 3 by decide) hgl Hda.out.2 hgra howna)
      obtain ⟨lsa, hlsa⟩ : ∃ ls2, ls2 = ls ++ [((0 : Int), ((ja : Int), xsa))] := ⟨_, rfl⟩
      obtain ⟨usa, husa⟩ : ∃ us2, us2 = us ++ [Value.slice Ada xsa.length cda] := ⟨_, rfl⟩
      have hlea : ls.length + 1 = lsa.length := by rw [hlsa]; simp
      have htla : totL lsa ≤ totL ls + 2 := by rw [hlsa, totL_snoc]; show totL ls + xsa.length ≤ _; omega
      have hlla : lsa.length ≤ ls.length + 1 := by omega
      have hlma : ls.length + 1 ≤ lsa.length := by omega
      rw [hlea]
      rw [← hlsa, ← husa] at HCa
      clear howna hgra hlsa husa hlea
      go_wp2_with (fail)
      go_roundw
      case rel => exact ⟨k, _, _, lsa, usa, qda, by omega, by go_num, by omega, by omega, by omega, rfl, HCa.out⟩
      case measure => simp [intOf]
    · have hk0 : k = 0 := by omega
      subst hk0
      go_wp2_with (fail)
      refine (pick_any g bs q 4 _ HR.out.rdr (by omega) (by omega)).mono ?_
      rintro e wf ⟨⟨y, rfl, _⟩, hpf⟩
      have HF := Lib.hid (HR.out.go hgl hpf.1 hpf.2)
      have hszf := HF.out.only.size
      clear hpf
      by_cases hy : y < no
      · have hyb : decide (y < no) = true := by simpa using hy
        clear hy
        obtain ⟨q, hqq⟩ : ∃ q', q' = q + 1 := ⟨_, rfl⟩
        rw [← hqq] at HF
        have hq1 : q ≤ p + 16 := by omega
        clear hqq
        go_wp2_with (fail)
        refine (pick_any g bs q ar.length _ HF.out.rdr (by omega) (by omega)).mono ?_
        rintro e wpb ⟨⟨jb, rfl, hjb⟩, hpb⟩
        have hjbr : 0 ≤ jb ∧ jb < ar.length := hjb.1 (by omega)
        obtain ⟨jb, rfl⟩ : ∃ j : Nat, jb = (j : Int) := ⟨jb.toNat, by omega⟩
        have Hpb := Lib.hid (HF.out.go hgl hpb.1 hpb.2)
        clear hpb hjb
        go_wp2_with (fail)
        refine (CD.out wpb (q + 1) jb Hpb.out.rdr (by omega) Hpb.out.only (by omega)).mono ?_
        rintro e wdb ⟨Adb, cdb, xsb, qdb, rfl, hxsb, hqdb, hodb, hrdb, hOdb⟩
        have hszpb := Hpb.out.only.size
        have Hdb := Lib.hid (And.intro (Hpb.out.go hgl hrdb hOdb) (hodb.mono (show w.heap.size ≤ wpb.heap.size by omega) (Nat.le_refl _)))
        have hszdb := Hdb.out.1.only.size
        clear hodb hrdb hOdb
        go_wp2_with (at_builtin; refine wpList_append_lies _ rfl (.tmp 36) (.tmp 46) 24 rfl w.heap.size 35 i0 (.agg #[.int .i64 0, .int .i64 0, .slice none 0 0]) 3 40 Tryz.underlying24 hi0 hz0 hz1 hz2 rfl (by decide) (.slice A' ls.length c') ls.length (flatL ls us) rfl ?c1 ⟨_, 0, none⟩ 1 1 [.int .i64 1, .int .i64 jb, .slice Adb xsb.length cdb] rfl rfl (World.news_of_block (cs := #[.int .i64 1, .int .i64 jb, .slice Adb xsb.length cdb]) (heap_alloc_new wdb _)) ?c2 (by omega) (by unfold maxLen; omega) (by omega) ?c3 _ rfl ?_)
        case c1 => exact Hdb.out.1.col.row.alloc _
        case c2 => intro u hu; simp at hu; rcases hu with rfl | rfl | rfl <;> rfl
        case c3 => simp; omega
        intro gb capb w9b hownb hgrb _ _
        have HCb := Lib.hid (Hdb.out.1.push (l := (1, ((jb : Int), xsb))) (show (0 : Int) ≤ 1 ∧ (1 : Int) ≤ 3 by decide) hgl Hdb.out.2 hgrb hownb)
        obtain ⟨lsb, hlsb⟩ : ∃ ls2, ls2 = ls ++ [((1 : Int), ((jb : Int), xsb))] := ⟨_, rfl⟩
        obtain ⟨usb, husb⟩ : ∃ us2, us2 = us ++ [Value.slice Adb xsb.length cdb] := ⟨_, rfl⟩
        have hleb : ls.length + 1 = lsb.length := by rw [hlsb]; simp
        have htlb : totL lsb ≤ totL ls + 2 := by rw [hlsb, totL_snoc]; show totL ls + xsb.length ≤ _; omega
        have hllb : lsb.length ≤ ls.length + 1 := by omega
        have hlmb : ls.length + 1 ≤ lsb.length := by omega
        rw [hleb]
        rw [← hlsb, ← husb] at HCb
        clear hownb hgrb hlsb husb hleb
        go_wp2_with (fail)
        refine (pick_any g bs qdb 6 _ HCb.out.rdr (by omega) (by omega)).mono ?_
        rintro e wtb ⟨⟨yb, rfl, _⟩, hptb⟩
        have Htb := Lib.hid (HCb.out.go hgl hptb.1 hptb.2)
        have hsztb := Htb.out.only.size
        clear hptb
        by_cases hyb : yb = 0
        · have hyb : (yb == 0) = true := by simp [hyb]
          clear hyb
          go_wp2_with (fail)
          have Hu := Lib.hid (Htb.out.go hgl (Htb.out.rdr.below (below1 wtb (.cells #[.int .i64 2, .int .i64 3] 3)) Htb.out.rdr.lt) (Only.of_below (below1 wtb (.cells #[.int .i64 2, .int .i64 3] 3))))
          refine (num_any g bs (qdb + 1) _ _ [2, 3] 2 _ Hu.out.rdr (by omega) (Blk.new _ _ _) rfl (by omega) rfl (by simp) (by simp)).mono ?_
          rintro e wk ⟨⟨kd, rfl, hkd⟩, hpk⟩
          have HKD := Lib.hid (show 0 ≤ kd ∧ kd ≤ 3 by simp only [List.mem_cons, List.not_mem_nil, or_false] at hkd; omega)
          clear hkd
          have Hk := Lib.hid (Hu.out.go hgl hpk.1 hpk.2)
          have hszk := Hk.out.only.size
          clear hpk
          go_wp2_with (fail)
          have Hv := Lib.hid (Hk.out.go hgl (Hk.out.rdr.below (below1 wk (.cells #[.int .i64 1, .int .i64 (-2), .int .i64 2] 3)) Hk.out.rdr.lt) (Only.of_below (below1 wk (.cells #[.int .i64 1, .int .i64 (-2), .int .i64 2] 3))))
          refine (num_any g bs (qdb + 1 + 1) _ _ [1, -2, 2] 3 _ Hv.out.rdr (by omega) (Blk.new _ _ _) rfl (by omega) rfl (by simp) (by simp)).mono ?_
          rintro e wn ⟨⟨z, rfl, _⟩, hpn⟩
          have Hn := Lib.hid (Hv.out.go hgl hpn.1 hpn.2)
          have hszn := Hn.out.only.size
          clear hpn
          go_upto_region 10 with (fail)
          obtain ⟨wr, hwr⟩ : ∃ wr, wr = wn.alloc (.cells #[.int .i64 (-1), .int .i64 z] 3) := ⟨_, rfl⟩
          have ho2 : OwnInts wr w.heap.size (wn.heap.size + 1) (.slice (some ⟨wn.heap.size, 0, none⟩) 2 2) [-1, z] := by rw [hwr]; exact own_two wn _ (-1) z hszn
          have br : Below wn.heap.size wn wr := by rw [hwr]; exact below1 _ _
          have hsze : wr.heap.size = wn.heap.size + 1 := by rw [hwr]; simp
          rw [← hwr]
          clear hwr
          obtain ⟨wx, hwx⟩ : ∃ wx, wx = wr.alloc (.cells #[.int .i64 kd, .int .i64 0, .slice (some ⟨wn.heap.size, 0, none⟩) 2 2] 35) := ⟨_, rfl⟩
          have hwrs : wr.heap.size = wn.heap.size + 1 := hsze
          have ox : Blk wx (wn.heap.size + 1) 35 #[.int .i64 kd, .int .i64 0, .slice (some ⟨wn.heap.size, 0, none⟩) 2 2] := by rw [hwx, ← hwrs]; exact Blk.new _ _ _
          have bx : Below wr.heap.size wr wx := by rw [hwx]; exact below1 _ _
          have hszx : wr.heap.size ≤ wx.heap.size := bx.size
          have hszr : wn.heap.size ≤ wr.heap.size := br.size
          have bnx : Below wn.heap.size wn wx := bthen br bx
          have HX := Lib.hid ((Hn.out.go hgl (Hn.out.rdr.below bnx Hn.out.rdr.lt) (Only.of_below bnx)))
          have HO2 := Lib.hid ((ho2.below bx (Nat.le_of_eq hwrs.symm)).mono (Nat.le_refl _) (show wn.heap.size + 1 ≤ wx.heap.size by omega))
          have x0 : wx.cell? ⟨wn.heap.size + 1, 0, none⟩ = some (.int .i64 kd) := ox.cell 0
          have x1 : wx.cell? ⟨wn.heap.size + 1, 1, none⟩ = some (.int .i64 0) := ox.cell 1
          have x2 : wx.cell? ⟨wn.heap.size + 1, 2, none⟩ = some (.slice (some ⟨wn.heap.size, 0, none⟩) 2 2) := ox.cell 2
          rw [← hwx]
          clear hwx hwrs hsze ox bx bnx br ho2
          go_wp2_with (at_builtin; refine wpList_append_lies _ rfl (.tmp 60) (.tmp 62) 24 rfl w.heap.size 35 i0 (.agg #[.int .i64 0, .int .i64 0, .slice none 0 0]) 3 40 Tryz.underlying24 hi0 hz0 hz1 hz2 rfl (by decide) (.slice _ lsb.length _) lsb.length (flatL lsb usb) rfl ?d1 ⟨_, 0, none⟩ 1 1 [.int .i64 kd, .int .i64 0, .slice (some ⟨wn.heap.size, 0, none⟩) 2 2] rfl rfl (World.news_of_block (cs := #[.int .i64 kd, .int .i64 0, .slice (some ⟨wn.heap.size, 0, none⟩) 2 2]) (heap_alloc_new wx _)) ?d2 (by omega) (by unfold maxLen; omega) (by omega) ?d3 _ rfl ?_)
          case d1 => exact HX.out.col.row.alloc _
          case d2 => intro u hu; simp at hu; rcases hu with rfl | rfl | rfl <;> rfl
          case d3 => simp; omega
          intro gz capz wz hownz hgrz _ _
          have HZ := Lib.hid (HX.out.push (l := (kd, ((0 : Int), [(-1 : Int), z]))) HKD.out hgl HO2.out hgrz hownz)
          have htz := totL_snoc lsb (kd, ((0 : Int), [(-1 : Int), z]))
          simp only [List.length_cons, List.length_nil] at htz
          have HT := Lib.hid htz
          clear htz hownz hgrz
          go_wp2_with (fail)
          go_ret
          exact ⟨_, _, _, _, _, (by rw [List.length_append]; rfl), (by rw [List.length_append]; show lsb.length + 1 ≤ 4; omega), (by have := HT.out; omega), by omega, HZ.out⟩
        · have hyb : (yb == 0) = false := by simp [hyb]
          clear hyb
          go_wp2_with (fail)
          go_ret
          exact ⟨_, _, lsb, usb, _, rfl, by omega, by omega, by omega, Htb.out⟩
      · have hyb : decide (y < no) = false := by simpa using hy
        clear hy
        obtain ⟨q, hqq⟩ : ∃ q', q' = q + 1 := ⟨_, rfl⟩
        rw [← hqq] at HF
        have hq1 : q ≤ p + 16 := by omega
        clear hqq
        go_wp2_with (fail)
        refine (pick_any g bs q 6 _ HF.out.rdr (by omega) (by omega)).mono ?_
        rintro e wtc ⟨⟨yc, rfl, _⟩, hptc⟩
        have Htc := Lib.hid (HF.out.go hgl hptc.1 hptc.2)
        have hsztc := Htc.out.only.size
        clear hptc
        by_cases hyc : yc = 0
        · have hyb : (yc == 0) = true := by simp [hyc]
          clear hyc
          go_wp2_with (fail)
          have Hu := Lib.hid (Htc.out.go hgl (Htc.out.rdr.below (below1 wtc (.cells #[.int .i64 2, .int .i64 3] 3)) Htc.out.rdr.lt) (Only.of_below (below1 wtc (.cells #[.int .i64 2, .int .i64 3] 3))))
          refine (num_any g bs (q + 1) _ _ [2, 3] 2 _ Hu.out.rdr (by omega) (Blk.new _ _ _) rfl (by omega) rfl (by simp) (by simp)).mono ?_
          rintro e wk ⟨⟨kd, rfl, hkd⟩, hpk⟩
          have HKD := Lib.hid (show 0 ≤ kd ∧ kd ≤ 3 by simp only [List.mem_cons, List.not_mem_nil, or_false] at hkd; omega)
          clear hkd
          have Hk := Lib.hid (Hu.out.go hgl hpk.1 hpk.2)
          have hszk := Hk.out.only.size
          clear hpk
          go_wp2_with (fail)
          have Hv := Lib.hid (Hk.out.go hgl (Hk.out.rdr.below (below1 wk (.cells #[.int .i64 1, .int .i64 (-2), .int .i64 2] 3)) Hk.out.rdr.lt) (Only.of_below (below1 wk (.cells #[.int .i64 1, .int .i64 (-2), .int .i64 2] 3))))
          refine (num_any g bs (q + 1 + 1) _ _ [1, -2, 2] 3 _ Hv.out.rdr (by omega) (Blk.new _ _ _) rfl (by omega) rfl (by simp) (by simp)).mono ?_
          rintro e wn ⟨⟨z, rfl, _⟩, hpn⟩
          have Hn := Lib.hid (Hv.out.go hgl hpn.1 hpn.2)
          have hszn := Hn.out.only.size
          clear hpn
          go_upto_region 10 with (fail)
          obtain ⟨wr, hwr⟩ : ∃ wr, wr = wn.alloc (.cells #[.int .i64 (-1), .int .i64 z] 3) := ⟨_, rfl⟩
          have ho2 : OwnInts wr w.heap.size (wn.heap.size + 1) (.slice (some ⟨wn.heap.size, 0, none⟩) 2 2) [-1, z] := by rw [hwr]; exact own_two wn _ (-1) z hszn
          have br : Below wn.heap.size wn wr := by rw [hwr]; exact below1 _ _
          have hsze : wr.heap.size = wn.heap.size + 1 := by rw [hwr]; simp
          rw [← hwr]
          clear hwr
          obtain ⟨wx, hwx⟩ : ∃ wx, wx = wr.alloc (.cells #[.int .i64 kd, .int .i64 0, .slice (some ⟨wn.heap.size, 0, none⟩) 2 2] 35) := ⟨_, rfl⟩
          have hwrs : wr.heap.size = wn.heap.size + 1 := hsze
          have ox : Blk wx (wn.heap.size + 1) 35 #[.int .i64 kd, .int .i64 0, .slice (some ⟨wn.heap.size, 0, none⟩) 2 2] := by rw [hwx, ← hwrs]; exact Blk.new _ _ _
          have bx : Below wr.heap.size wr wx := by rw [hwx]; exact below1 _ _
          have hszx : wr.heap.size ≤ wx.heap.size := bx.size
          have hszr : wn.heap.size ≤ wr.heap.size := br.size
          have bnx : Below wn.heap.size wn wx := bthen br bx
          have HX := Lib.hid ((Hn.out.go hgl (Hn.out.rdr.below bnx Hn.out.rdr.lt) (Only.of_below bnx)))
          have HO2 := Lib.hid ((ho2.below bx (Nat.le_of_eq hwrs.symm)).mono (Nat.le_refl _) (show wn.heap.size + 1 ≤ wx.heap.size by omega))
          have x0 : wx.cell? ⟨wn.heap.size + 1, 0, none⟩ = some (.int .i64 kd) := ox.cell 0
          have x1 : wx.cell? ⟨wn.heap.size + 1, 1, none⟩ = some (.int .i64 0) := ox.cell 1
          have x2 : wx.cell? ⟨wn.heap.size + 1, 2, none⟩ = some (.slice (some ⟨wn.heap.size, 0, none⟩) 2 2) := ox.cell 2
          rw [← hwx]
          clear hwx hwrs hsze ox bx bnx br ho2
          go_wp2_with (at_builtin; refine wpList_append_lies _ rfl (.tmp 60) (.tmp 62) 24 rfl w.heap.size 35 i0 (.agg #[.int .i64 0, .int .i64 0, .slice none 0 0]) 3 40 Tryz.underlying24 hi0 hz0 hz1 hz2 rfl (by decide) (.slice A' ls.length c') ls.length (flatL ls us) rfl ?d1 ⟨_, 0, none⟩ 1 1 [.int .i64 kd, .int .i64 0, .slice (some ⟨wn.heap.size, 0, none⟩) 2 2] rfl rfl (World.news_of_block (cs := #[.int .i64 kd, .int .i64 0, .slice (some ⟨wn.heap.size, 0, none⟩) 2 2]) (heap_alloc_new wx _)) ?d2 (by omega) (by unfold maxLen; omega) (by omega) ?d3 _ rfl ?_)
          case d1 => exact HX.out.col.row.alloc _
          case d2 => intro u hu; simp at hu; rcases hu with rfl | rfl | rfl <;> rfl
          case d3 => simp; omega
          intro gz capz wz hownz hgrz _ _
          have HZ := Lib.hid (HX.out.push (l := (kd, ((0 : Int), [(-1 : Int), z]))) HKD.out hgl HO2.out hgrz hownz)
          have htz := totL_snoc ls (kd, ((0 : Int), [(-1 : Int), z]))
          simp only [List.length_cons, List.length_nil] at htz
          have HT := Lib.hid htz
          clear htz hownz hgrz
          go_wp2_with (fail)
          go_ret
          exact ⟨_, _, _, _, _, (by rw [List.length_append]; rfl), (by rw [List.length_append]; show ls.length + 1 ≤ 4; omega), (by have := HT.out; omega), by omega, HZ.out⟩
        · have hyb : (yc == 0) = false := by simp [hyc]
          clear hyc
          go_wp2_with (fail)
          go_ret
          exact ⟨_, _, ls, us, _, rfl, by omega, by omega, by omega, Htc.out⟩

end Go.Proofs.YtokmmloakahkhaaGreat
/-
  A rule drawn: the walk of l2Make.
-/
namespace Go.Proofs.YtokmmloakahkhaaGreat
open Go.RowKit

theorem l2Body_own (g : Nat) (bs : List Nat) (p lo hi n : Nat) (no : Int) (v : Value) (ar : List Int) (w : World) (h : Rdr w g bs p) (hp : p ≤ 1048500) (ha : OwnInts w lo hi v ar) (hg : g < lo) (hh : hi ≤ w.heap.size) (hr : ∀ x ∈ ar, 0 ≤ x ∧ x ≤ 2) (h0 : 0 < ar.length) (hl : ar.length ≤ 1048576) (hn : n ≤ 1048576) :
    Calls Tryz.prog 204 #[.pointer (some ⟨g, 0, none⟩), v, .int .i64 n, .int .i64 no] w fun e w' => ∃ (A : Option Addr) (c : Nat) (ls : List LLit) (q : Nat), e = .returned (.slice A ls.length c) ∧ ls.length ≤ 4 ∧ totL ls ≤ 8 ∧ KindsOk ls ∧ q ≤ p + 40 ∧ OwnLits w' w.heap.size w'.heap.size (.slice A ls.length c) ls ∧ Rdr w' g bs q ∧ Only g (g + 1) w w' :=
  (l2Body_any g bs p lo hi n no v ar w h hp ha hg hh hr h0 hl hn).mono fun _ _ ⟨A, c, ls, _, q, e, h1, h2, h3, hd⟩ => ⟨A, c, ls, q, e, h1, h2, hd.kinds, h3, hd.col.lits hd.col.cap, hd.rdr, hd.only⟩

/-- What l2Make keeps while it tries. -/
structure MkAt (w wr : World) (g : Nat) (bs : List Nat) (q : Nat) : Prop where
  res : Blk wr w.heap.size 69 #[.int .i64 0, .slice none 0 0, .slice none 0 0]
  rdr : Rdr wr g bs q
  only : Only g (g + 1) w wr
section
variable {w wr w' : World} {g q : Nat} {bs : List Nat}
theorem MkAt.start (h : Rdr w g bs q) : MkAt w (w.alloc (.cells #[.int .i64 0, .slice none 0 0, .slice none 0 0] 69)) g bs q :=
  ⟨Blk.new _ _ _, h.below (below1 _ _) h.lt, Only.of_below (below1 _ _)⟩
theorem MkAt.go (h : MkAt w wr g bs q) (hg : g < w.heap.size) {q' : Nat} (hr : Rdr w' g bs q') (ho : Only g (g + 1) wr w') : MkAt w w' g bs q' :=
  ⟨h.res.only ho (.inr (by omega)), hr, h.only.trans ho⟩
theorem MkAt.done {m : Nat} {ls : List LLit} {xs : List Int} {a b : Value} (h : MkAt w wr g bs q) (hg : g < w.heap.size) (x : Value) (hm : w.heap.size + 1 ≤ m) (ha : OwnInts wr (w.heap.size + 1) m a xs) (hb : OwnLits wr m wr.heap.size b ls)
    (hw : w' = ((wr.setCell ⟨w.heap.size, 0, none⟩ x).setCell ⟨w.heap.size, 1, none⟩ a).setCell ⟨w.heap.size, 2, none⟩ b) :
    OwnInts w' w.heap.size m a xs ∧ OwnLits w' m w'.heap.size b ls ∧ Rdr w' g bs q ∧ Only g (g + 1) w w' ∧ Blk w' w.heap.size 69 #[x, a, b] ∧ w.heap.size ≤ m ∧ wr.heap.size = w'.heap.size := by
  subst hw
  obtain ⟨W, hW⟩ : ∃ W, W = ((wr.setCell ⟨w.heap.size, 0, none⟩ x).setCell ⟨w.heap.size, 1, none⟩ a).setCell ⟨w.heap.size, 2, none⟩ b := ⟨_, rfl⟩
  rw [← hW]
  have hk : ∀ k, k ≠ w.heap.size → W.heap[k]? = wr.heap[k]? := fun k hk => by
    rw [hW]
    exact ((Below.heap_setCell _ _ _ k hk).trans (Below.heap_setCell _ _ _ k hk)).trans (Below.heap_setCell _ _ _ k hk)
  have hsz : W.heap.size = wr.heap.size := by rw [hW]; simp
  have hblk : Blk W w.heap.size 69 #[x, a, b] := by
    have := ((h.res.set_ 0 x).set_ 1 a).set_ 2 b
    rw [hW]
    simpa using this
  refine ⟨?_, ?_, h.rdr.same fun k hk' => hk k (by omega), ⟨?_, ?_, ?_, by rw [hsz]; exact h.only.size, fun k hk' hn => (hk k (by omega)).trans (h.only.block k hk' hn)⟩, hblk, by omega, hsz.symm⟩
  · exact (ha.keep fun k h1 h2 => hk k (by omega)).mono (Nat.le_succ _) (Nat.le_refl _)
  · rw [hsz]
    exact hb.keep fun k h1 h2 => hk k (by omega)
  · rw [hW]; exact h.only.os
  · rw [hW]; exact h.only.tape
  · rw [hW]; exact h.only.output
theorem OwnLits.none0 (w : World) (lo hi : Nat) : OwnLits w lo hi (.slice none 0 0) [] := ⟨none, 0, rfl, Nat.le_refl _, fun h => absurd h (by simp)⟩
end

set_option maxHeartbeats 4000000 in
set_option maxRecDepth 100000 in
theorem l2Make_any (g : Nat) (bs : List Nat) (p lo hi fr : Nat) (no : Int) (v : Value) (ar : List Int) (w : World) (h : Rdr w g bs p) (hp : p ≤ 1048000) (ha : OwnInts w lo hi v ar) (hg : g < lo) (hh : hi ≤ w.heap.size) (hr : ∀ x ∈ ar, 0 ≤ x ∧ x ≤ 2) (hf : fr < ar.length) (hl : ar.length ≤ 1048576) :
    Calls Tryz.prog 168 #[.pointer (some ⟨g, 0, none⟩), v, .int .i64 fr, .int .i64 no] w fun e w' => ∃ (a b : Value) (r : LRule) (q m : Nat), e = .returned (.agg #[.int .i64 r.1.1, a, b]) ∧ r.1.2.length ≤ 2 ∧ r.2.length ≤ 4 ∧ totL r.2 ≤ 8 ∧ KindsOk r.2 ∧ q ≤ p + 300 ∧ w.heap.size ≤ m ∧ m ≤ w'.heap.size ∧
      OwnInts w' w.heap.size m a r.1.2 ∧ OwnLits w' m w'.heap.size b r.2 ∧ Rdr w' g bs q ∧ Only g (g + 1) w w' := by
  have H := Lib.hid h
  have hgl := h.lt
  have HA := Lib.hid ha
  have HRG := Lib.hid hr
  obtain ⟨A0, c0, hv0⟩ := ha.form
  subst hv0
  clear h ha hr
  obtain ⟨d, hd1, hd2, hd3⟩ : ∃ d : Nat, IntKind.i64.wrap ((ar.length : Int) - (fr : Int)) = (d : Int) ∧ 0 < d ∧ fr + d ≤ ar.length := ⟨ar.length - fr, by unfold IntKind.wrap; simp [IntKind.bits, IntKind.signed]; omega, by omega, by omega⟩
  have CD := Lib.hid (fun (W : World) (q j n : Nat) (hR : Rdr W g bs q) (hq : q ≤ 1048576) (hO : Only g (g + 1) w W) (hj : j < ar.length) (hn : n ≤ 1048576) => l2Draw_any g bs q lo hi j ar[j].toNat n (.slice A0 ar.length c0) ar W hR hq (HA.out.only hO (.inr (by omega))) hg (Nat.le_trans hh hO.size) hj (by have := HRG.out _ (List.getElem_mem hj); omega) (by have := HRG.out _ (List.getElem_mem hj); omega) hl hn)
  have CB := Lib.hid (fun (W : World) (q n : Nat) (hR : Rdr W g bs q) (hq : q ≤ 1048500) (hO : Only g (g + 1) w W) (hn : n ≤ 1048576) => l2Body_own g bs q lo hi n no (.slice A0 ar.length c0) ar W hR hq (HA.out.only hO (.inr (by omega))) hg (Nat.le_trans hh hO.size) HRG.out (by omega) hl hn)
  have HS := Lib.hid (MkAt.start H.out)
  go_enter Tryz.func168, Tryz.ntmps168
  go_wp2_with (fail)
  go_loopw [9] (fun i wr => ∃ (k q : Nat), k ≤ 6 ∧ i = .int .i64 k ∧ q ≤ p + 48 * k ∧ MkAt w wr g bs q) (fun i _ => 6 - (intOf i).toNat)
  case atStart => exact ⟨0, p, by omega, rfl, by omega, HS.out⟩
  case round =>
    obtain ⟨k, q, hk, rfl, hq, hr⟩ := hrel
    have HR := Lib.hid hr
    have hszr0 := hr.only.size
    clear hr
    by_cases hlt : k < 6
    · have hkb : decide ((k : Int) < 6) = true := by simp; omega
      go_wp2_with (fail)
      refine (pick_any g bs q 3 _ HR.out.rdr (by omega) (by omega)).mono ?_
      rintro e w1 ⟨⟨x, rfl, hx⟩, hp1⟩
      have hxr : 0 ≤ x ∧ x < 3 := hx.1 (by omega)
      obtain ⟨vs, hvs, hvs3⟩ : ∃ vs : Nat, IntKind.i64.wrap (1 + x) = (vs : Int) ∧ vs ≤ 3 := ⟨(1 + x).toNat, by unfold IntKind.wrap; simp [IntKind.bits, IntKind.signed]; omega, by omega⟩
      have H1 := Lib.hid (HR.out.go hgl hp1.1 hp1.2)
      clear hp1 hx
      go_wp2_with (fail)
      refine (pick_any g bs (q + 1) d _ H1.out.rdr (by omega) (by omega)).mono ?_
      rintro e w2 ⟨⟨y, rfl, hy⟩, hp2⟩
      have hyr : 0 ≤ y ∧ y < d := hy.1 (by omega)
      obtain ⟨j, hj1, hj2⟩ : ∃ j : Nat, IntKind.i64.wrap ((fr : Int) + y) = (j : Int) ∧ j < ar.length := ⟨((fr : Int) + y).toNat, by unfold IntKind.wrap; simp [IntKind.bits, IntKind.signed]; omega, by omega⟩
      have H2 := Lib.hid (H1.out.go hgl hp2.1 hp2.2)
      have hsz2 : w.heap.size + 1 ≤ w2.heap.size := H2.out.res.lt
      clear hp2 hy
      go_wp2_with (fail)
      refine (CD.out w2 (q + 1 + 1) j vs H2.out.rdr (by omega) H2.out.only hj2 (by omega)).mono ?_
      rintro e w3 ⟨A, c, xs, q3, rfl, hxs, hq3, ho3, hr3, hO3⟩
      have H3 := Lib.hid (H2.out.go hgl hr3 hO3)
      have HO3 := Lib.hid (ho3.mono hsz2 (Nat.le_refl _))
      have hsz3 : w.heap.size + 1 ≤ w3.heap.size := H3.out.res.lt
      clear ho3 hr3 hO3
      go_wp2_with (fail)
      refine (CB.out w3 q3 vs H3.out.rdr (by omega) H3.out.only (by omega)).mono ?_
      rintro e w4 ⟨Ab, cb, ls, q4, rfl, hls, htl, hkd, hq4, ho4, hr4, hO4⟩
      have HKD := Lib.hid hkd
      clear hkd
      have H4 := Lib.hid (H3.out.go hgl hr4 hO4)
      have HO4 := Lib.hid (And.intro (HO3.out.only hO4 (.inr (by omega))) (And.intro ho4 hO4.size))
      have hm3 : w.heap.size + 1 ≤ w3.heap.size := hsz3
      have hsz4 : w.heap.size + 1 ≤ w4.heap.size := H4.out.res.lt
      clear ho4 hr4 hO4
      go_wp2_with (fail)
      obtain ⟨wx, hwx⟩ : ∃ wx, wx = w4.alloc (.cells #[.int .i64 (j : Int), .slice A xs.length c, .slice Ab ls.length cb] 69) := ⟨_, rfl⟩
      have ox : Blk wx w4.heap.size 69 #[.int .i64 (j : Int), .slice A xs.length c, .slice Ab ls.length cb] := by rw [hwx]; exact Blk.new _ _ _
      have bx : Below w4.heap.size w4 wx := by rw [hwx]; exact below1 _ _
      rw [← hwx]
      have HRR := Lib.hid (show RdRule wx wx.heap.size (.agg #[.int .i64 (j : Int), .slice A xs.length c, .slice Ab ls.length cb]) (((j : Int), xs), ls) from ⟨_, _, rfl, ((HO4.out.1.below bx HO4.out.2.2).mono (Nat.le_refl _) (Nat.le_trans HO4.out.2.2 bx.size)).rd, ((HO4.out.2.1.below bx (Nat.le_refl _)).mono (Nat.le_refl _) bx.size).rd⟩)
      clear hwx
      refine (specRuleSafe_any _ (((j : Int), xs), ls) wx HRR.out (by show xs.length + (ls.length + totL ls) ≤ 1048576; omega)).mono ?_
      rintro e w5 ⟨rfl, hb5⟩
      have b5 : Below w4.heap.size w4 w5 := bthen bx hb5
      have H5 := Lib.hid (H4.out.go hgl (H4.out.rdr.below b5 H4.out.rdr.lt) (Only.of_below b5))
      have HO5 := Lib.hid (And.intro (HO4.out.1.below b5 HO4.out.2.2) (And.intro ((HO4.out.2.1.below b5 (Nat.le_refl _)).mono (Nat.le_refl _) b5.size) (Nat.le_trans HO4.out.2.2 b5.size)))
      have o5 := ox.below hb5 ox.lt
      have x0 : w5.cell? ⟨w4.heap.size, 0, none⟩ = some (.int .i64 (j : Int)) := o5.cell 0
      have x1 : w5.cell? ⟨w4.heap.size, 1, none⟩ = some (.slice A xs.length c) := o5.cell 1
      have x2 : w5.cell? ⟨w4.heap.size, 2, none⟩ = some (.slice Ab ls.length cb) := o5.cell 2
      have j0 : w5.cell? ⟨w.heap.size, 0, none⟩ = some (.int .i64 0) := H5.out.res.cell 0
      have j1 : w5.cell? ⟨w.heap.size, 1, none⟩ = some (.slice none 0 0) := H5.out.res.cell 1
      have j2 : w5.cell? ⟨w.heap.size, 2, none⟩ = some (.slice none 0 0) := H5.out.res.cell 2
      have l0 := H5.out.res.frozen 0
      have l1 := H5.out.res.frozen 1
      have l2 := H5.out.res.frozen 2
      obtain ⟨sb, hsb⟩ : ∃ sb, sb = ruleSafe (((j : Int), xs), ls) := ⟨_, rfl⟩
      rw [← hsb]
      clear hsb b5 hb5 ox bx o5
      cases sb with
      | true =>
        go_wp2_with (fail)
        obtain ⟨W, hW⟩ : ∃ W, W = ((w5.setCell ⟨w.heap.size, 0, none⟩ (.int .i64 (j : Int))).setCell ⟨w.heap.size, 1, none⟩ (.slice A xs.length c)).setCell ⟨w.heap.size, 2, none⟩ (.slice Ab ls.length cb) := ⟨_, rfl⟩
        rw [← hW]
        obtain ⟨e1, e2, e3, e4, e5, e6, e7⟩ := H5.out.done hgl (.int .i64 (j : Int)) hm3 HO5.out.1 HO5.out.2.1 hW
        have e8 : w3.heap.size ≤ W.heap.size := by rw [← e7]; exact HO5.out.2.2
        have d0 := e5.cell 0
        have d1 := e5.cell 1
        have d2 := e5.cell 2
        refine bodyPost_ret (v := .agg #[.int .i64 (j : Int), .slice A xs.length c, .slice Ab ls.length cb]) (by simp [results, Tryz.results168, go_sem, d0, d1, d2]) rfl ?_
        exact ⟨_, _, (((j : Int), xs), ls), q4, _, rfl, hxs, hls, htl, HKD.out, by omega, e6, e8, e1, e2, e3, e4⟩
      | false =>
        go_wp2_with (fail)
        go_roundw
        case rel => exact ⟨k + 1, q4, by omega, by go_num, by omega, H5.out⟩
        case measure => simp [intOf]; omega
    · have hk6 : k = 6 := by omega
      subst hk6
      go_wp2_with (fail)
      refine (CD.out wr q fr 0 HR.out.rdr (by omega) HR.out.only hf (by omega)).mono ?_
      rintro e w4 ⟨A, c, xs, q4, rfl, hxs, hq4, ho4, hr4, hO4⟩
      have H4 := Lib.hid (HR.out.go hgl hr4 hO4)
      have HO4 := Lib.hid (ho4.mono HR.out.res.lt (Nat.le_refl _))
      have j0 : w4.cell? ⟨w.heap.size, 0, none⟩ = some (.int .i64 0) := H4.out.res.cell 0
      have j1 : w4.cell? ⟨w.heap.size, 1, none⟩ = some (.slice none 0 0) := H4.out.res.cell 1
      have j2 : w4.cell? ⟨w.heap.size, 2, none⟩ = some (.slice none 0 0) := H4.out.res.cell 2
      have l0 := H4.out.res.frozen 0
      have l1 := H4.out.res.frozen 1
      have l2 := H4.out.res.frozen 2
      clear ho4 hr4 hO4
      go_wp2_with (fail)
      obtain ⟨W, hW⟩ : ∃ W, W = ((w4.setCell ⟨w.heap.size, 0, none⟩ (.int .i64 (fr : Int))).setCell ⟨w.heap.size, 1, none⟩ (.slice A xs.length c)).setCell ⟨w.heap.size, 2, none⟩ (.slice none 0 0) := ⟨_, rfl⟩
      rw [← hW]
      obtain ⟨e1, e2, e3, e4, e5, e6, e7⟩ := H4.out.done hgl (.int .i64 (fr : Int)) H4.out.res.lt HO4.out (OwnLits.none0 _ _ _) hW
      have d0 := e5.cell 0
      have d1 := e5.cell 1
      have d2 := e5.cell 2
      refine bodyPost_ret (v := .agg #[.int .i64 (fr : Int), .slice A xs.length c, .slice none 0 0]) (by simp [results, Tryz.results168, go_sem, d0, d1, d2]) rfl ?_
      exact ⟨_, _, (((fr : Int), xs), []), q4, _, rfl, hxs, by simp, by simp [totL], KindsOk.nil, by omega, e6, Nat.le_of_eq e7, e1, e2, e3, e4⟩

end Go.Proofs.YtokmmloakahkhaaGreat
/-
  A row of rules of the call's own that grows: the words.
-/
namespace Go.Proofs.YtokmmloakahkhaaGreat
open Go.RowKit

/-- A rule and its two rows. -/
abbrev Ent := LRule × Value × Value
def flatEnt : List Ent → List Value
  | [] => []
  | e :: es => .int .i64 e.1.1.1 :: e.2.1 :: e.2.2 :: flatEnt es
theorem flatEnt_length : ∀ es : List Ent, (flatEnt es).length = es.length * 3
  | [] => by simp [flatEnt]
  | e :: es => by
    have := flatEnt_length es
    simp only [flatEnt, List.length_cons, this]
    omega
theorem flatEnt_at : ∀ (es : List Ent) (k : Nat) (hk : k < es.length), (flatEnt es)[k * 3]? = some (.int .i64 es[k].1.1.1) ∧ (flatEnt es)[k * 3 + 1]? = some es[k].2.1 ∧ (flatEnt es)[k * 3 + 2]? = some es[k].2.2
  | [], k, hk => absurd hk (by simp)
  | e :: es, 0, _ => by simp [flatEnt]
  | e :: es, k + 1, hk => by
    have := flatEnt_at es k (by simpa using hk)
    simpa [flatEnt, Nat.add_mul] using this
theorem flatEnt_snoc : ∀ (es : List Ent) (e : Ent), flatEnt (es ++ [e]) = flatEnt es ++ [.int .i64 e.1.1.1, e.2.1, e.2.2]
  | [], e => by simp [flatEnt]
  | x :: es, e => by simp [flatEnt, flatEnt_snoc es e]

/-- The rows of an entry: the head's in [lo, mid), the body's in [mid, hi). -/
structure EntAt (base : Nat) (wr : World) (ob : Option Nat) (e : Ent) (lo mid hi : Nat) : Prop where
  low : base ≤ lo
  lm : lo ≤ mid
  mh : mid ≤ hi
  high : hi ≤ wr.heap.size
  off : ∀ b, ob = some b → b < lo ∨ hi ≤ b
  head : OwnInts wr lo mid e.2.1 e.1.1.2
  body : OwnLits wr mid hi e.2.2 e.1.2
theorem EntAt.keep {base lo mid hi : Nat} {wr w2 : World} {ob ob2 : Option Nat} {e : Ent} (h : EntAt base wr ob e lo mid hi) (hs : hi ≤ w2.heap.size) (hk : ∀ k, lo ≤ k → k < hi → w2.heap[k]? = wr.heap[k]?) (ho : ∀ b, ob2 = some b → b < lo ∨ hi ≤ b) : EntAt base w2 ob2 e lo mid hi :=
  ⟨h.low, h.lm, h.mh, hs, ho, h.head.keep fun k k1 k2 => hk k k1 (by have := h.mh; omega), h.body.keep fun k k1 k2 => hk k (by have := h.lm; omega) k2⟩
/-- A row of rules of the call's own that grows: what a rule holds lies apart from the row, and behind what the rules ahead of it hold. -/
structure ColR (base : Nat) (wr : World) (es : List Ent) (A : Option Addr) (c : Nat) : Prop where
  own : ∃ lo mid hi : Nat → Nat, (∀ i (h : i < es.length), EntAt base wr (Value.slice A es.length c).ownBlock es[i] (lo i) (mid i) (hi i)) ∧ ∀ i j, i < j → j < es.length → hi i ≤ lo j
  row : wr.ownsRow base 69 3 (.slice A es.length c) es.length (flatEnt es)
section
variable {base g g2 cp : Nat} {wr w2 w4 : World} {es : List Ent} {A : Option Addr} {c : Nat}
theorem ColR.nil (base : Nat) (w : World) : ColR base w [] none 0 := ⟨⟨fun _ => 0, fun _ => 0, fun _ => 0, fun i h => absurd h (by simp), fun i j _ h => absurd h (by simp)⟩, by simpa [flatEnt] using World.ownsRow_nil w base 69 3⟩
theorem ColR.keep (h : ColR base wr es A c) (hs : wr.heap.size ≤ w2.heap.size) (hk : ∀ k, base ≤ k → k < wr.heap.size → w2.heap[k]? = wr.heap[k]?) : ColR base w2 es A c := by
  obtain ⟨lo, mid, hi, h1, h2⟩ := h.own
  refine ⟨⟨lo, mid, hi, fun i hi => ?_, h2⟩, ownsRow_only h.row fun b hb => hk b (h.row.lt b hb).1 (h.row.lt b hb).2⟩
  have e := h1 i hi
  exact e.keep (by have := e.high; omega) (fun k k1 k2 => hk k (by have := e.low; omega) (by have := e.high; omega)) e.off
theorem ColR.only (h : ColR base wr es A c) (ho : Only g (g + 1) wr w2) (hg : g < base) : ColR base w2 es A c :=
  h.keep ho.size fun k k1 k2 => ho.block k k2 (by omega)
theorem ColR.below (h : ColR base wr es A c) (hb : Below wr.heap.size wr w2) : ColR base w2 es A c :=
  h.keep hb.size fun k _ k2 => hb.block k k2
/-- One more rule, which a call made from wr to w2. -/
theorem ColR.push {e : Ent} {o : Obj} {m : Nat} (h : ColR base wr es A c) (hb : base ≤ wr.heap.size) (ho : Only g (g + 1) wr w2) (hg : g < base) (hm1 : wr.heap.size ≤ m) (hm2 : m ≤ w2.heap.size) (hu : OwnInts w2 wr.heap.size m e.2.1 e.1.1.2) (hv : OwnLits w2 m w2.heap.size e.2.2 e.1.2)
    (hgr : (w2.alloc o).grownBy w4 (Value.slice A es.length c).ownBlock) (hat : (Value.slice A es.length c).ownBlock = some g2 ∨ g2 = (w2.alloc o).heap.size)
    (hown : w4.ownsRow base 69 3 (.slice (some ⟨g2, 0, none⟩) (es.length + 1) cp) (es.length + 1) (flatEnt es ++ [.int .i64 e.1.1.1, e.2.1, e.2.2])) :
    ColR base w4 (es ++ [e]) (some ⟨g2, 0, none⟩) cp := by
  have hg2 := grown_from_alloc hgr
  have h2 := h.only ho hg
  have hl : (es ++ [e]).length = es.length + 1 := by simp
  have hs : (w2.alloc o).heap.size = w2.heap.size + 1 := by simp
  have hsz := ho.size
  have hsz4 := hg2.size
  have hnew : ∀ lo hi, hi ≤ w2.heap.size → (∀ b, (Value.slice A es.length c).ownBlock = some b → b < lo ∨ hi ≤ b) → ∀ b, (Value.slice (some ⟨g2, 0, none⟩) (es.length + 1) cp).ownBlock = some b → b < lo ∨ hi ≤ b := fun lo hi h1 h3 b hb' => by
    have e1 : g2 = b := by simpa [Value.ownBlock] using hb'
    subst e1
    rcases hat with hat | hat
    · exact h3 _ hat
    · right; omega
  have hkp : ∀ lo hi, hi ≤ w2.heap.size → (∀ b, (Value.slice A es.length c).ownBlock = some b → b < lo ∨ hi ≤ b) → ∀ k, lo ≤ k → k < hi → w4.heap[k]? = w2.heap[k]? := fun lo hi h1 h3 k k1 k2 =>
    hg2.block k (by omega) (fun e => by have := h3 k e.symm; omega)
  obtain ⟨lo, mid, hi, q1, q2⟩ := h.own
  have q3 : ∀ i (h : i < es.length), EntAt base w2 (Value.slice A es.length c).ownBlock es[i] (lo i) (mid i) (hi i) := fun i hi => by
    have e := q1 i hi
    exact e.keep (by have := e.high; omega) (fun k k1 k2 => ho.block k (by have := e.high; omega) (by have := e.low; omega)) e.off
  refine ⟨⟨fun i => if i < es.length then lo i else wr.heap.size, fun i => if i < es.length then mid i else m, fun i => if i < es.length then hi i else w2.heap.size, fun i hi => ?_, fun i j hij hj => ?_⟩, ?_⟩
  · rw [hl]
    by_cases e' : i < es.length
    · rw [List.getElem_append_left e']
      simp only [if_pos e']
      have x := q3 i e'
      exact x.keep (by have := x.high; omega) (hkp _ _ x.high x.off) (hnew _ _ x.high x.off)
    · have e2 : i = es.length := by rw [hl] at hi; omega
      subst e2
      simp only [if_neg e']
      have h5 : ∀ b, (Value.slice A es.length c).ownBlock = some b → b < wr.heap.size ∨ w2.heap.size ≤ b := fun b hb' => .inl (h.row.lt b hb').2
      have e3 : (es ++ [e])[es.length] = e := by simp
      rw [e3]
      have x : EntAt base w2 (Value.slice A es.length c).ownBlock e wr.heap.size m w2.heap.size := ⟨hb, hm1, hm2, Nat.le_refl _, h5, hu, hv⟩
      exact x.keep (by omega) (hkp _ _ x.high x.off) (hnew _ _ x.high x.off)
  · rw [hl] at hj
    by_cases e' : j < es.length
    · simp only [if_pos e', if_pos (show i < es.length by omega)]
      exact q2 i j hij e'
    · simp only [if_neg e', if_pos (show i < es.length by omega)]
      exact (q1 i (by omega)).high
  · rw [hl, flatEnt_snoc es e]
    exact hown
theorem ColR.capOk (h : ColR base wr es A c) : es.length ≤ c := by
  rcases h.row.2 with ⟨e, h0⟩ | ⟨g, cq, cur, e, hb, hgg, hn, _⟩
  · injection e with _ _ e
    omega
  · injection e with _ _ e
    omega
theorem ColR.rules (h : ColR base wr es A c) : OwnRules wr base wr.heap.size (.slice A es.length c) (es.map (·.1)) := by
  have hcells := @World.ownsRow.cells wr base 69 3 (.slice A es.length c) es.length (flatEnt es) h.row
  have hlt := h.row.lt
  have hn := h.capOk
  have hml : (es.map (·.1)).length = es.length := by simp
  refine ⟨A, c, by rw [hml], by rw [hml]; exact hn, fun hpos => ?_⟩
  rcases h.row.2 with ⟨e, h0⟩ | ⟨g, cq, cur, e, hb, hgg, _⟩
  · omega
  · injection e with e1 _ e3
    subst e1
    refine ⟨g, 0, rfl, hb, (hlt g rfl).2, fun k hk => ⟨⟨by simp [World.frozen?, hgg], by simp [World.frozen?, hgg]⟩, ?_⟩⟩
    rw [hml] at hk
    obtain ⟨c0, c1, c2⟩ := flatEnt_at es k hk
    have d0 := hcells (g := g) rfl _ _ c0
    have d1 := hcells (g := g) rfl _ _ c1
    have d2 := hcells (g := g) rfl _ _ c2
    rw [Go.WideShapes.add_plain] at d0 d1 d2
    obtain ⟨lo, mid, hi, q1, _⟩ := h.own
    have x := q1 k hk
    refine ⟨_, _, _, d0, d1, d2, ?_⟩
    simp only [List.getElem_map]
    exact ⟨rfl, x.head.mono x.low (by have := x.mh; have := x.high; omega), x.body.mono (by have := x.low; have := x.lm; omega) x.high⟩
end

end Go.Proofs.YtokmmloakahkhaaGreat
