/-
  Texts that the claim's last one imports, laid together: part 4 of 7. No condition of its own.
-/
import Derived.Deep.RegionHeld3
import Derived.Deep.DeepCutAuto
import Derived.Test.YtfjmnjemmfmoaaaDoorPR2
import Derived.Test.YtfjmnjemmfmoaaaDoorPR3
/-
  Marks on results, read again: the numbers lie in cells that a list names, each once. The words, and the walks of markIntS, heldIntS over such lists.
-/
namespace Go.Proofs.YtfjmnjemmfmoaaaDoor
open Go.RowKit

/-- The cells ps hold k, k + 1, .. -/
def HoldsFrom (w : World) (k : Int) (ps : List Addr) : Prop := ∀ i (h : i < ps.length), w.cell? ps[i] = some (.int .i64 (k + (i : Int)))
/-- The cells ps hold k, k + 1, ..; the others are as they were. -/
structure SeqAt (lo hi : Nat) (k : Int) (ps : List Addr) (w w' : World) : Prop where
  marked : Marked lo hi w w'
  holds : HoldsFrom w' k ps
  other : ∀ p : Addr, p.block < w.heap.size → p ∉ ps → w'.cell? p = w.cell? p

section
variable {lo hi : Nat} {w w1 w' : World} {k : Int} {ps qs : List Addr}
theorem HoldsFrom.nil : HoldsFrom w k [] := fun i h => absurd h (by simp)
theorem HoldsFrom.left (h : HoldsFrom w k (ps ++ qs)) : HoldsFrom w k ps := fun i hi => by
  have := h i (by simp; omega)
  rwa [List.getElem_append_left hi] at this
theorem HoldsFrom.right (h : HoldsFrom w k (ps ++ qs)) : HoldsFrom w (k + (ps.length : Int)) qs := fun i hi => by
  have := h (ps.length + i) (by simp; omega)
  rw [List.getElem_append_right (by omega)] at this
  simp only [Nat.add_sub_cancel_left] at this
  rw [this]
  congr 2
  omega
theorem HoldsFrom.append (h : HoldsFrom w k ps) (h2 : HoldsFrom w (k + (ps.length : Int)) qs) : HoldsFrom w k (ps ++ qs) := fun i hi => by
  by_cases hl : i < ps.length
  · rw [List.getElem_append_left hl]
    exact h i hl
  · rw [List.getElem_append_right (by omega)]
    simp at hi
    rw [h2 (i - ps.length) (by omega)]
    congr 2
    omega
theorem HoldsFrom.lt (h : HoldsFrom w k ps) {p : Addr} (hp : p ∈ ps) : p.block < w.heap.size := by
  obtain ⟨i, hi, rfl⟩ := List.getElem_of_mem hp
  exact World.block_lt_of_cell? _ _ (h i hi)
theorem HoldsFrom.kept (h : HoldsFrom w k ps) (hc : ∀ p ∈ ps, w'.cell? p = w.cell? p) : HoldsFrom w' k ps := fun i hi => (hc _ (List.getElem_mem hi)).trans (h i hi)
theorem HoldsFrom.below (h : HoldsFrom w k ps) (hb : Below w.heap.size w w') : HoldsFrom w' k ps := h.kept fun _ hp => hb.cell (h.lt hp)
theorem SeqAt.below (h : Below w.heap.size w w') : SeqAt lo hi k [] w w' := ⟨Marked.of_below h, HoldsFrom.nil, fun _ hp _ => h.cell hp⟩
theorem SeqAt.store {p : Addr} {x : Int} (hp : lo ≤ p.block ∧ p.block < hi) (hc : w.cell? p = some (.int .i64 x)) (k : Int) : SeqAt lo hi k [p] w (w.setCell p (.int .i64 k)) := by
  refine ⟨Marked.store hp hc k, fun i hi => ?_, fun q _ hq => World.cell?_setCell_other _ _ _ _ (fun e => hq (by simp [e]))⟩
  obtain rfl : i = 0 := by simpa using hi
  simpa using World.cell?_setCell_same _ _ (.int .i64 k) hc
theorem SeqAt.append (h : SeqAt lo hi k ps w w1) (h2 : SeqAt lo hi (k + (ps.length : Int)) qs w1 w') (hd : ∀ p ∈ ps, p ∉ qs) : SeqAt lo hi k (ps ++ qs) w w' := by
  refine ⟨h.marked.trans h2.marked, (h.holds.kept fun p hp => h2.other p (h.holds.lt hp) (hd p hp)).append h2.holds, fun p hp hq => ?_⟩
  simp only [List.mem_append, not_or] at hq
  exact (h2.other p (Nat.lt_of_lt_of_le hp h.marked.only.size) hq.2).trans (h.other p hp hq.1)
theorem SeqAt.then_below (h : SeqAt lo hi k ps w w1) (hb : Below w1.heap.size w1 w') : SeqAt lo hi k ps w w' := by
  have := h.append (qs := []) (SeqAt.below (lo := lo) (hi := hi) hb) (fun _ _ hq => by simp at hq)
  simpa using this
theorem SeqAt.below_then (hb : Below w.heap.size w w1) (h : SeqAt lo hi k ps w1 w') : SeqAt lo hi k ps w w' := by
  have h0 : SeqAt lo hi k [] w w1 := SeqAt.below hb
  have := h0.append (by simpa using h) (fun _ hp => by simp at hp)
  simpa using this
end

/-- The first j groups of leaves. -/
def preL (el : Nat → List Addr) (j : Nat) : List Addr := ((List.range j).map el).flatten
theorem preL_zero (el : Nat → List Addr) : preL el 0 = [] := rfl
theorem preL_succ (el : Nat → List Addr) (j : Nat) : preL el (j + 1) = preL el j ++ el j := by
  unfold preL
  rw [List.range_succ, List.map_append, List.flatten_append]
  simp
theorem preL_split (el : Nat → List Addr) : ∀ n j, j ≤ n → ∃ rest, preL el n = preL el j ++ rest
  | 0, j, h => ⟨[], by rw [show j = 0 by omega]; rfl⟩
  | n + 1, j, h => by
    by_cases e : j = n + 1
    · exact ⟨[], by rw [e]; simp⟩
    · obtain ⟨r, hr⟩ := preL_split el n j (by omega)
      exact ⟨r ++ el n, by rw [preL_succ, hr, List.append_assoc]⟩
theorem preL_nodup {el : Nat → List Addr} {n j : Nat} (h : (preL el n).Nodup) (hj : j < n) : (preL el j ++ el j).Nodup := by
  obtain ⟨r, hr⟩ := preL_split el n (j + 1) hj
  rw [hr, List.nodup_append] at h
  rw [← preL_succ]
  exact h.1
theorem preL_holds {w : World} {k : Int} {el : Nat → List Addr} {n j : Nat} (h : HoldsFrom w k (preL el n)) (hj : j < n) : HoldsFrom w (k + ((preL el j).length : Int)) (el j) := by
  obtain ⟨r, hr⟩ := preL_split el n (j + 1) hj
  rw [hr] at h
  have := h.left
  rw [preL_succ] at this
  exact this.right
theorem mem_preL {el : Nat → List Addr} : ∀ {n : Nat} {p : Addr}, p ∈ preL el n ↔ ∃ j, j < n ∧ p ∈ el j
  | 0, p => by simp [preL]
  | n + 1, p => by
    rw [preL_succ, List.mem_append, mem_preL]
    constructor
    · rintro (⟨j, hj, hp⟩ | hp)
      · exact ⟨j, by omega, hp⟩
      · exact ⟨n, by omega, hp⟩
    · rintro ⟨j, hj, hp⟩
      by_cases e : j = n
      · exact .inr (e ▸ hp)
      · exact .inl ⟨j, by omega, hp⟩
/-- Groups that are once each and apart from each other. -/
theorem preL_nodup_of {el : Nat → List Addr} : ∀ {n : Nat}, (∀ j, j < n → (el j).Nodup) → (∀ i j, i < j → j < n → ∀ p ∈ el i, p ∉ el j) → (preL el n).Nodup
  | 0, _, _ => by simp [preL]
  | n + 1, h1, h2 => by
    rw [preL_succ, List.nodup_append]
    refine ⟨preL_nodup_of (fun j hj => h1 j (by omega)) (fun i j hij hj => h2 i j hij (by omega)), h1 n (by omega), fun a ha b hb e => ?_⟩
    obtain ⟨j, hj, hp⟩ := mem_preL.1 ha
    exact h2 j n hj (by omega) a hp (e ▸ hb)
theorem preL_length_le {el : Nat → List Addr} {n j : Nat} (h : j ≤ n) : (preL el j).length ≤ (preL el n).length := by
  obtain ⟨r, hr⟩ := preL_split el n j h
  rw [hr]
  simp

/-- A slice of n numbers in blocks from lo on and below hi that may be written; ps are its cells. -/
def LvInts (w : World) (lo hi : Nat) (v : Value) (n : Nat) (ps : List Addr) : Prop :=
  ∃ A c, v = .slice A n c ∧ n ≤ c ∧ ps.length = n ∧ (0 < n → ∃ b o, A = some ⟨b, o, none⟩ ∧ lo ≤ b ∧ b < hi ∧ ps = (List.range n).map (fun k => ⟨b, o + k, none⟩) ∧
    ∀ k, k < n → w.frozen? ⟨b, o + k, none⟩ = false ∧ ∃ x, w.cell? ⟨b, o + k, none⟩ = some (.int .i64 x))
theorem LvInts.marked {w w' : World} {lo hi lo' hi' n : Nat} {v : Value} {ps : List Addr} (h : LvInts w lo hi v n ps) (hm : Marked lo' hi' w w') : LvInts w' lo hi v n ps := by
  obtain ⟨A, c, rfl, hcc, hl, h⟩ := h
  refine ⟨A, c, rfl, hcc, hl, fun hn => ?_⟩
  obtain ⟨b, o, rfl, h1, h2, hp, hx⟩ := h hn
  refine ⟨b, o, rfl, h1, h2, hp, fun k hk => ?_⟩
  obtain ⟨hf, x, hc⟩ := hx k hk
  exact ⟨(hm.frozen _ (World.block_lt_of_cell? _ _ hc)).trans hf, hm.int hc⟩
theorem LvInts.mono {w : World} {lo hi lo' hi' n : Nat} {v : Value} {ps : List Addr} (h : LvInts w lo hi v n ps) (h1 : lo' ≤ lo) (h2 : hi ≤ hi') : LvInts w lo' hi' v n ps := by
  obtain ⟨A, c, rfl, hcc, hl, h⟩ := h
  refine ⟨A, c, rfl, hcc, hl, fun hn => ?_⟩
  obtain ⟨b, o, rfl, h3, h4, hp, hx⟩ := h hn
  exact ⟨b, o, rfl, by omega, by omega, hp, hx⟩
theorem LvInts.block {w : World} {lo hi n : Nat} {v : Value} {ps : List Addr} (h : LvInts w lo hi v n ps) {p : Addr} (hp : p ∈ ps) : lo ≤ p.block ∧ p.block < hi := by
  obtain ⟨A, c, rfl, _, hl, h⟩ := h
  have hn : 0 < n := by rw [← hl]; exact List.length_pos_of_mem hp
  obtain ⟨b, o, rfl, h1, h2, rfl, _⟩ := h hn
  simp only [List.mem_map, List.mem_range] at hp
  obtain ⟨k, _, rfl⟩ := hp
  exact ⟨h1, h2⟩
theorem LvInts.nodup {w : World} {lo hi n : Nat} {v : Value} {ps : List Addr} (h : LvInts w lo hi v n ps) : ps.Nodup := by
  obtain ⟨A, c, rfl, _, hl, h⟩ := h
  rcases Nat.eq_zero_or_pos n with h0 | hn
  · rw [h0] at hl
    rw [List.eq_nil_of_length_eq_zero hl]
    exact List.nodup_nil
  · obtain ⟨b, o, rfl, h1, h2, rfl, _⟩ := h hn
    rw [List.nodup_iff_pairwise_ne, List.pairwise_map]
    exact List.Pairwise.imp (fun {a b} hab e => by injection e with _ e2 _; omega) List.pairwise_lt_range
theorem OwnInts.leaves {w : World} {lo hi : Nat} {v : Value} {xs : List Int} (h : OwnInts w lo hi v xs) : ∃ ps, LvInts w lo hi v xs.length ps := by
  obtain ⟨A2, c2, e2, hcc, _⟩ := h.rd
  obtain ⟨A, c, rfl, hx⟩ := h.wr
  injection e2 with _ _ e2
  subst e2
  rcases Nat.eq_zero_or_pos xs.length with h0 | hn
  · exact ⟨[], A, c, rfl, hcc, by simp [h0], fun hn => absurd hn (by omega)⟩
  · obtain ⟨b, o, rfl, h1, h2, hx⟩ := hx hn
    exact ⟨(List.range xs.length).map (fun k => ⟨b, o + k, none⟩), _, c, rfl, hcc, by simp, fun _ => ⟨b, o, rfl, h1, h2, rfl, hx⟩⟩

set_option maxHeartbeats 400000 in
theorem lmarkIntS_any (v : Value) (n : Nat) (ps : List Addr) (k : Int) (lo hi : Nat) (w : World) (h : LvInts w lo hi v n ps) (hk0 : 0 ≤ k) (hk : k + n ≤ 4611686018427387904) :
    Calls Tryd.prog 50 #[v, .int .i64 k] w fun e w' => e = .returned (.int .i64 (k + n)) ∧ SeqAt lo hi k ps w w' := by
  have H := Lib.hid h
  have hnd := h.nodup
  obtain ⟨A, c, rfl, hcc, hl, h⟩ := h
  go_enter Tryd.func50, Tryd.ntmps50
  go_wp2_with (fail)
  go_loopw [1, 5] (fun m i wr => ∃ j : Nat, j ≤ n ∧ i = .int .i64 j ∧ m = .int .i64 (k + j) ∧ SeqAt lo hi k (ps.take j) w wr) (fun _ i _ => n - (intOf i).toNat)
  case atStart => exact ⟨0, Nat.zero_le _, rfl, by simp, by simpa using SeqAt.below (Below.refl _ _)⟩
  case round =>
    obtain ⟨j, hj, rfl, rfl, hs⟩ := hrel
    by_cases hlt : j < n
    · obtain ⟨b, o, rfl, h1, h2, hp, hx⟩ := h (by omega)
      obtain ⟨hf, x, hc⟩ := hx j hlt
      obtain ⟨y, hc1⟩ := hs.marked.int hc
      have hf1 : wr.frozen? ⟨b, o + j, none⟩ = false := (hs.marked.frozen _ (World.block_lt_of_cell? _ _ hc)).trans hf
      have hst := hs.append (SeqAt.store (lo := lo) (hi := hi) (p := ⟨b, o + j, none⟩) ⟨h1, h2⟩ hc1 (k + ((ps.take j).length : Int))) (fun q hq hq2 => by
        have hat : ps[j]'(by omega) = ⟨b, o + j, none⟩ := by simp [hp]
        simp only [List.mem_singleton] at hq2
        rw [hq2, ← hat] at hq
        rw [← List.take_append_drop j ps, List.drop_eq_getElem_cons (by omega)] at hnd
        rw [List.nodup_append] at hnd
        exact hnd.2.2 _ hq _ (List.mem_cons_self) rfl)
      have htk : ps.take j ++ [(⟨b, o + j, none⟩ : Addr)] = ps.take (j + 1) := by
        rw [take_snoc ps j (by omega)]
        simp [hp]
      rw [htk, show (ps.take j).length = j by rw [List.length_take]; omega] at hst
      have HS := Lib.hid hst
      clear hst hs hp hx htk hnd
      go_wp2_with (fail)
      go_roundw
      case rel => exact ⟨j + 1, by omega, by go_num, by go_num, HS.out⟩
      case measure => simp [intOf]; omega
    · have hkn : j = n := by omega
      have HK := Lib.hid (show k + (j : Int) = k + n by rw [hkn])
      have HS := Lib.hid (show SeqAt lo hi k ps w wr by rw [hkn, ← hl, List.take_length] at hs; exact hs)
      clear hkn hs h
      go_wp2_with (fail)
      go_ret
      exact ⟨ret_int HK.out, HS.out⟩

theorem LvInts.rd {w : World} {lo hi n : Nat} {v : Value} {ps : List Addr} {k : Int} (h : LvInts w lo hi v n ps) (hh : HoldsFrom w k ps) : RdInts w w.heap.size v (seqI k n) := by
  obtain ⟨A, c, rfl, hcc, hl, h⟩ := h
  refine ⟨A, c, by rw [seqI_length], by rw [seqI_length]; exact hcc, fun hn => ?_⟩
  rw [seqI_length] at hn
  obtain ⟨b, o, rfl, h1, h2, hp, hx⟩ := h hn
  have hat : ∀ j (hj : j < n), w.cell? ⟨b, o + j, none⟩ = some (.int .i64 (k + (j : Int))) := fun j hj => by
    have := hh j (by omega)
    simpa [hp] using this
  refine ⟨b, o, rfl, World.block_lt_of_cell? _ _ (hat 0 hn), fun j hj => ?_⟩
  rw [seqI_at]
  exact hat j (by rwa [seqI_length] at hj)

theorem lheldIntS_any (v : Value) (n : Nat) (ps : List Addr) (k : Int) (lo hi : Nat) (w : World) (h : LvInts w lo hi v n ps) (hh : HoldsFrom w k ps) (hk0 : 0 ≤ k) (hk : k + n ≤ 4611686018427387904) :
    Calls Tryd.prog 51 #[v, .int .i64 k] w fun e w' => e = .returned (.int .i64 (k + n)) ∧ w = w' :=
  heldIntS_any v n k w (h.rd hh) hk0 hk

end Go.Proofs.YtfjmnjemmfmoaaaDoor
/-
  The program's renaming: the walks of varTerm and term.
-/
namespace Go.Proofs.YtfjmnjemmfmoaaaDoor
open Go.RowKit

/-- Block g holds what the variables have become. -/
def NamesAt (w : World) (g : Nat) (s : Ren) : Prop := ∃ a b c d : Int, s.1 = [a, b, c, d] ∧ Blk w g 76 #[.int .i64 a, .int .i64 b, .int .i64 c, .int .i64 d, .int .i64 (s.2 : Int)]
theorem NamesAt.below {w w' : World} {g B : Nat} {s : Ren} (h : NamesAt w g s) (hb : Below B w w') (hg : g < B) : NamesAt w' g s := by
  obtain ⟨a, b, c, d, e, hx⟩ := h
  exact ⟨a, b, c, d, e, hx.below hb hg⟩
theorem NamesAt.lt {w : World} {g : Nat} {s : Ren} (h : NamesAt w g s) : g < w.heap.size := by
  obtain ⟨_, _, _, _, _, hx⟩ := h
  exact hx.lt
theorem NamesAt.far {w : World} {g : Nat} {s : Ren} (h : NamesAt w g s) {p : Addr} (hp : g ≠ p.block) (u : Value) : NamesAt (w.setCell p u) g s := by
  obtain ⟨a, b, c, d, e, hx⟩ := h
  exact ⟨a, b, c, d, e, hx.far hp u⟩
theorem NamesAt.len {w : World} {g : Nat} {s : Ren} (h : NamesAt w g s) : s.1.length = 4 := by
  obtain ⟨_, _, _, _, e, _⟩ := h
  simp [e]

theorem varTerm_big (n : Int) (h0 : 0 ≤ n) (h1 : n ≤ 4611686018427387904) (w : World) : Calls Tryd.prog 114 #[.int .i64 n] w fun e w' => e = .returned (.int .i64 (-1 - n)) ∧ w = w' := by
  go_enter Tryd.func114, Tryd.ntmps114
  go_wp2
  go_ret
  exact ⟨rfl, rfl⟩

set_option maxHeartbeats 1000000 in
set_option maxRecDepth 100000 in
theorem term_any (g : Nat) (s : Ren) (t : Int) (w : World) (h : NamesAt w g s) (hv : isVarB t = true) (hm : s.2 ≤ 4611686018427387900) :
    Calls Tryd.prog 99 #[.pointer (some ⟨g, 0, none⟩), .int .i64 (-1 - t)] w fun e w' => e = .returned (.int .i64 (look (renStep s t) t)) ∧ NamesAt w' g (renStep s t) ∧ Only g (g + 1) w w' := by
  obtain ⟨a, b, c, d, hs, hx⟩ := h
  obtain ⟨ts, m⟩ := s
  subst hs
  have h4 : t = -1 ∨ t = -2 ∨ t = -3 ∨ t = -4 := by simp [isVarB] at hv; omega
  have c0 : w.cell? ⟨g, 0, none⟩ = some (.int .i64 a) := hx.cell 0
  have c1 : w.cell? ⟨g, 1, none⟩ = some (.int .i64 b) := hx.cell 1
  have c2 : w.cell? ⟨g, 2, none⟩ = some (.int .i64 c) := hx.cell 2
  have c3 : w.cell? ⟨g, 3, none⟩ = some (.int .i64 d) := hx.cell 3
  have c4 : w.cell? ⟨g, 4, none⟩ = some (.int .i64 (m : Int)) := hx.cell 4
  have f0 := hx.frozen 0
  have f4 := hx.frozen 4
  simp only at hm
  have HX := Lib.hid hx
  rcases h4 with rfl | rfl | rfl | rfl
  · have fv := hx.frozen 0
    by_cases ha : a = 0
    · have ht : (a == 0) = true := by simp [ha]
      have HR := Lib.hid (show renStep ([a, b, c, d], m) (-1) = ([-1 - (m : Int), b, c, d], m + 1) by simp [renStep, isVarB, ha])
      rw [HR.out]
      clear ha hx
      go_enter Tryd.func99, Tryd.ntmps99
      go_wp2_with (fail)
      go_cut [18] (fun _ wx => ∃ n, wx = (w.setCell ⟨g, 0, none⟩ (.int .i64 (-1 - (m : Int)))).drewN n)
      case first =>
        go_region_held3 (fun W => W.cell? ⟨g, 4, none⟩ = some (.int .i64 (m : Int)))
          (first | exact c4 | exact (World.cell?_setCell_other _ _ _ _ (by simp)).trans c4)
          (first | (go_at_call 114; refine (varTerm_big (m : Int) (by omega) (by omega) _).mono ?_; rintro e w' ⟨rfl, rfl⟩))
        all_goals (go_wp2_with (fail); go_meet; exact ⟨1, rfl⟩)
      case rest =>
        have B2 : Blk wc g 76 #[.int .i64 (-1 - (m : Int)), .int .i64 b, .int .i64 c, .int .i64 d, .int .i64 (m : Int)] := by
          obtain ⟨n, rfl⟩ := hcut
          simpa using (HX.out.set_ 0 (.int .i64 (-1 - (m : Int)))).drewN n
        have O2 : Only g (g + 1) w wc := by
          obtain ⟨n, rfl⟩ := hcut
          exact ((Only.refl _ _ _).setCell (p := ⟨g, 0, none⟩) ⟨Nat.le_refl _, Nat.lt_succ_self _⟩ _).trans ⟨rfl, rfl, rfl, Nat.le_refl _, fun _ _ _ => rfl⟩
        clear hcut c0 c1 c2 c3 c4 f0 f4 fv
        have k0 : wc.cell? ⟨g, 0, none⟩ = some (.int .i64 (-1 - (m : Int))) := B2.cell 0
        have k4 : wc.cell? ⟨g, 4, none⟩ = some (.int .i64 (m : Int)) := B2.cell 4
        have j4 := B2.frozen 4
        go_wp2_with (fail)
        go_ret
        exact ⟨rfl, ⟨_, _, _, _, rfl, by simpa using B2.set_ 4 (.int .i64 ((m : Int) + 1))⟩, O2.setCell (p := ⟨g, 4, none⟩) ⟨Nat.le_refl _, Nat.lt_succ_self _⟩ _⟩
    · have ht : (a == 0) = false := by simp [ha]
      have HR := Lib.hid (show renStep ([a, b, c, d], m) (-1) = ([a, b, c, d], m) by simp [renStep, isVarB, ha])
      rw [HR.out]
      clear ha hx
      go_enter Tryd.func99, Tryd.ntmps99
      go_wp2_with (fail)
      go_ret
      exact ⟨rfl, ⟨a, b, c, d, rfl, HX.out⟩, Only.refl _ _ _⟩
  · have fv := hx.frozen 1
    by_cases ha : b = 0
    · have ht : (b == 0) = true := by simp [ha]
      have HR := Lib.hid (show renStep ([a, b, c, d], m) (-2) = ([a, -1 - (m : Int), c, d], m + 1) by simp [renStep, isVarB, ha])
      rw [HR.out]
      clear ha hx
      go_enter Tryd.func99, Tryd.ntmps99
      go_wp2_with (fail)
      go_cut [18] (fun _ wx => ∃ n, wx = (w.setCell ⟨g, 1, none⟩ (.int .i64 (-1 - (m : Int)))).drewN n)
      case first =>
        go_region_held3 (fun W => W.cell? ⟨g, 4, none⟩ = some (.int .i64 (m : Int)))
          (first | exact c4 | exact (World.cell?_setCell_other _ _ _ _ (by simp)).trans c4)
          (first | (go_at_call 114; refine (varTerm_big (m : Int) (by omega) (by omega) _).mono ?_; rintro e w' ⟨rfl, rfl⟩))
        all_goals (go_wp2_with (fail); go_meet; exact ⟨1, rfl⟩)
      case rest =>
        have B2 : Blk wc g 76 #[.int .i64 a, .int .i64 (-1 - (m : Int)), .int .i64 c, .int .i64 d, .int .i64 (m : Int)] := by
          obtain ⟨n, rfl⟩ := hcut
          simpa using (HX.out.set_ 1 (.int .i64 (-1 - (m : Int)))).drewN n
        have O2 : Only g (g + 1) w wc := by
          obtain ⟨n, rfl⟩ := hcut
          exact ((Only.refl _ _ _).setCell (p := ⟨g, 1, none⟩) ⟨Nat.le_refl _, Nat.lt_succ_self _⟩ _).trans ⟨rfl, rfl, rfl, Nat.le_refl _, fun _ _ _ => rfl⟩
        clear hcut c0 c1 c2 c3 c4 f0 f4 fv
        have k0 : wc.cell? ⟨g, 1, none⟩ = some (.int .i64 (-1 - (m : Int))) := B2.cell 1
        have k4 : wc.cell? ⟨g, 4, none⟩ = some (.int .i64 (m : Int)) := B2.cell 4
        have j4 := B2.frozen 4
        go_wp2_with (fail)
        go_ret
        exact ⟨rfl, ⟨_, _, _, _, rfl, by simpa using B2.set_ 4 (.int .i64 ((m : Int) + 1))⟩, O2.setCell (p := ⟨g, 4, none⟩) ⟨Nat.le_refl _, Nat.lt_succ_self _⟩ _⟩
    · have ht : (b == 0) = false := by simp [ha]
      have HR := Lib.hid (show renStep ([a, b, c, d], m) (-2) = ([a, b, c, d], m) by simp [renStep, isVarB, ha])
      rw [HR.out]
      clear ha hx
      go_enter Tryd.func99, Tryd.ntmps99
      go_wp2_with (fail)
      go_ret
      exact ⟨rfl, ⟨a, b, c, d, rfl, HX.out⟩, Only.refl _ _ _⟩
  · have fv := hx.frozen 2
    by_cases ha : c = 0
    · have ht : (c == 0) = true := by simp [ha]
      have HR := Lib.hid (show renStep ([a, b, c, d], m) (-3) = ([a, b, -1 - (m : Int), d], m + 1) by simp [renStep, isVarB, ha])
      rw [HR.out]
      clear ha hx
      go_enter Tryd.func99, Tryd.ntmps99
      go_wp2_with (fail)
      go_cut [18] (fun _ wx => ∃ n, wx = (w.setCell ⟨g, 2, none⟩ (.int .i64 (-1 - (m : Int)))).drewN n)
      case first =>
        go_region_held3 (fun W => W.cell? ⟨g, 4, none⟩ = some (.int .i64 (m : Int)))
          (first | exact c4 | exact (World.cell?_setCell_other _ _ _ _ (by simp)).trans c4)
          (first | (go_at_call 114; refine (varTerm_big (m : Int) (by omega) (by omega) _).mono ?_; rintro e w' ⟨rfl, rfl⟩))
        all_goals (go_wp2_with (fail); go_meet; exact ⟨1, rfl⟩)
      case rest =>
        have B2 : Blk wc g 76 #[.int .i64 a, .int .i64 b, .int .i64 (-1 - (m : Int)), .int .i64 d, .int .i64 (m : Int)] := by
          obtain ⟨n, rfl⟩ := hcut
          simpa using (HX.out.set_ 2 (.int .i64 (-1 - (m : Int)))).drewN n
        have O2 : Only g (g + 1) w wc := by
          obtain ⟨n, rfl⟩ := hcut
          exact ((Only.refl _ _ _).setCell (p := ⟨g, 2, none⟩) ⟨Nat.le_refl _, Nat.lt_succ_self _⟩ _).trans ⟨rfl, rfl, rfl, Nat.le_refl _, fun _ _ _ => rfl⟩
        clear hcut c0 c1 c2 c3 c4 f0 f4 fv
        have k0 : wc.cell? ⟨g, 2, none⟩ = some (.int .i64 (-1 - (m : Int))) := B2.cell 2
        have k4 : wc.cell? ⟨g, 4, none⟩ = some (.int .i64 (m : Int)) := B2.cell 4
        have j4 := B2.frozen 4
        go_wp2_with (fail)
        go_ret
        exact ⟨rfl, ⟨_, _, _, _, rfl, by simpa using B2.set_ 4 (.int .i64 ((m : Int) + 1))⟩, O2.setCell (p := ⟨g, 4, none⟩) ⟨Nat.le_refl _, Nat.lt_succ_self _⟩ _⟩
    · have ht : (c == 0) = false := by simp [ha]
      have HR := Lib.hid (show renStep ([a, b, c, d], m) (-3) = ([a, b, c, d], m) by simp [renStep, isVarB, ha])
      rw [HR.out]
      clear ha hx
      go_enter Tryd.func99, Tryd.ntmps99
      go_wp2_with (fail)
      go_ret
      exact ⟨rfl, ⟨a, b, c, d, rfl, HX.out⟩, Only.refl _ _ _⟩
  · have fv := hx.frozen 3
    by_cases ha : d = 0
    · have ht : (d == 0) = true := by simp [ha]
      have HR := Lib.hid (show renStep ([a, b, c, d], m) (-4) = ([a, b, c, -1 - (m : Int)], m + 1) by simp [renStep, isVarB, ha])
      rw [HR.out]
      clear ha hx
      go_enter Tryd.func99, Tryd.ntmps99
      go_wp2_with (fail)
      go_cut [18] (fun _ wx => ∃ n, wx = (w.setCell ⟨g, 3, none⟩ (.int .i64 (-1 - (m : Int)))).drewN n)
      case first =>
        go_region_held3 (fun W => W.cell? ⟨g, 4, none⟩ = some (.int .i64 (m : Int)))
          (first | exact c4 | exact (World.cell?_setCell_other _ _ _ _ (by simp)).trans c4)
          (first | (go_at_call 114; refine (varTerm_big (m : Int) (by omega) (by omega) _).mono ?_; rintro e w' ⟨rfl, rfl⟩))
        all_goals (go_wp2_with (fail); go_meet; exact ⟨1, rfl⟩)
      case rest =>
        have B2 : Blk wc g 76 #[.int .i64 a, .int .i64 b, .int .i64 c, .int .i64 (-1 - (m : Int)), .int .i64 (m : Int)] := by
          obtain ⟨n, rfl⟩ := hcut
          simpa using (HX.out.set_ 3 (.int .i64 (-1 - (m : Int)))).drewN n
        have O2 : Only g (g + 1) w wc := by
          obtain ⟨n, rfl⟩ := hcut
          exact ((Only.refl _ _ _).setCell (p := ⟨g, 3, none⟩) ⟨Nat.le_refl _, Nat.lt_succ_self _⟩ _).trans ⟨rfl, rfl, rfl, Nat.le_refl _, fun _ _ _ => rfl⟩
        clear hcut c0 c1 c2 c3 c4 f0 f4 fv
        have k0 : wc.cell? ⟨g, 3, none⟩ = some (.int .i64 (-1 - (m : Int))) := B2.cell 3
        have k4 : wc.cell? ⟨g, 4, none⟩ = some (.int .i64 (m : Int)) := B2.cell 4
        have j4 := B2.frozen 4
        go_wp2_with (fail)
        go_ret
        exact ⟨rfl, ⟨_, _, _, _, rfl, by simpa using B2.set_ 4 (.int .i64 ((m : Int) + 1))⟩, O2.setCell (p := ⟨g, 4, none⟩) ⟨Nat.le_refl _, Nat.lt_succ_self _⟩ _⟩
    · have ht : (d == 0) = false := by simp [ha]
      have HR := Lib.hid (show renStep ([a, b, c, d], m) (-4) = ([a, b, c, d], m) by simp [renStep, isVarB, ha])
      rw [HR.out]
      clear ha hx
      go_enter Tryd.func99, Tryd.ntmps99
      go_wp2_with (fail)
      go_ret
      exact ⟨rfl, ⟨a, b, c, d, rfl, HX.out⟩, Only.refl _ _ _⟩

end Go.Proofs.YtfjmnjemmfmoaaaDoor
/-
  The program's renaming: the walk of atom.
-/
namespace Go.Proofs.YtfjmnjemmfmoaaaDoor
open Go.RowKit

theorem rowIs_only {w w' : World} {lo hi g n : Nat} {t : TypeId} {f : Nat → Value} (h : w.rowIs g t n f) (ho : Only lo hi w w') (hd : g < lo ∨ hi ≤ g) : w'.rowIs g t n f := by
  obtain ⟨c, hb, r⟩ := h
  exact ⟨c, (ho.block g (Array.getElem?_eq_some_iff.1 hb).1 hd).trans hb, r⟩
theorem RdInts.only {w w' : World} {lo hi B : Nat} {v : Value} {xs : List Int} (h : RdInts w B v xs) (ho : Only lo hi w w') (hB : B ≤ lo) : RdInts w' B v xs := by
  obtain ⟨A, c, rfl, hc, h⟩ := h
  refine ⟨A, c, rfl, hc, fun hn => ?_⟩
  obtain ⟨b, o, rfl, hlt, hk⟩ := h hn
  refine ⟨b, o, rfl, hlt, fun k hkl => ?_⟩
  have hc := hk k hkl
  rw [← hc]
  exact World.cell?_of_block (by exact ho.block b (World.block_lt_of_cell? _ _ hc) (.inl (by omega)))

/-- All blocks but two are as they were. -/
structure But2 (g r : Nat) (w w' : World) : Prop where
  os : w'.os = w.os
  tape : w'.tape = w.tape
  output : w'.output = w.output
  size : w.heap.size ≤ w'.heap.size
  block : ∀ k, k < w.heap.size → k ≠ g → k ≠ r → w'.heap[k]? = w.heap[k]?
theorem But2.refl (g r : Nat) (w : World) : But2 g r w w := ⟨rfl, rfl, rfl, Nat.le_refl _, fun _ _ _ _ => rfl⟩
theorem But2.only {g r : Nat} {w w1 w' : World} (h : But2 g r w w1) (ho : Only g (g + 1) w1 w') : But2 g r w w' :=
  ⟨ho.os.trans h.os, ho.tape.trans h.tape, ho.output.trans h.output, Nat.le_trans h.size ho.size, fun k hk h1 h2 => (ho.block k (Nat.lt_of_lt_of_le hk h.size) (by omega)).trans (h.block k hk h1 h2)⟩
theorem But2.set {g r j : Nat} {w w1 : World} (h : But2 g r w w1) (u : Value) : But2 g r w (w1.setCell ⟨r, j, none⟩ u) :=
  ⟨h.os, h.tape, h.output, by simpa using h.size, fun k hk h1 h2 => (Below.heap_setCell _ _ _ _ h2).trans (h.block k hk h1 h2)⟩
theorem Blk.but {g r b : Nat} {w w' : World} {t : TypeId} {cs : Array Value} (h : Blk w b t cs) (hb : But2 g r w w') (h1 : b ≠ g) (h2 : b ≠ r) : Blk w' b t cs := (hb.block b h.lt h1 h2).trans h

theorem renOut_at {s : Ren} {xs : List Int} {k : Nat} (h : k < xs.length) : (renOut s xs).getD k 0 = look (renStep (renList s (xs.take k)) xs[k]) xs[k] := by
  rw [← renList_take s h]
  simp [renOut, h]
theorem renStep_no {s : Ren} {t : Int} (h : isVarB t = false) : renStep s t = s := by simp [renStep, h]
theorem look_no {s : Ren} {t : Int} (h : isVarB t = false) : look s t = t := by simp [look, h]
theorem renStep_count (s : Ren) (t : Int) : (renStep s t).2 ≤ s.2 + 1 := by
  unfold renStep
  split <;> simp
theorem renList_count : ∀ (xs : List Int) (s : Ren), (renList s xs).2 ≤ s.2 + xs.length
  | [], s => by simp [renList]
  | t :: xs, s => by
    have h1 := renList_count xs (renStep s t)
    have h2 := renStep_count s t
    show (renList (renStep s t) xs).2 ≤ _
    simp only [List.length_cons]
    omega

set_option maxHeartbeats 1000000 in
set_option maxRecDepth 100000 in
theorem renAtom_any (g : Nat) (s : Ren) (p : Int) (v : Value) (xs : List Int) (w : World) (hN : NamesAt w g s) (h : RdInts w g v xs) (hn : xs.length ≤ 1048576) (hm : s.2 ≤ 4611686014132420000) :
    Calls Tryd.prog 59 #[.pointer (some ⟨g, 0, none⟩), .agg #[.int .i64 p, v]] w fun e w' => ∃ A' c', e = .returned (.agg #[.int .i64 p, .slice A' xs.length c']) ∧
      OwnInts w' w.heap.size w'.heap.size (.slice A' xs.length c') (renOut s xs) ∧ NamesAt w' g (renList s xs) ∧ Only g (g + 1) w w' := by
  have hg := hN.lt
  have HN := Lib.hid hN
  have HV := Lib.hid h
  clear hN
  obtain ⟨A, c, rfl, hc, h⟩ := h
  have hmk := run_make_row' (P := Tryd.prog) 23 3 (.int .i64 0) 8 Tryd.underlying23 Tryd.infoInt rfl .i64 .i64 xs.length (by omega) (by omega)
  go_enter Tryd.func59, Tryd.ntmps59
  go_wp2_with (fail)
  obtain ⟨w3, hw3⟩ : ∃ w3, w3 = ((w.alloc (Obj.cells #[Value.int IntKind.i64 p, Value.slice A xs.length c] 25)).alloc (Obj.cells #[Value.int IntKind.i64 0, Value.slice none 0 0] 25)).alloc (Obj.cells (madeCells #[Value.int IntKind.i64 0] xs.length) 3) := ⟨_, rfl⟩
  have B3 : Below w.heap.size w w3 := by rw [hw3]; exact below3 _ _ _ _
  have s3 : w3.heap.size = w.heap.size + 3 := by rw [hw3]; simp
  have x3 : Blk w3 w.heap.size 25 #[.int .i64 p, .slice A xs.length c] := by rw [hw3]; exact ((Blk.new w _ _).alloc _).alloc _
  have y3 : Blk w3 (w.heap.size + 1) 25 #[.int .i64 0, .slice none 0 0] := by
    rw [hw3]
    have := (Blk.new (w.alloc (Obj.cells #[Value.int IntKind.i64 p, Value.slice A xs.length c] 25)) 25 #[.int .i64 0, .slice none 0 0]).alloc (Obj.cells (madeCells #[Value.int IntKind.i64 0] xs.length) 3)
    simpa using this
  have r3 : w3.rowIs (w.heap.size + 2) 3 xs.length (fun _ => .int .i64 0) := by
    rw [hw3]
    have := World.rowIs_made ((w.alloc (Obj.cells #[Value.int IntKind.i64 p, Value.slice A xs.length c] 25)).alloc (Obj.cells #[Value.int IntKind.i64 0, Value.slice none 0 0] 25)) (.int .i64 0) xs.length 3
    simpa using this
  have N3 := HN.out.below B3 hg
  rw [← hw3]
  clear hw3
  go_loopw [6, 7, 15] (fun _ _ i wr => ∃ k : Nat, k ≤ xs.length ∧ i = .int .i64 k ∧ wr.rowIs (w.heap.size + 2) 3 xs.length (fun j => if j < k then .int .i64 ((renOut s xs).getD j 0) else .int .i64 0) ∧ NamesAt wr g (renList s (xs.take k)) ∧
      But2 g (w.heap.size + 2) w3 wr) (fun _ _ i _ => xs.length - (intOf i).toNat)
  case atStart => exact ⟨0, Nat.zero_le _, rfl, r3.congr (fun j _ => by simp), N3, But2.refl _ _ _⟩
  case round =>
    obtain ⟨k, hk, rfl, hrow, hnm, hbt⟩ := hrel
    have xr := x3.but hbt (by omega) (by omega)
    have yr := y3.but hbt (by omega) (by omega)
    have q0 : wr.cell? ⟨w.heap.size, 0, none⟩ = some (.int .i64 p) := xr.cell 0
    have q1 : wr.cell? ⟨w.heap.size, 1, none⟩ = some (.slice A xs.length c) := xr.cell 1
    by_cases hlt : k < xs.length
    · obtain ⟨b, o, rfl, hbB, hx⟩ := h (by omega)
      have hbk := hx k hlt
      have hbw := World.block_lt_of_cell? _ _ hbk
      have hck : wr.cell? ⟨b, o + k, none⟩ = some (.int .i64 xs[k]) := by
        rw [← hbk]
        exact World.cell?_of_block ((hbt.block b (by rw [s3]; simp at hbw; omega) (by omega) (by simp at hbw; omega)).trans (B3.block b hbw))
      have hc2 := hrow.cell hlt
      have hf2 := hrow.frozen k
      have hcnt := renList_count (xs.take k) s
      rw [List.length_take] at hcnt
      have HR := Lib.hid (And.intro hrow (And.intro hnm hbt))
      clear hx hrow hnm hbt h hbk hbw
      by_cases he : isVarB xs[k] = true
      · have HK := Lib.hid (isVar_is he)
        have hv4 := Lib.hid (show -4 ≤ xs[k] ∧ xs[k] ≤ -1 by simpa [isVarB] using he)
        have HE := Lib.hid he
        clear he
        go_wp2_with (first | (go_at_call 98; refine (HK.out _).mono ?_; rintro e w' ⟨rfl, rfl⟩) | (go_at_call 100; refine (varNumber_any _ hv4.out.1 hv4.out.2 _).mono ?_; rintro e w' ⟨rfl, rfl⟩))
        refine (term_any g _ xs[k] _ (HR.out.2.1.far (p := ⟨w.heap.size + 2, k, none⟩) (by simp; omega) _) HE.out (by omega)).mono ?_
        rintro e w4 ⟨rfl, hn4, ho4⟩
        have hr4 := rowIs_only (HR.out.1.set k (.int .i64 xs[k])) ho4 (.inr (by omega))
        have hb4 := (HR.out.2.2.set (j := k) (.int .i64 xs[k])).only ho4
        have hc4 := hr4.cell hlt
        have hf4 := hr4.frozen k
        have HR4 := Lib.hid (And.intro hr4 (And.intro hn4 hb4))
        have HO := Lib.hid (renOut_at (s := s) hlt)
        clear hr4 hn4 hb4 ho4 hc2 hf2
        go_wp2_with (fail)
        go_roundw
        case rel =>
          refine ⟨k + 1, by omega, by go_num, (HR4.out.1.set k _).congr (fun j hj => ?_), ?_, HR4.out.2.2.set _⟩
          · by_cases e : j = k
            · subst e
              rw [if_pos rfl, if_pos (by omega), HO.out]
            · rw [if_neg e]
              by_cases h2 : j < k
              · rw [if_neg e, if_pos h2, if_pos (by omega)]
              · rw [if_neg e, if_neg h2, if_neg (by omega)]
          · rw [renList_take s hlt]
            exact HR4.out.2.1.far (by simp; omega) _
        case measure => simp [intOf]; omega
      · have he' : isVarB xs[k] = false := by simpa using he
        have HK := Lib.hid (isVar_is he')
        have HO := Lib.hid (show (renOut s xs).getD k 0 = xs[k] by rw [renOut_at hlt, look_no he'])
        have HT := Lib.hid (show renList s (xs.take (k + 1)) = renList s (xs.take k) by rw [renList_take s hlt, renStep_no he'])
        clear he he'
        go_wp2_with (go_at_call 98; refine (HK.out _).mono ?_; rintro e w' ⟨rfl, rfl⟩)
        go_roundw
        case rel =>
          refine ⟨k + 1, by omega, by go_num, (HR.out.1.set k _).congr (fun j hj => ?_), ?_, HR.out.2.2.set _⟩
          · by_cases e : j = k
            · subst e
              rw [if_pos rfl, if_pos (by omega), HO.out]
            · rw [if_neg e]
              by_cases h2 : j < k
              · rw [if_pos h2, if_pos (by omega)]
              · rw [if_neg h2, if_neg (by omega)]
          · rw [HT.out]
            exact HR.out.2.1.far (by simp; omega) _
        case measure => simp [intOf]; omega
    · have hkn : k = xs.length := by omega
      have HO : OwnInts wr (w.heap.size + 2) wr.heap.size (.slice (some ⟨w.heap.size + 2, 0, none⟩) (renOut s xs).length (renOut s xs).length) (renOut s xs) :=
        OwnInts.of_rowIs (by rw [renOut_length]; exact hrow.congr (fun j hj => by rw [if_pos (by omega)])) (Nat.le_refl _) hrow.lt (by rw [renOut_length]; unfold maxLen; omega)
      rw [renOut_length] at HO
      have HN2 := Lib.hid (show NamesAt wr g (renList s xs) by rw [hkn, List.take_length] at hnm; exact hnm)
      have HH := Lib.hid (And.intro HO hbt)
      have k0 : wr.cell? ⟨w.heap.size + 1, 0, none⟩ = some (.int .i64 0) := yr.cell 0
      have k1 : wr.cell? ⟨w.heap.size + 1, 1, none⟩ = some (.slice none 0 0) := yr.cell 1
      have j0 := yr.frozen 0
      have j1 := yr.frozen 1
      clear HO hkn hrow hnm hbt
      go_wp2_with (fail)
      have yb := (yr.set_ 0 (.int .i64 p)).set_ 1 (.slice (some ⟨w.heap.size + 2, 0, none⟩) xs.length xs.length)
      have d0 : ((wr.setCell ⟨w.heap.size + 1, 0, none⟩ (.int .i64 p)).setCell ⟨w.heap.size + 1, 1, none⟩ (.slice (some ⟨w.heap.size + 2, 0, none⟩) xs.length xs.length)).cell? ⟨w.heap.size + 1, 0, none⟩ = some (.int .i64 p) := by
        simpa using yb.cell 0
      have d1 : ((wr.setCell ⟨w.heap.size + 1, 0, none⟩ (.int .i64 p)).setCell ⟨w.heap.size + 1, 1, none⟩ (.slice (some ⟨w.heap.size + 2, 0, none⟩) xs.length xs.length)).cell? ⟨w.heap.size + 1, 1, none⟩ = some (.slice (some ⟨w.heap.size + 2, 0, none⟩) xs.length xs.length) := by
        simpa using yb.cell 1
      refine bodyPost_ret (v := .agg #[.int .i64 p, .slice (some ⟨w.heap.size + 2, 0, none⟩) xs.length xs.length]) (by simp [results, Tryd.results59, go_sem, d0, d1]) rfl ⟨_, _, rfl, ?_, ?_, ?_⟩
      · exact (((HH.out.1.set (p := ⟨w.heap.size + 1, 0, none⟩) (.inl (Nat.lt_succ_self _)) _).set (p := ⟨w.heap.size + 1, 1, none⟩) (.inl (Nat.lt_succ_self _)) _)).mono (by omega) (by simp)
      · exact (HN2.out.far (p := ⟨w.heap.size + 1, 0, none⟩) (by simp; omega) _).far (p := ⟨w.heap.size + 1, 1, none⟩) (by simp; omega) _
      · refine ⟨HH.out.2.os.trans B3.os, HH.out.2.tape.trans B3.tape, HH.out.2.output.trans B3.output, ?_, fun j hj hd => ?_⟩
        · have := HH.out.2.size
          simp
          omega
        · rw [Below.heap_setCell _ _ _ _ (by simp; omega), Below.heap_setCell _ _ _ _ (by simp; omega)]
          exact (HH.out.2.block j (by omega) (by omega) (by omega)).trans (B3.block j hj)

end Go.Proofs.YtfjmnjemmfmoaaaDoor
/-
  Marks on lists of literals and on rules that are results, read again: markLitS, heldLitS, markAtom, heldAtom, markRule, heldRule.
-/
namespace Go.Proofs.YtfjmnjemmfmoaaaDoor
open Go.RowKit

/-- The leaves of literal k of a row at offset o of block b. -/
def litEl (b o : Nat) (qs : Nat → List Addr) (k : Nat) : List Addr := ⟨b, o + k * 3, none⟩ :: ⟨b, o + k * 3 + 1, none⟩ :: qs k
/-- A slice of literals in blocks from lo on and below hi that may be written; ps are its leaves. -/
def LvLits (w : World) (lo hi : Nat) (v : Value) (ls : List LLit) (ps : List Addr) : Prop :=
  ∃ A c, v = .slice A ls.length c ∧ ls.length ≤ c ∧ (ls.length = 0 → ps = []) ∧ (0 < ls.length → ∃ b o qs, A = some ⟨b, o, none⟩ ∧ lo ≤ b ∧ b < hi ∧ ps = preL (litEl b o qs) ls.length ∧
    ∀ k (h : k < ls.length), (w.frozen? ⟨b, o + k * 3, none⟩ = false ∧ w.frozen? ⟨b, o + k * 3 + 1, none⟩ = false) ∧ ∃ x y u2,
      w.cell? ⟨b, o + k * 3, none⟩ = some (.int .i64 x) ∧ w.cell? ⟨b, o + k * 3 + 1, none⟩ = some (.int .i64 y) ∧ w.cell? ⟨b, o + k * 3 + 2, none⟩ = some u2 ∧ LvInts w lo hi u2 ls[k].2.2.length (qs k))
theorem LvLits.marked {w w' : World} {lo hi lo' hi' : Nat} {v : Value} {ls : List LLit} {ps : List Addr} (h : LvLits w lo hi v ls ps) (hm : Marked lo' hi' w w') : LvLits w' lo hi v ls ps := by
  obtain ⟨A, c, rfl, hc, h0, h⟩ := h
  refine ⟨A, c, rfl, hc, h0, fun hn => ?_⟩
  obtain ⟨b, o, qs, rfl, h1, h2, hp, hx⟩ := h hn
  refine ⟨b, o, qs, rfl, h1, h2, hp, fun k hk => ?_⟩
  obtain ⟨⟨f0, f1⟩, x, y, u2, c0, c1, c2, hI⟩ := hx k hk
  obtain ⟨x', d0⟩ := hm.int c0
  obtain ⟨y', d1⟩ := hm.int c1
  have hI' := hI.marked hm
  obtain ⟨A2, c2', rfl, _⟩ := hI
  exact ⟨⟨(hm.frozen _ (World.block_lt_of_cell? _ _ c0)).trans f0, (hm.frozen _ (World.block_lt_of_cell? _ _ c1)).trans f1⟩, _, _, _, d0, d1, hm.slice c2, hI'⟩
theorem litEl_len {w : World} {lo hi n : Nat} {u : Value} {b o : Nat} {qs : Nat → List Addr} {k : Nat} (h : LvInts w lo hi u n (qs k)) : (litEl b o qs k).length = 2 + n := by
  obtain ⟨_, _, _, _, hl, _⟩ := h
  simp [litEl, hl]
  omega

set_option maxHeartbeats 1000000 in
set_option maxRecDepth 100000 in
theorem lmarkLitS_any (v : Value) (ls : List LLit) (ps : List Addr) (k : Int) (lo hi : Nat) (w : World) (h : LvLits w lo hi v ls ps) (hnd : ps.Nodup) (hk0 : 0 ≤ k) (hk : k ≤ 4294967296) (hn : ps.length ≤ 1073741824) :
    Calls Tryd.prog 110 #[v, .int .i64 k] w fun e w' => e = .returned (.int .i64 (k + ps.length)) ∧ SeqAt lo hi k ps w w' := by
  have H := Lib.hid h
  have HND := Lib.hid hnd
  clear hnd
  obtain ⟨A, c, rfl, hc, h0, h⟩ := h
  have hcap : ls.length ≤ 9223372036854775807 := by
    rcases Nat.eq_zero_or_pos ls.length with e | hp
    · omega
    · obtain ⟨b, o, qs, rfl, h1, h2, rfl, hx⟩ := h hp
      have : ∀ j, j ≤ ls.length → j ≤ (preL (litEl b o qs) j).length := by
        intro j
        induction j with
        | zero => intro _; omega
        | succ j ih =>
          intro hj
          have := ih (by omega)
          rw [preL_succ, List.length_append]
          simp [litEl]
          omega
      have := this ls.length (Nat.le_refl _)
      omega
  rcases Nat.eq_zero_or_pos ls.length with hz | hp
  · have hps := h0 hz
    subst hps
    have HZ := Lib.hid hz
    have hz' : ¬ (0 : Int) < (ls.length : Int) := by omega
    clear hz h h0
    go_enter Tryd.func110, Tryd.ntmps110
    go_wp2_with (fail)
    go_loopw [1, 5] (fun m i wr => i = .int .i64 0 ∧ m = .int .i64 k ∧ wr = w) (fun _ i _ => 0)
    case atStart => exact ⟨rfl, rfl, rfl⟩
    case round =>
      obtain ⟨rfl, rfl, rfl⟩ := hrel
      go_wp2_with (fail)
      go_ret
      exact ⟨ret_int (by simp), SeqAt.below (Below.refl _ _)⟩
  · obtain ⟨b, o, qs, rfl, h1, h2, rfl, hx⟩ := h hp
    have HX := Lib.hid hx
    clear hx h
    go_enter Tryd.func110, Tryd.ntmps110
    go_wp2_with (fail)
    go_loopw [1, 5] (fun m i wr => ∃ (j : Nat) (q : Int), j ≤ ls.length ∧ i = .int .i64 j ∧ m = .int .i64 q ∧ q = k + ((preL (litEl b o qs) j).length : Int) ∧ SeqAt lo hi k (preL (litEl b o qs) j) w wr) (fun _ i _ => ls.length - (intOf i).toNat)
    case atStart => exact ⟨0, k, Nat.zero_le _, rfl, rfl, by simp [preL_zero], SeqAt.below (Below.refl _ _)⟩
    case round =>
      obtain ⟨j, q, hj, rfl, rfl, hq, hs⟩ := hrel
      by_cases hlt : j < ls.length
      · obtain ⟨⟨f0, f1⟩, x, y, u2, c0, c1, c2, hI⟩ := HX.out j hlt
        have hlen := litEl_len (b := b) (o := o) hI
        have hpl : (preL (litEl b o qs) (j + 1)).length ≤ (preL (litEl b o qs) ls.length).length := preL_length_le hlt
        rw [preL_succ, List.length_append, hlen] at hpl
        obtain ⟨x', d0⟩ := hs.marked.int c0
        obtain ⟨y', d1⟩ := hs.marked.int c1
        have hI2 := hI.marked hs.marked
        have g0 : wr.frozen? ⟨b, o + j * 3, none⟩ = false := (hs.marked.frozen _ (World.block_lt_of_cell? _ _ c0)).trans f0
        have g1 : wr.frozen? ⟨b, o + j * 3 + 1, none⟩ = false := (hs.marked.frozen _ (World.block_lt_of_cell? _ _ c1)).trans f1
        obtain ⟨A3, c3, rfl, hcc3, hl3, _⟩ := hI
        have d2 := hs.marked.slice c2
        have m0 := SeqAt.store (lo := lo) (hi := hi) (p := ⟨b, o + j * 3, none⟩) ⟨h1, h2⟩ d0 q
        obtain ⟨y2, e1⟩ := m0.marked.int d1
        have e2 := m0.marked.slice d2
        have k1 : (wr.setCell ⟨b, o + j * 3, none⟩ (.int .i64 q)).frozen? ⟨b, o + j * 3 + 1, none⟩ = false := (m0.marked.frozen _ (World.block_lt_of_cell? _ _ d1)).trans g1
        have m1 := SeqAt.store (lo := lo) (hi := hi) (p := ⟨b, o + j * 3 + 1, none⟩) ⟨h1, h2⟩ e1 (q + 1)
        have e3 := m1.marked.slice e2
        have hI3 := (hI2.marked m0.marked).marked m1.marked
        have HI := Lib.hid hI3
        have HS := Lib.hid (And.intro hs (And.intro m0 (And.intro m1 hq)))
        have hq0 : 0 ≤ q := by omega
        have hq1 : q ≤ 8589934592 := by omega
        have hl3' : ls[j].2.2.length ≤ 1073741824 := by omega
        have HLE := Lib.hid hlen
        clear hI2 hI3 m0 m1 hs hq hlen hpl e2 d2 c2 c0 c1 hl3
        go_wp2_with (fail)
        refine (lmarkIntS_any _ _ (qs j) (q + 1 + 1) lo hi _ HI.out (by omega) (by omega)).mono ?_
        rintro e w3 ⟨rfl, hm3⟩
        obtain ⟨hs, m0, m1, hq⟩ := HS.out
        have hnd := preL_nodup HND.out hlt
        have hst : SeqAt lo hi k (preL (litEl b o qs) (j + 1)) w w3 := by
          rw [preL_succ]
          refine hs.append ?_ (fun p hp hp2 => (List.nodup_append.1 hnd).2.2 p hp p hp2 rfl)
          rw [← hq]
          have hn2 := (List.nodup_append.1 hnd).2.1
          have hm01 := m0.append (qs := [⟨b, o + j * 3 + 1, none⟩]) (by simpa using m1) (by simp [litEl] at hn2 ⊢)
          refine hm01.append (qs := qs j) ?_ (fun p hp hp2 => ?_)
          · simpa [Int.add_assoc] using hm3
          · simp only [litEl, List.nodup_cons, List.mem_cons, not_or] at hn2
            simp only [List.mem_append, List.mem_singleton] at hp
            rcases hp with rfl | rfl
            · exact hn2.1.2 hp2
            · exact hn2.2.1 hp2
        have HQ := Lib.hid (And.intro (show q + 1 + 1 + (ls[j].2.2.length : Int) = k + ((preL (litEl b o qs) (j + 1)).length : Int) by
          rw [preL_succ, List.length_append, HLE.out, hq]
          omega) hst)
        clear hs m0 m1 hq hnd hst hm3
        go_wp2_with (fail)
        go_roundw
        case rel => exact ⟨j + 1, _, by omega, by go_num, rfl, HQ.out.1, HQ.out.2⟩
        case measure => simp [intOf]; omega
      · have hkn : j = ls.length := by omega
        have HK := Lib.hid (show q = k + ((preL (litEl b o qs) ls.length).length : Int) by rw [hq, hkn])
        have HS := Lib.hid (show SeqAt lo hi k (preL (litEl b o qs) ls.length) w wr by rw [hkn] at hs; exact hs)
        clear hkn hs hq
        go_wp2_with (fail)
        go_ret
        exact ⟨ret_int HK.out, HS.out⟩

theorem preL_lits_le (b o : Nat) (qs : Nat → List Addr) : ∀ j, j ≤ (preL (litEl b o qs) j).length
  | 0 => by simp [preL_zero]
  | j + 1 => by
    have := preL_lits_le b o qs j
    rw [preL_succ, List.length_append]
    simp [litEl]
    omega

/-- A rule of blocks from lo on and below hi that may be written; ps are its leaves. -/
def LvRule (w : World) (lo hi : Nat) (v : Value) (r : LRule) (ps : List Addr) : Prop :=
  ∃ p a b qs rs, v = .agg #[.int .i64 p, a, b] ∧ ps = qs ++ rs ∧ LvInts w lo hi a r.1.2.length qs ∧ LvLits w lo hi b r.2 rs
theorem LvRule.marked {w w' : World} {lo hi lo' hi' : Nat} {v : Value} {r : LRule} {ps : List Addr} (h : LvRule w lo hi v r ps) (hm : Marked lo' hi' w w') : LvRule w' lo hi v r ps := by
  obtain ⟨p, a, b, qs, rs, rfl, rfl, h1, h2⟩ := h
  exact ⟨p, a, b, qs, rs, rfl, rfl, h1.marked hm, h2.marked hm⟩

end Go.Proofs.YtfjmnjemmfmoaaaDoor
/-
  A row that make laid and a loop fills, element by element, each element's own memory behind the one's ahead of it: so no two share a cell. The words; no walk.
-/
namespace Go.Proofs.YtfjmnjemmfmoaaaDoor
open Go.RowKit

section
variable {α : Type}
/-- What holds at the loop that fills block g with xs: k elements are there; element j's own memory lies in blocks from f j on and below f (j + 1). -/
structure Fill (t : TypeId) (z0 z1 z2 : Value) (O : World → Nat → Nat → Value → Value → Value → α → Prop) (g : Nat) (wr : World) (xs : List α) (k : Nat) (f : Nat → Nat) : Prop where
  row : ∃ cur : Array Value, Blk wr g t cur ∧ (∀ j, j < k → ∀ hx : j < xs.length, ∃ u0 u1 u2, cur[j * 3]? = some u0 ∧ cur[j * 3 + 1]? = some u1 ∧ cur[j * 3 + 2]? = some u2 ∧ O wr (f j) (f (j + 1)) u0 u1 u2 xs[j]) ∧
    (∀ j, k ≤ j → j < xs.length → cur[j * 3]? = some z0 ∧ cur[j * 3 + 1]? = some z1 ∧ cur[j * 3 + 2]? = some z2)
  mono : ∀ j, j < k → f j ≤ f (j + 1)
  lo : g < f 0
  hi : f k ≤ wr.heap.size

variable {t : TypeId} {z0 z1 z2 : Value} {O : World → Nat → Nat → Value → Value → Value → α → Prop} {g : Nat} {w wr w4 : World} {xs : List α} {k : Nat} {f : Nat → Nat}
theorem Fill.start (h : Blk w g t (madeCells #[z0, z1, z2] (xs.length * 3))) (m : Nat) (hm : g < m) (hw : m ≤ w.heap.size) : Fill t z0 z1 z2 O g w xs 0 (fun _ => m) :=
  ⟨⟨_, h, fun j hj => absurd hj (by omega), fun j _ hj => by
    have e0 : j * 3 % 3 = 0 := by omega
    have e1 : (j * 3 + 1) % 3 = 1 := by omega
    have e2 : (j * 3 + 2) % 3 = 2 := by omega
    have l0 : j * 3 < xs.length * 3 := by omega
    have l1 : j * 3 + 1 < xs.length * 3 := by omega
    have l2 : j * 3 + 2 < xs.length * 3 := by omega
    refine ⟨?_, ?_, ?_⟩ <;> simp [madeCells, *]⟩, fun j hj => absurd hj (by omega), hm, hw⟩
theorem Fill.le (h : Fill t z0 z1 z2 O g wr xs k f) : ∀ {i j : Nat}, i ≤ j → j ≤ k → f i ≤ f j := by
  intro i j hij
  induction j with
  | zero => intro _; rw [show i = 0 by omega]; exact Nat.le_refl _
  | succ j ih =>
    intro hj
    by_cases e : i = j + 1
    · rw [e]; exact Nat.le_refl _
    · exact Nat.le_trans (ih (by omega) (by omega)) (h.mono j (by omega))
theorem Fill.room (h : Fill t z0 z1 z2 O g wr xs k f) (hlt : k < xs.length) (hb : w4.heap[g]? = wr.heap[g]?) :
    w4.cell? ⟨g, k * 3, none⟩ = some z0 ∧ w4.cell? ⟨g, k * 3 + 1, none⟩ = some z1 ∧ w4.cell? ⟨g, k * 3 + 2, none⟩ = some z2 ∧
    w4.frozen? ⟨g, k * 3, none⟩ = false ∧ w4.frozen? ⟨g, k * 3 + 1, none⟩ = false ∧ w4.frozen? ⟨g, k * 3 + 2, none⟩ = false := by
  obtain ⟨cur, hcur, _, hz⟩ := h.row
  have h4 : Blk w4 g t cur := hb.trans hcur
  obtain ⟨c0, c1, c2⟩ := hz k (Nat.le_refl _) hlt
  exact ⟨(h4.cell _).trans c0, (h4.cell _).trans c1, (h4.cell _).trans c2, h4.frozen _, h4.frozen _, h4.frozen _⟩
theorem Fill.kept (keep : ∀ {w w' : World} {lo hi : Nat} {u0 u1 u2 : Value} {x : α}, O w lo hi u0 u1 u2 x → (∀ g, lo ≤ g → g < hi → w'.heap[g]? = w.heap[g]?) → O w' lo hi u0 u1 u2 x)
    (h : Fill t z0 z1 z2 O g wr xs k f) (hb : w4.heap[g]? = wr.heap[g]?) (hk : ∀ b, f 0 ≤ b → b < f k → w4.heap[b]? = wr.heap[b]?) (hsz : wr.heap.size ≤ w4.heap.size) : Fill t z0 z1 z2 O g w4 xs k f := by
  obtain ⟨cur, hcur, hdone, hz⟩ := h.row
  refine ⟨⟨cur, hb.trans hcur, fun j hj hx => ?_, hz⟩, h.mono, h.lo, Nat.le_trans h.hi hsz⟩
  obtain ⟨v0, v1, v2, c0, c1, c2, hO⟩ := hdone j hj hx
  have g1 := h.le (Nat.zero_le j) (by omega)
  have g2 := h.le (show j + 1 ≤ k by omega) (Nat.le_refl _)
  exact ⟨v0, v1, v2, c0, c1, c2, keep hO fun b h1 h2 => hk b (by omega) (by omega)⟩
/-- One more element. -/
theorem Fill.step (keep : ∀ {w w' : World} {lo hi : Nat} {u0 u1 u2 : Value} {x : α}, O w lo hi u0 u1 u2 x → (∀ g, lo ≤ g → g < hi → w'.heap[g]? = w.heap[g]?) → O w' lo hi u0 u1 u2 x)
    (omono : ∀ {w : World} {lo hi lo' hi' : Nat} {u0 u1 u2 : Value} {x : α}, O w lo hi u0 u1 u2 x → lo' ≤ lo → hi ≤ hi' → O w lo' hi' u0 u1 u2 x)
    (h : Fill t z0 z1 z2 O g wr xs k f) (hlt : k < xs.length) (hb : w4.heap[g]? = wr.heap[g]?) (hk : ∀ b, f 0 ≤ b → b < f k → w4.heap[b]? = wr.heap[b]?) (hsz : wr.heap.size ≤ w4.heap.size)
    {u0 u1 u2 : Value} (ha : O w4 wr.heap.size w4.heap.size u0 u1 u2 xs[k]) :
    Fill t z0 z1 z2 O g (((w4.setCell ⟨g, k * 3, none⟩ u0).setCell ⟨g, k * 3 + 1, none⟩ u1).setCell ⟨g, k * 3 + 2, none⟩ u2) xs (k + 1) (fun j => if j ≤ k then f j else w4.heap.size) := by
  have hh := h.hi
  have hlo := h.lo
  have hf : ∀ b, b ≠ g → (((w4.setCell ⟨g, k * 3, none⟩ u0).setCell ⟨g, k * 3 + 1, none⟩ u1).setCell ⟨g, k * 3 + 2, none⟩ u2).heap[b]? = w4.heap[b]? := fun b hne => by
    rw [Below.heap_setCell _ _ _ _ hne, Below.heap_setCell _ _ _ _ hne, Below.heap_setCell _ _ _ _ hne]
  obtain ⟨cur, hcur, hdone, hz⟩ := h.row
  have h4 : Blk w4 g t cur := hb.trans hcur
  have hlast : cur.size > k * 3 + 2 := by
    have := (hz k (Nat.le_refl _) hlt).2.2
    exact (Array.getElem?_eq_some_iff.1 this).1
  refine ⟨⟨_, ((h4.set_ (k * 3) u0).set_ (k * 3 + 1) u1).set_ (k * 3 + 2) u2, fun j hj hx => ?_, fun j hj hx => ?_⟩, fun j hj => ?_, by simp; omega, by rw [if_neg (by omega)]; simp⟩
  · by_cases e : j = k
    · subst e
      refine ⟨u0, u1, u2, ?_, ?_, ?_, ?_⟩
      · simp [Array.getElem?_setIfInBounds]; omega
      · simp [Array.getElem?_setIfInBounds]; omega
      · simp [Array.getElem?_setIfInBounds]; omega
      · rw [if_pos (Nat.le_refl _), if_neg (by omega)]
        exact omono (keep ha fun b h1 _ => hf b (by have := h.le (Nat.zero_le j) (Nat.le_refl _); omega)) hh (Nat.le_refl _)
    · obtain ⟨v0, v1, v2, c0, c1, c2, hO⟩ := hdone j (by omega) hx
      refine ⟨v0, v1, v2, ?_, ?_, ?_, ?_⟩
      · rw [← c0]; simp only [Array.getElem?_setIfInBounds, Array.size_setIfInBounds]; rw [if_neg (by omega), if_neg (by omega), if_neg (by omega)]
      · rw [← c1]; simp only [Array.getElem?_setIfInBounds, Array.size_setIfInBounds]; rw [if_neg (by omega), if_neg (by omega), if_neg (by omega)]
      · rw [← c2]; simp only [Array.getElem?_setIfInBounds, Array.size_setIfInBounds]; rw [if_neg (by omega), if_neg (by omega), if_neg (by omega)]
      · rw [if_pos (by omega), if_pos (by omega)]
        refine keep hO fun b h1 h2 => ?_
        have g1 := h.le (Nat.zero_le j) (by omega)
        have g2 := h.le (show j + 1 ≤ k by omega) (Nat.le_refl _)
        rw [hf b (by omega)]
        exact hk b (by omega) (by omega)
  · obtain ⟨c0, c1, c2⟩ := hz j (by omega) hx
    refine ⟨?_, ?_, ?_⟩
    · rw [← c0]; simp only [Array.getElem?_setIfInBounds, Array.size_setIfInBounds]; rw [if_neg (by omega), if_neg (by omega), if_neg (by omega)]
    · rw [← c1]; simp only [Array.getElem?_setIfInBounds, Array.size_setIfInBounds]; rw [if_neg (by omega), if_neg (by omega), if_neg (by omega)]
    · rw [← c2]; simp only [Array.getElem?_setIfInBounds, Array.size_setIfInBounds]; rw [if_neg (by omega), if_neg (by omega), if_neg (by omega)]
  · by_cases e : j = k
    · subst e
      rw [if_pos (Nat.le_refl _), if_neg (by omega)]
      omega
    · rw [if_pos (by omega), if_pos (by omega)]
      exact h.mono j (by omega)
end

/-- A filled row of literals reads so, and its leaves are once each. -/
theorem Fill.lits {z0 z1 z2 : Value} {g : Nat} {wr : World} {ls : List LLit} {f : Nat → Nat} {c lo hi : Nat} (h : Fill 73 z0 z1 z2 OLit g wr ls ls.length f) (hc : ls.length ≤ c) (hlo : lo ≤ g) (hhi : wr.heap.size ≤ hi) :
    OwnLits wr lo hi (.slice (some ⟨g, 0, none⟩) ls.length c) ls ∧ ∃ ps, LvLits wr lo hi (.slice (some ⟨g, 0, none⟩) ls.length c) ls ps ∧ ps.Nodup ∧ ∀ p ∈ ps, p.block = g ∨ (f 0 ≤ p.block ∧ p.block < wr.heap.size) := by
  obtain ⟨cur, hcur, hdone, _⟩ := h.row
  have hgl := hcur.lt
  have hfl : ∀ j, j < ls.length → f 0 ≤ f j ∧ f (j + 1) ≤ wr.heap.size := fun j hj => ⟨h.le (Nat.zero_le j) (by omega), Nat.le_trans (h.le (show j + 1 ≤ ls.length by omega) (Nat.le_refl _)) h.hi⟩
  have hlo0 := h.lo
  refine ⟨⟨_, c, rfl, hc, fun _ => ⟨g, 0, rfl, hlo, by omega, fun j hj => ?_⟩⟩, ?_⟩
  · obtain ⟨u0, u1, u2, c0, c1, c2, e0, e1, hI⟩ := hdone j hj hj
    have := hfl j hj
    exact ⟨⟨hcur.frozen _, hcur.frozen _⟩, u0, u1, u2, by simpa using (hcur.cell (j * 3)).trans c0, by simpa using (hcur.cell (j * 3 + 1)).trans c1, by simpa using (hcur.cell (j * 3 + 2)).trans c2, e0, e1, hI.mono (by omega) (by omega)⟩
  · rcases Nat.eq_zero_or_pos ls.length with hz | hp
    · refine ⟨[], ⟨_, c, rfl, hc, fun _ => rfl, fun hn => absurd hn (by omega)⟩, List.nodup_nil, fun p hp => by simp at hp⟩
    · have hex : ∀ j, ∃ q : List Addr, ∀ (hj : j < ls.length), ∃ u2, cur[j * 3 + 2]? = some u2 ∧ LvInts wr (f j) (f (j + 1)) u2 ls[j].2.2.length q := fun j => by
        by_cases hj : j < ls.length
        · obtain ⟨u0, u1, u2, c0, c1, c2, e0, e1, hI⟩ := hdone j hj hj
          obtain ⟨q, hq⟩ := hI.leaves
          exact ⟨q, fun _ => ⟨u2, c2, hq⟩⟩
        · exact ⟨[], fun hj' => absurd hj' hj⟩
      obtain ⟨qs, hqs⟩ := Classical.axiomOfChoice hex
      have hblk : ∀ j, j < ls.length → ∀ p ∈ qs j, f j ≤ p.block ∧ p.block < f (j + 1) := fun j hj p hp => by
        obtain ⟨u2, _, hL⟩ := hqs j hj
        exact hL.block hp
      refine ⟨preL (litEl g 0 qs) ls.length, ⟨_, c, rfl, hc, fun hz => absurd hp (by omega), fun _ => ⟨g, 0, qs, rfl, hlo, by omega, rfl, fun j hj => ?_⟩⟩, ?_, fun p hp => ?_⟩
      · obtain ⟨u0, u1, u2, c0, c1, c2, rfl, rfl, hI⟩ := hdone j hj hj
        obtain ⟨u2', c2', hL⟩ := hqs j hj
        have hu : u2 = u2' := Option.some.inj (c2.symm.trans c2')
        subst hu
        have := hfl j hj
        refine ⟨⟨hcur.frozen _, hcur.frozen _⟩, _, _, u2, by simpa using (hcur.cell (j * 3)).trans c0, by simpa using (hcur.cell (j * 3 + 1)).trans c1, by simpa using (hcur.cell (j * 3 + 2)).trans c2, hL.mono (by omega) (by omega)⟩
      · refine preL_nodup_of (fun j hj => ?_) (fun i j hij hj p hpi hpj => ?_)
        · obtain ⟨u2, _, hL⟩ := hqs j hj
          have hb := hblk j hj
          have := hfl j hj
          refine List.nodup_cons.2 ⟨fun hm => ?_, List.nodup_cons.2 ⟨fun hm => ?_, hL.nodup⟩⟩
          · rcases List.mem_cons.1 hm with e | hm
            · injection e with _ e _
              omega
            · have := hb _ hm
              simp at this
              omega
          · have := hb _ hm
            simp at this
            omega
        · have hi := hblk i (by omega)
          have hj' := hblk j hj
          have h1 := hfl i (by omega)
          have h2 := hfl j hj
          have h3 := h.le (show i + 1 ≤ j by omega) (by omega)
          have hcase : ∀ k, ∀ q ∈ litEl g 0 qs k, q = ⟨g, 0 + k * 3, none⟩ ∨ q = ⟨g, 0 + k * 3 + 1, none⟩ ∨ q ∈ qs k := fun k q hq => by
            simpa [litEl] using hq
          rcases hcase i p hpi with rfl | rfl | hpi <;> rcases hcase j _ hpj with e | e | hpj
          · injection e with _ e _; omega
          · injection e with _ e _; omega
          · have := hj' _ hpj; simp at this; omega
          · injection e with _ e _; omega
          · injection e with _ e _; omega
          · have := hj' _ hpj; simp at this; omega
          · have := hi _ hpi; rw [e] at this; simp at this; omega
          · have := hi _ hpi; rw [e] at this; simp at this; omega
          · have := hi _ hpi; have := hj' _ hpj; omega
      · obtain ⟨j, hj, hpj⟩ := mem_preL.1 hp
        have hb := hblk j hj
        have := hfl j hj
        simp only [litEl, List.mem_cons] at hpj
        rcases hpj with rfl | rfl | hpj
        · exact .inl rfl
        · exact .inl rfl
        · have := hb _ hpj
          exact .inr (by omega)

end Go.Proofs.YtfjmnjemmfmoaaaDoor
/-
  The program's renaming: the walks of ruleHasTerms and Renamed.
-/
namespace Go.Proofs.YtfjmnjemmfmoaaaDoor
open Go.RowKit

set_option maxHeartbeats 400000 in
theorem ruleHasTerms_any (v : Value) (r : LRule) (w : World) (h : RdRule w w.heap.size v r) (hr : szR r ≤ 1048576) :
    Calls Tryd.prog 58 #[v] w fun e w' => e = .returned (.bool (termsOk r)) ∧ Below w.heap.size w w' := by
  obtain ⟨a, b, rfl, h, h2⟩ := h
  unfold szR at hr
  have H := Lib.hid h
  have H2 := Lib.hid h2
  obtain ⟨A, c, rfl, hc, _⟩ := h
  obtain ⟨A2, c2, rfl, hcc, _⟩ := h2
  go_enter Tryd.func58, Tryd.ntmps58
  go_wp2_with (fail)
  obtain ⟨w1, hw1⟩ : ∃ w1, w1 = w.alloc (Obj.cells #[Value.int IntKind.i64 r.1.1, Value.slice A r.1.2.length c, Value.slice A2 r.2.length c2] 28) := ⟨_, rfl⟩
  have B1 : Below w.heap.size w w1 := by rw [hw1]; exact below1 _ _
  have x1 : Blk w1 w.heap.size 28 #[.int .i64 r.1.1, .slice A r.1.2.length c, .slice A2 r.2.length c2] := by rw [hw1]; exact Blk.new w _ _
  rw [← hw1]
  clear hw1
  go_loopw [4, 8] (fun _ i wr => ∃ k : Nat, k ≤ r.2.length ∧ i = .int .i64 k ∧ AllTo (fun l : LLit => l.2.2.all termOk) r.2 k ∧ Below w1.heap.size w1 wr) (fun _ i _ => r.2.length - (intOf i).toNat)
  case atStart => exact ⟨0, Nat.zero_le _, rfl, AllTo.start, Below.refl _ _⟩
  case round =>
    obtain ⟨k, hk, rfl, hs, hbe⟩ := hrel
    have BW := bthen B1 hbe
    have xr := x1.below hbe x1.lt
    have q1 : wr.cell? ⟨w.heap.size, 1, none⟩ = some (.slice A r.1.2.length c) := xr.cell 1
    by_cases hlt : k < r.2.length
    · obtain ⟨b, o, u0, u1, u2, rfl, hbB, k0, k1, k2, rfl, rfl, p3⟩ := (H2.out.on BW).get hlt
      have HA := Lib.hid p3
      obtain ⟨A3, c3, rfl, hc3, _⟩ := p3
      have hle := len_le_totL r.2 k hlt
      cases ht : r.2[k].2.2.all termOk
      · have HF := Lib.hid (show termsOk r = false by
          have : (r.2.all fun l => l.2.2.all termOk) = false := by
            rw [List.all_eq_false]
            exact ⟨r.2[k], List.getElem_mem _, by rw [ht]; decide⟩
          unfold termsOk
          rw [this]
          rfl)
        have HT := Lib.hid ht
        clear hs ht
        go_wp2_with (go_at_call 97; refine (areTerms_any _ r.2[k].2.2 _ _ (HA.out.on (below1 _ _)) (by omega)).mono ?_; rw [HT.out]; rintro e w' ⟨rfl, rfl⟩)
        go_ret
        exact ⟨ret_bool HF.out.symm, bthen BW (below1 _ _)⟩
      · have HS := Lib.hid (hs.step hlt ht)
        have HT := Lib.hid ht
        clear hs ht
        go_wp2_with (go_at_call 97; refine (areTerms_any _ r.2[k].2.2 _ _ (HA.out.on (below1 _ _)) (by omega)).mono ?_; rw [HT.out]; rintro e w' ⟨rfl, rfl⟩)
        go_roundw
        case rel => exact ⟨k + 1, by omega, by go_num, HS.out, bthen hbe (below1 _ _)⟩
        case measure => simp [intOf]; omega
    · have HS := Lib.hid (show termsOk r = r.1.2.all termOk by
        have : (r.2.all fun l => l.2.2.all termOk) = true := AllTo.done hs (by omega)
        unfold termsOk
        rw [this, Bool.true_and])
      clear hs
      go_wp2_with (go_at_call 97; refine (areTerms_any _ r.1.2 _ _ (H.out.on BW) (by omega)).mono ?_; rintro e w' ⟨rfl, rfl⟩)
      go_ret
      exact ⟨ret_bool HS.out.symm, BW⟩

theorem Blk.last (w : World) (o : Obj) (t : TypeId) (cs : Array Value) : Blk ((w.alloc o).alloc (.cells cs t)).drew (w.heap.size + 1) t cs := by
  have := Blk.new (w.alloc o) t cs
  rw [World.size_alloc] at this
  exact this
theorem Only.al {lo hi : Nat} {w W : World} (h : Only lo hi w W) (o : Obj) : Only lo hi w (W.alloc o) := h.trans (Only.of_below (below1 _ _))
theorem Only.setNew {lo hi : Nat} {w W : World} (h : Only lo hi w W) {p : Addr} (hp : w.heap.size ≤ p.block) (u : Value) : Only lo hi w (W.setCell p u) :=
  ⟨h.os, h.tape, h.output, by simpa using h.size, fun k hk ho => (Below.heap_setCell _ _ _ _ (by omega)).trans (h.block k hk ho)⟩

/-- What holds behind the region that begins a renamed rule: the new rule's block gO, its body's row gB, its head's row, the names. -/
def RenMid (w2 : World) (g : Nat) (p : Int) (s0 : Ren) (xs : List Int) (m : Nat) (ptr : Value) (wx : World) : Prop :=
  ∃ gO gB A c la ha, ptr = .pointer (some ⟨gO, 0, none⟩) ∧ Blk wx gO 28 #[.int .i64 p, .slice A xs.length c, .slice (some ⟨gB, 0, none⟩) m m] ∧ Blk wx gB 73 (madeCells #[.int .i64 0, .int .i64 0, .slice none 0 0] (m * 3)) ∧
    OwnInts wx la ha (.slice A xs.length c) (renOut s0 xs) ∧ NamesAt wx g (renList s0 xs) ∧ Only g (g + 1) w2 wx ∧ (w2.heap.size ≤ la ∧ w2.heap.size ≤ gO ∧ w2.heap.size ≤ gB) ∧ ((gO < la ∨ ha ≤ gO) ∧ (gB < la ∨ ha ≤ gB) ∧ gO ≠ gB) ∧ ha ≤ wx.heap.size

section
variable {w2 W3 : World} {g m la : Nat} {p : Int} {s0 : Ren} {xs : List Int} {A : Option Addr} {c : Nat}
/-- The row of a new body, before it is filled. -/
abbrev litRow (m : Nat) : Obj := Obj.cells (madeCells #[Value.int IntKind.i64 0, Value.int IntKind.i64 0, Value.slice none 0 0] (m * 3)) 73
abbrev outRow (p : Int) (A : Option Addr) (n c gB m : Nat) : Obj := Obj.cells #[Value.int IntKind.i64 p, Value.slice A n c, Value.slice (some ⟨gB, 0, none⟩) m m] 28
theorem OwnInts.al {w : World} {lo hi : Nat} {v : Value} {ys : List Int} (h : OwnInts w lo hi v ys) (hh : hi ≤ w.heap.size) (o : Obj) : OwnInts (w.alloc o) lo hi v ys := h.below (below1 _ _) hh
theorem RenMid.o1 (hK : Only g (g + 1) w2 W3) (ho : OwnInts W3 la W3.heap.size (.slice A xs.length c) (renOut s0 xs)) (hn : NamesAt W3 g (renList s0 xs)) (hla : w2.heap.size ≤ la) :
    RenMid w2 g p s0 xs m (.pointer (some ⟨W3.heap.size + 1, 0, none⟩)) ((W3.alloc (litRow m)).alloc (outRow p A xs.length c W3.heap.size m)) := by
  have hs := hK.size
  refine ⟨W3.heap.size + 1, W3.heap.size, A, c, la, W3.heap.size, rfl, ?_, (Blk.new W3 _ _).alloc _, (ho.al (Nat.le_refl _) _).al (by simp) _, hn.below (below2 _ _ _) hn.lt, (hK.al _).al _, ⟨hla, by omega, by omega⟩, ⟨.inr (by omega), .inr (Nat.le_refl _), by omega⟩, by simp; omega⟩
  have := Blk.new (W3.alloc (litRow m)) 28 #[Value.int IntKind.i64 p, Value.slice A xs.length c, Value.slice (some ⟨W3.heap.size, 0, none⟩) m m]
  rw [World.size_alloc] at this
  exact this
theorem RenMid.o2 (hK : Only g (g + 1) w2 W3) (ho : OwnInts W3 la W3.heap.size (.slice A xs.length c) (renOut s0 xs)) (hn : NamesAt W3 g (renList s0 xs)) (hla : w2.heap.size ≤ la) :
    RenMid w2 g p s0 xs m (.pointer (some ⟨W3.heap.size, 0, none⟩)) ((W3.alloc (outRow p A xs.length c (W3.heap.size + 1) m)).alloc (litRow m)) := by
  have hs := hK.size
  refine ⟨W3.heap.size, W3.heap.size + 1, A, c, la, W3.heap.size, rfl, (Blk.new W3 _ _).alloc _, ?_, (ho.al (Nat.le_refl _) _).al (by simp) _, hn.below (below2 _ _ _) hn.lt, (hK.al _).al _, ⟨hla, by omega, by omega⟩, ⟨.inr (Nat.le_refl _), .inr (by omega), by omega⟩, by simp; omega⟩
  have := Blk.new (W3.alloc (outRow p A xs.length c (W3.heap.size + 1) m)) 73 (madeCells #[Value.int IntKind.i64 0, Value.int IntKind.i64 0, Value.slice none 0 0] (m * 3))
  rw [World.size_alloc] at this
  exact this
theorem RenMid.o3 (hg : g < w2.heap.size) (hb : Only g (g + 1) (w2.alloc (litRow m)).drew W3) (ho : OwnInts W3 (w2.alloc (litRow m)).drew.heap.size W3.heap.size (.slice A xs.length c) (renOut s0 xs)) (hn : NamesAt W3 g (renList s0 xs)) :
    RenMid w2 g p s0 xs m (.pointer (some ⟨W3.heap.size, 0, none⟩)) (W3.alloc (outRow p A xs.length c w2.heap.size m)) := by
  have hs := hb.size
  simp at hs
  have hK : Only g (g + 1) w2 W3 := (Only.of_below (below1 w2 (litRow m)).drew).trans hb
  have z : Blk W3 w2.heap.size 73 (madeCells #[.int .i64 0, .int .i64 0, .slice none 0 0] (m * 3)) := (show Blk (w2.alloc (litRow m)).drew _ _ _ from Blk.new w2 _ _).only hb (.inr (by omega))
  exact ⟨W3.heap.size, w2.heap.size, A, c, _, W3.heap.size, rfl, Blk.new W3 _ _, z.alloc _, ho.al (Nat.le_refl _) _, hn.below (below1 _ _) hn.lt, hK.al _, ⟨by simp, by omega, Nat.le_refl _⟩, ⟨.inr (Nat.le_refl _), .inl (by simp), by omega⟩, by simp⟩
theorem OwnInts.set3 {w : World} {lo hi gO : Nat} {v : Value} {ys : List Int} (h : OwnInts w lo hi v ys) (hp : gO < lo) (u0 u1 u2 : Value) : OwnInts (((w.setCell ⟨gO, 0, none⟩ u0).setCell ⟨gO, 1, none⟩ u1).setCell ⟨gO, 2, none⟩ u2) lo hi v ys :=
  ((h.set (p := ⟨gO, 0, none⟩) (.inl hp) _).set (p := ⟨gO, 1, none⟩) (.inl hp) _).set (p := ⟨gO, 2, none⟩) (.inl hp) _
theorem NamesAt.set3 {w : World} {g gO : Nat} {s : Ren} (h : NamesAt w g s) (hp : g ≠ gO) (u0 u1 u2 : Value) : NamesAt (((w.setCell ⟨gO, 0, none⟩ u0).setCell ⟨gO, 1, none⟩ u1).setCell ⟨gO, 2, none⟩ u2) g s :=
  ((h.far (p := ⟨gO, 0, none⟩) hp _).far (p := ⟨gO, 1, none⟩) hp _).far (p := ⟨gO, 2, none⟩) hp _
theorem Only.set3 {w W : World} {lo hi gO : Nat} (h : Only lo hi w W) (hp : w.heap.size ≤ gO) (u0 u1 u2 : Value) : Only lo hi w (((W.setCell ⟨gO, 0, none⟩ u0).setCell ⟨gO, 1, none⟩ u1).setCell ⟨gO, 2, none⟩ u2) :=
  ((h.setNew (p := ⟨gO, 0, none⟩) hp _).setNew (p := ⟨gO, 1, none⟩) hp _).setNew (p := ⟨gO, 2, none⟩) hp _
theorem Blk.set3 {w : World} {gO : Nat} {t : TypeId} {v0 v1 v2 : Value} (h : Blk w gO t #[v0, v1, v2]) (u0 u1 u2 : Value) : Blk (((w.setCell ⟨gO, 0, none⟩ u0).setCell ⟨gO, 1, none⟩ u1).setCell ⟨gO, 2, none⟩ u2) gO t #[u0, u1, u2] := by
  simpa using ((h.set_ 0 u0).set_ 1 u1).set_ 2 u2
theorem Blk.far3 {w : World} {g gO : Nat} {t : TypeId} {cs : Array Value} (h : Blk w g t cs) (hp : g ≠ gO) (u0 u1 u2 : Value) : Blk (((w.setCell ⟨gO, 0, none⟩ u0).setCell ⟨gO, 1, none⟩ u1).setCell ⟨gO, 2, none⟩ u2) g t cs :=
  ((h.far (p := ⟨gO, 0, none⟩) hp _).far (p := ⟨gO, 1, none⟩) hp _).far (p := ⟨gO, 2, none⟩) hp _
theorem size_set3 (w : World) (gO : Nat) (u0 u1 u2 : Value) : (((w.setCell ⟨gO, 0, none⟩ u0).setCell ⟨gO, 1, none⟩ u1).setCell ⟨gO, 2, none⟩ u2).heap.size = w.heap.size := by simp
theorem NamesAt.set3' {w : World} {g gO a b c : Nat} {s : Ren} (h : NamesAt w g s) (hp : g ≠ gO) (u0 u1 u2 : Value) : NamesAt (((w.setCell ⟨gO, a, none⟩ u0).setCell ⟨gO, b, none⟩ u1).setCell ⟨gO, c, none⟩ u2) g s :=
  ((h.far (p := ⟨gO, a, none⟩) hp _).far (p := ⟨gO, b, none⟩) hp _).far (p := ⟨gO, c, none⟩) hp _
/-- The new rule before it is filled. -/
abbrev ruleRow : Obj := Obj.cells #[Value.int IntKind.i64 0, Value.slice none 0 0, Value.slice none 0 0] 28
theorem RenMid.o4 (hg : g < w2.heap.size) (hb : Only g (g + 1) ((w2.alloc (litRow m)).alloc ruleRow).drew W3) (ho : OwnInts W3 ((w2.alloc (litRow m)).alloc ruleRow).drew.heap.size W3.heap.size (.slice A xs.length c) (renOut s0 xs)) (hn : NamesAt W3 g (renList s0 xs)) :
    RenMid w2 g p s0 xs m (.pointer (some ⟨w2.heap.size + 1, 0, none⟩)) (((W3.setCell ⟨w2.heap.size + 1, 0, none⟩ (.int .i64 p)).setCell ⟨w2.heap.size + 1, 1, none⟩ (.slice A xs.length c)).setCell ⟨w2.heap.size + 1, 2, none⟩ (.slice (some ⟨w2.heap.size, 0, none⟩) m m)) := by
  have hs := hb.size
  simp at hs
  have hK : Only g (g + 1) w2 W3 := (Only.of_below (below2 w2 (litRow m) ruleRow).drew).trans hb
  have z : Blk W3 w2.heap.size 73 (madeCells #[.int .i64 0, .int .i64 0, .slice none 0 0] (m * 3)) := (show Blk ((w2.alloc (litRow m)).alloc ruleRow).drew _ _ _ from (Blk.new w2 _ _).alloc _).only hb (.inr (by omega))
  have y := (Blk.last w2 (litRow m) 28 #[Value.int IntKind.i64 0, Value.slice none 0 0, Value.slice none 0 0]).only hb (.inr (by omega))
  exact ⟨w2.heap.size + 1, w2.heap.size, A, c, _, W3.heap.size, rfl, y.set3 _ _ _, z.far3 (by omega) _ _ _, ho.set3 (by simp) _ _ _, hn.set3 (by omega) _ _ _, hK.set3 (by omega) _ _ _, ⟨by simp; omega, by omega, Nat.le_refl _⟩, ⟨.inl (by simp), .inl (by simp; omega), by omega⟩, by rw [size_set3]; exact Nat.le_refl _⟩
theorem RenMid.o5 (hg : g < w2.heap.size) (hb : Only g (g + 1) (w2.alloc ruleRow).drew W3) (ho : OwnInts W3 (w2.alloc ruleRow).drew.heap.size W3.heap.size (.slice A xs.length c) (renOut s0 xs)) (hn : NamesAt W3 g (renList s0 xs)) :
    RenMid w2 g p s0 xs m (.pointer (some ⟨w2.heap.size, 0, none⟩)) ((((W3.setCell ⟨w2.heap.size, 0, none⟩ (.int .i64 p)).setCell ⟨w2.heap.size, 1, none⟩ (.slice A xs.length c)).setCell ⟨w2.heap.size, 2, none⟩ (.slice (some ⟨W3.heap.size, 0, none⟩) m m)).alloc (litRow m)) := by
  have hs := hb.size
  simp at hs
  have hK : Only g (g + 1) w2 W3 := (Only.of_below (below1 w2 ruleRow).drew).trans hb
  have y : Blk W3 w2.heap.size 28 #[Value.int IntKind.i64 0, Value.slice none 0 0, Value.slice none 0 0] := (show Blk (w2.alloc ruleRow).drew _ _ _ from Blk.new w2 _ _).only hb (.inr (by omega))
  have hsz := size_set3 W3 w2.heap.size (.int .i64 p) (.slice A xs.length c) (.slice (some ⟨W3.heap.size, 0, none⟩) m m)
  have hN := hn.set3 (gO := w2.heap.size) (by omega) (.int .i64 p) (.slice A xs.length c) (.slice (some ⟨W3.heap.size, 0, none⟩) m m)
  refine ⟨w2.heap.size, W3.heap.size, A, c, _, W3.heap.size, rfl, (y.set3 _ _ _).alloc _, ?_, (ho.set3 (by simp) _ _ _).al (by rw [hsz]; exact Nat.le_refl _) _, hN.below (below1 _ _) hN.lt, (hK.set3 (Nat.le_refl _) _ _ _).al _, ⟨by simp, Nat.le_refl _, by omega⟩, ⟨.inl (by simp), .inr (Nat.le_refl _), by omega⟩, by simp⟩
  have hz := Blk.new (((W3.setCell ⟨w2.heap.size, 0, none⟩ (.int .i64 p)).setCell ⟨w2.heap.size, 1, none⟩ (.slice A xs.length c)).setCell ⟨w2.heap.size, 2, none⟩ (.slice (some ⟨W3.heap.size, 0, none⟩) m m)) 73 (madeCells #[Value.int IntKind.i64 0, Value.int IntKind.i64 0, Value.slice none 0 0] (m * 3))
  rw [hsz] at hz
  exact hz
theorem RenMid.o6 (hg : g < w2.heap.size) (hb : Only g (g + 1) ((w2.alloc ruleRow).alloc (litRow m)).drew W3) (ho : OwnInts W3 ((w2.alloc ruleRow).alloc (litRow m)).drew.heap.size W3.heap.size (.slice A xs.length c) (renOut s0 xs)) (hn : NamesAt W3 g (renList s0 xs)) :
    RenMid w2 g p s0 xs m (.pointer (some ⟨w2.heap.size, 0, none⟩)) (((W3.setCell ⟨w2.heap.size, 0, none⟩ (.int .i64 p)).setCell ⟨w2.heap.size, 1, none⟩ (.slice A xs.length c)).setCell ⟨w2.heap.size, 2, none⟩ (.slice (some ⟨w2.heap.size + 1, 0, none⟩) m m)) := by
  have hs := hb.size
  simp at hs
  have hK : Only g (g + 1) w2 W3 := (Only.of_below (below2 w2 ruleRow (litRow m)).drew).trans hb
  have y : Blk W3 w2.heap.size 28 #[Value.int IntKind.i64 0, Value.slice none 0 0, Value.slice none 0 0] := (show Blk ((w2.alloc ruleRow).alloc (litRow m)).drew _ _ _ from (Blk.new w2 _ _).alloc _).only hb (.inr (by omega))
  have z := (Blk.last w2 ruleRow 73 (madeCells #[Value.int IntKind.i64 0, Value.int IntKind.i64 0, Value.slice none 0 0] (m * 3))).only hb (.inr (by omega))
  exact ⟨w2.heap.size, w2.heap.size + 1, A, c, _, W3.heap.size, rfl, y.set3 _ _ _, z.far3 (by omega) _ _ _, ho.set3 (by simp; omega) _ _ _, hn.set3 (by omega) _ _ _, hK.set3 (Nat.le_refl _) _ _ _, ⟨by simp; omega, Nat.le_refl _, by omega⟩, ⟨.inl (by simp; omega), .inl (by simp), by omega⟩, by rw [size_set3]; exact Nat.le_refl _⟩
end

theorem But2.then_ {w wc wr : World} {g r : Nat} (hb : Below w.heap.size w wc) (h : But2 g r wc wr) (h1 : w.heap.size ≤ g) (h2 : w.heap.size ≤ r) : Below w.heap.size w wr :=
  hb.trans ⟨h.os, h.tape, h.output, h.size, fun k hk => h.block k (Nat.lt_of_lt_of_le hk hb.size) (by omega) (by omega)⟩
theorem But2.trans {w wc wr : World} {g r : Nat} (h : But2 g r w wc) (k : But2 g r wc wr) : But2 g r w wr :=
  ⟨k.os.trans h.os, k.tape.trans h.tape, k.output.trans h.output, Nat.le_trans h.size k.size, fun b hb h1 h2 => (k.block b (Nat.lt_of_lt_of_le hb h.size) h1 h2).trans (h.block b hb h1 h2)⟩
theorem But2.of_below {w w' : World} {g r : Nat} (h : Below w.heap.size w w') : But2 g r w w' := ⟨h.os, h.tape, h.output, h.size, fun k hk _ _ => h.block k hk⟩
theorem But2.set3 {g r a b c : Nat} {w w1 : World} (h : But2 g r w w1) (u0 u1 u2 : Value) : But2 g r w (((w1.setCell ⟨r, a, none⟩ u0).setCell ⟨r, b, none⟩ u1).setCell ⟨r, c, none⟩ u2) := ((h.set u0).set u1).set u2
theorem renBody_count : ∀ (ls : List LLit) (s : Ren), (renBody s ls).2 ≤ s.2 + totL ls
  | [], s => by simp [renBody]
  | l :: ls, s => by
    have h1 := renBody_count ls (renList s l.2.2)
    have h2 := renList_count l.2.2 s
    show (renBody (renList s l.2.2) ls).2 ≤ _
    simp only [totL, List.map_cons, List.sum_cons] at h1 ⊢
    omega
theorem totL_take_le (ls : List LLit) (k : Nat) : totL (ls.take k) ≤ totL ls := by
  have := congrArg (fun l => (l.map fun l : LLit => l.2.2.length).sum) (List.take_append_drop k ls)
  simp only [List.map_append, List.sum_append] at this
  unfold totL
  omega
theorem renLits_at {s : Ren} {ls xs : List LLit} (hxs : xs = renLits s ls) {k : Nat} (h : k < ls.length) (h' : k < xs.length) : xs[k] = (ls[k].1, ls[k].2.1, renOut (renBody s (ls.take k)) ls[k].2.2) := by
  subst hxs
  have e1 : ls.getD k (0, (0, [])) = ls[k] := by simp [h]
  simp [renLits, h]

set_option maxHeartbeats 4000000 in
set_option maxRecDepth 100000 in
theorem implRenamed_yes (v : Value) (r : LRule) (w : World) (h : RdRule w w.heap.size v r) (hr : szR r ≤ 1048576) (hok : termsOk r = true) :
    Calls Tryd.prog 12 #[v] w fun e w' => ∃ A c A2 c2 lo hi ps, e = .returned (.agg #[.int .i64 (renamed r).1.1, .slice A (renamed r).1.2.length c, .slice A2 (renamed r).2.length c2]) ∧
      (OwnInts w' lo hi (.slice A (renamed r).1.2.length c) (renamed r).1.2 ∧ OwnLits w' lo hi (.slice A2 (renamed r).2.length c2) (renamed r).2) ∧
      LvRule w' lo hi (.agg #[.int .i64 (renamed r).1.1, .slice A (renamed r).1.2.length c, .slice A2 (renamed r).2.length c2]) (renamed r) ps ∧ ps.Nodup ∧ w.heap.size ≤ lo ∧ hi ≤ w'.heap.size ∧ Below w.heap.size w w' := by
  obtain ⟨a, b, rfl, h, h2⟩ := h
  have HRR := Lib.hid (show RdRule w w.heap.size (.agg #[.int .i64 r.1.1, a, b]) r from ⟨a, b, rfl, h, h2⟩)
  have hsz := hr
  unfold szR at hr
  have H := Lib.hid h
  have H2 := Lib.hid h2
  obtain ⟨A, c, rfl, hc, _⟩ := h
  obtain ⟨A2, c2, rfl, hcc, _⟩ := h2
  obtain ⟨i0, hi0, hz0, hz1, hz2⟩ := info_parts Tryd.infoLit
  have hmk := run_make_rowN (P := Tryd.prog) 26 73 i0 (.agg #[.int .i64 0, .int .i64 0, .slice none 0 0]) Tryd.underlying26 hi0 hz0 .i64 .i64 r.2.length r.2.length (Nat.le_refl _) (by rw [hz2]; omega) (by omega)
  rw [hz1] at hmk
  go_enter Tryd.func12, Tryd.ntmps12
  go_wp2_with (fail)
  refine (ruleHasTerms_any _ r _ (HRR.out.on (below2 _ _ _)) hsz).mono ?_
  rintro e w1 ⟨rfl, hb1⟩
  rw [hok]
  have B1 := bthen (below2 _ _ _) hb1
  have x1 : Blk w1 w.heap.size 28 #[.int .i64 r.1.1, .slice A r.1.2.length c, .slice A2 r.2.length c2] := ((Blk.new w _ _).alloc _).below hb1 (by simp; omega)
  have y1 : Blk w1 (w.heap.size + 1) 28 #[.int .i64 0, .slice none 0 0, .slice none 0 0] := by
    have := (Blk.new (w.alloc (Obj.cells #[Value.int IntKind.i64 r.1.1, Value.slice A r.1.2.length c, Value.slice A2 r.2.length c2] 28)) 28 #[.int .i64 0, .slice none 0 0, .slice none 0 0]).below hb1 (by simp)
    simpa using this
  have s1 : w.heap.size + 2 ≤ w1.heap.size := by have := hb1.size; simp at this; exact this
  clear hb1
  go_wp2_with (fail)
  obtain ⟨w2, hw2⟩ : ∃ w2, w2 = w1.alloc (Obj.cells #[Value.int IntKind.i64 0, Value.int IntKind.i64 0, Value.int IntKind.i64 0, Value.int IntKind.i64 0, Value.int IntKind.i64 0] 76) := ⟨_, rfl⟩
  have b2 : Below w1.heap.size w1 w2 := by rw [hw2]; exact below1 _ _
  have s2 : w2.heap.size = w1.heap.size + 1 := by rw [hw2]; simp
  have n2 : NamesAt w2 w1.heap.size ren0 := by rw [hw2]; exact ⟨0, 0, 0, 0, rfl, Blk.new _ _ _⟩
  have hlt2 := n2.lt
  have B2 := bthen B1 b2
  have x2 := x1.below b2 x1.lt
  have y2 := y1.below b2 y1.lt
  have q0 : w2.cell? ⟨w.heap.size, 0, none⟩ = some (.int .i64 r.1.1) := x2.cell 0
  have q1 : w2.cell? ⟨w.heap.size, 1, none⟩ = some (.slice A r.1.2.length c) := x2.cell 1
  have q2 : w2.cell? ⟨w.heap.size, 2, none⟩ = some (.slice A2 r.2.length c2) := x2.cell 2
  rw [← hw2]
  clear hw2
  have HS := Lib.hid (show ∀ W, Only w1.heap.size (w1.heap.size + 1) w2 W → (Only w1.heap.size (w1.heap.size + 1) w2 W ∧ W.cell? ⟨w.heap.size, 0, none⟩ = some (.int .i64 r.1.1) ∧ W.cell? ⟨w.heap.size, 1, none⟩ = some (.slice A r.1.2.length c) ∧ W.cell? ⟨w.heap.size, 2, none⟩ = some (.slice A2 r.2.length c2)) from
    fun W hW => ⟨hW, (x2.only hW (.inl (by omega))).cell 0, (x2.only hW (.inl (by omega))).cell 1, (x2.only hW (.inl (by omega))).cell 2⟩)
  have HN := Lib.hid (show ∀ W, Below w2.heap.size w2 W → NamesAt W w1.heap.size ren0 from fun W hW => n2.below hW n2.lt)
  have HV := Lib.hid (show ∀ W, Only w1.heap.size (w1.heap.size + 1) w2 W → RdInts W w1.heap.size (.slice A r.1.2.length c) r.1.2 from fun W hW => (((H.out.below B2 (Nat.le_refl _)).more (by omega)).only hW (Nat.le_refl _)))
  have S2 := Lib.hid s2
  clear s2
  go_upto_region 4 with fail
  go_cut [4] (fun ptr wx => RenMid w2 w1.heap.size r.1.1 ren0 r.1.2 r.2.length ptr wx)
  case first =>
   go_region_held3 (fun W => Only w1.heap.size (w1.heap.size + 1) w2 W ∧ W.cell? ⟨w.heap.size, 0, none⟩ = some (.int .i64 r.1.1) ∧ W.cell? ⟨w.heap.size, 1, none⟩ = some (.slice A r.1.2.length c) ∧ W.cell? ⟨w.heap.size, 2, none⟩ = some (.slice A2 r.2.length c2))
    (first | with_reducible exact HS.out _ (Only.of_below (Below.refl _ _).drew) | with_reducible exact HS.out _ (Only.of_below (below1 _ _).drew) | with_reducible exact HS.out _ (Only.of_below (below2 _ _ _).drew) | with_reducible exact HS.out _ (Only.of_below (below3 _ _ _ _).drew) | with_reducible exact HS.out _ K3 | with_reducible exact HS.out _ (K3.al _) | with_reducible exact HS.out _ ((K3.al _).al _) | ((with_reducible refine HS.out _ (((K3.setNew ?_ _).setNew ?_ _).setNew ?_ _)) <;> (first | omega | (simp; done) | (simp; omega))) | ((with_reducible refine HS.out _ ((((K3.al _).setNew ?_ _).setNew ?_ _).setNew ?_ _)) <;> (first | omega | (simp; done) | (simp; omega))) | ((with_reducible refine HS.out _ ((((K3.setNew ?_ _).setNew ?_ _).setNew ?_ _).al _)) <;> (first | omega | (simp; done) | (simp; omega))))
    (first | (go_at_call 59; refine (renAtom_any w1.heap.size ren0 r.1.1 _ r.1.2 _ ?_ ?_ (by omega) (by decide)).mono ?_; (first | exact HN.out _ (Below.refl _ _).drew | exact HN.out _ (below1 _ _).drew | exact HN.out _ (below2 _ _ _).drew | exact HN.out _ (below3 _ _ _ _).drew); exact HV.out _ (And.left (by assumption)); rintro e W3 ⟨A3, c3, rfl, ho3, hn3, hb3⟩; have K3 : Only w1.heap.size (w1.heap.size + 1) w2 W3 := (And.left (by assumption) : Only w1.heap.size (w1.heap.size + 1) w2 _).trans hb3; have K3s := K3.size; (first
      | (have z : Blk W3 w2.heap.size 28 #[.int .i64 0, .slice none 0 0, .slice none 0 0] := (show Blk (w2.alloc (Obj.cells #[Value.int IntKind.i64 0, Value.slice none 0 0, Value.slice none 0 0] 28)).drew w2.heap.size 28 #[.int .i64 0, .slice none 0 0, .slice none 0 0] from Blk.new w2 _ _).only hb3 (.inr (by omega)); have z0 : W3.cell? ⟨w2.heap.size, 0, none⟩ = some (.int .i64 0) := z.cell 0; have z1 : W3.cell? ⟨w2.heap.size, 1, none⟩ = some (.slice none 0 0) := z.cell 1; have z2 : W3.cell? ⟨w2.heap.size, 2, none⟩ = some (.slice none 0 0) := z.cell 2; have z3 := z.frozen 0; have z4 := z.frozen 1; have z5 := z.frozen 2; have z6 := z.lt)
      | (have z : Blk W3 w2.heap.size 28 #[.int .i64 0, .slice none 0 0, .slice none 0 0] := (show Blk ((w2.alloc (Obj.cells #[Value.int IntKind.i64 0, Value.slice none 0 0, Value.slice none 0 0] 28)).alloc (Obj.cells (madeCells #[Value.int IntKind.i64 0, Value.int IntKind.i64 0, Value.slice none 0 0] (r.2.length * 3)) 73)).drew w2.heap.size 28 #[.int .i64 0, .slice none 0 0, .slice none 0 0] from (Blk.new w2 _ _).alloc _).only hb3 (.inr (by omega)); have z0 : W3.cell? ⟨w2.heap.size, 0, none⟩ = some (.int .i64 0) := z.cell 0; have z1 : W3.cell? ⟨w2.heap.size, 1, none⟩ = some (.slice none 0 0) := z.cell 1; have z2 : W3.cell? ⟨w2.heap.size, 2, none⟩ = some (.slice none 0 0) := z.cell 2; have z3 := z.frozen 0; have z4 := z.frozen 1; have z5 := z.frozen 2; have z6 := z.lt)
      | (have z : Blk W3 (w2.heap.size + 1) 28 #[.int .i64 0, .slice none 0 0, .slice none 0 0] := (Blk.last w2 _ _ _).only hb3 (.inr (by omega)); have z0 : W3.cell? ⟨(w2.heap.size + 1), 0, none⟩ = some (.int .i64 0) := z.cell 0; have z1 : W3.cell? ⟨(w2.heap.size + 1), 1, none⟩ = some (.slice none 0 0) := z.cell 1; have z2 : W3.cell? ⟨(w2.heap.size + 1), 2, none⟩ = some (.slice none 0 0) := z.cell 2; have z3 := z.frozen 0; have z4 := z.frozen 1; have z5 := z.frozen 2; have z6 := z.lt)
      | skip)))
   all_goals (go_wp2_with (fail); go_meet; clear HS HN HV)
   all_goals (first
     | with_reducible exact RenMid.o1 K3 ho3 hn3 (by first | exact Nat.le_refl _ | (simp; done) | (simp; omega))
     | with_reducible exact RenMid.o2 K3 ho3 hn3 (by first | exact Nat.le_refl _ | (simp; done) | (simp; omega))
     | with_reducible exact RenMid.o3 hlt2 hb3 ho3 hn3
     | with_reducible exact RenMid.o4 hlt2 hb3 ho3 hn3
     | with_reducible exact RenMid.o5 hlt2 hb3 ho3 hn3
     | with_reducible exact RenMid.o6 hlt2 hb3 ho3 hn3
     | go_goals)
  case rest =>
    obtain ⟨gO, gB, A3, c3, la, ha, rfl, xO, xB, ho3, hn3, hK, ⟨l1, l2, l3⟩, ⟨d1, d2, d3⟩, hha⟩ := hcut
    clear HS HN HV q0 q1 q2 hmk
    have xp := x2.only hK (.inl (by omega))
    have yp := y2.only hK (.inl (by omega))
    have BC : Below w.heap.size w wc := Only.then_ B2 hK (by omega)
    have q2 : wc.cell? ⟨w.heap.size, 2, none⟩ = some (.slice A2 r.2.length c2) := xp.cell 2
    have hgc := hn3.lt
    have hBc := xB.lt
    have hOc := xO.lt
    obtain ⟨xs, hxs⟩ : ∃ xs, xs = renLits (renList ren0 r.1.2) r.2 := ⟨_, rfl⟩
    have hxl : xs.length = r.2.length := by rw [hxs]; simp [renLits]
    have F0 : Fill 73 (.int .i64 0) (.int .i64 0) (.slice none 0 0) OLit gB wc xs 0 (fun _ => wc.heap.size) := Fill.start (by rw [hxl]; exact xB) _ hBc (Nat.le_refl _)
    have HXL := Lib.hid hxl
    have HXS := Lib.hid hxs
    have HC := Lib.hid (renList_count r.1.2 ren0)
    clear hxl hxs
    go_wp2_with (fail)
    go_loopw [5, 6, 22] (fun _ _ i wr => ∃ (k : Nat) (f : Nat → Nat), k ≤ r.2.length ∧ i = .int .i64 k ∧ Fill 73 (.int .i64 0) (.int .i64 0) (.slice none 0 0) OLit gB wr xs k f ∧ f 0 = wc.heap.size ∧ NamesAt wr w1.heap.size (renBody (renList ren0 r.1.2) (r.2.take k)) ∧ But2 w1.heap.size gB wc wr)
      (fun _ _ i _ => r.2.length - (intOf i).toNat)
    case atStart => exact ⟨0, _, Nat.zero_le _, rfl, F0, rfl, by simpa [renBody] using hn3, But2.refl _ _ _⟩
    case round =>
      obtain ⟨k, f, hk, rfl, hF, hf0, hn, hbt⟩ := hrel
      have BW := But2.then_ BC hbt (by omega) (by omega)
      have xw := xp.but hbt (by omega) (by omega)
      have yw := yp.but hbt (by omega) (by omega)
      have ow := xO.but hbt (by omega) (by omega)
      have hgw := hn.lt
      have hsw := hbt.size
      by_cases hlt : k < r.2.length
      · obtain ⟨b, o, u0, u1, u2, rfl, hbB, k0, k1, k2, rfl, rfl, p3⟩ := (H2.out.below BW (Nat.le_refl _)).get hlt
        have HP := Lib.hid p3
        obtain ⟨A4, c4, rfl, hc4, _⟩ := p3
        have hle := len_le_totL r.2 k hlt
        have hcn := renBody_count (r.2.take k) (renList ren0 r.1.2)
        have htk := totL_take_le r.2 k
        have hcn0 := HC.out
        have hcn1 : (renBody (renList ren0 r.1.2) (r.2.take k)).2 ≤ 4611686014132420000 := by
          have : ren0.2 = 0 := rfl
          omega
        obtain ⟨w5, hw5⟩ : ∃ w5, w5 = wr.alloc (Obj.cells #[Value.int IntKind.i64 r.2[k].1, Value.int IntKind.i64 r.2[k].2.1, Value.slice A4 r.2[k].2.2.length c4] 73) := ⟨_, rfl⟩
        have b5 : Below wr.heap.size wr w5 := by rw [hw5]; exact below1 _ _
        have x5 : Blk w5 wr.heap.size 73 #[.int .i64 r.2[k].1, .int .i64 r.2[k].2.1, .slice A4 r.2[k].2.2.length c4] := by rw [hw5]; exact Blk.new _ _ _
        have s5 : wr.heap.size < w5.heap.size := x5.lt
        have hBw := hF.hi
        have hgB : gB < wr.heap.size := Nat.lt_of_lt_of_le hBc hsw
        have o5 := ow.below b5 ow.lt
        have HF := Lib.hid hF
        have HQ := Lib.hid (show ∀ W4, Only w1.heap.size (w1.heap.size + 1) w5 W4 → (W4.heap[gB]? = wr.heap[gB]?) ∧ (∀ b, f 0 ≤ b → b < f k → W4.heap[b]? = wr.heap[b]?) ∧ wr.heap.size ≤ W4.heap.size ∧ wr.heap.size ≤ w5.heap.size ∧ w1.heap.size ≠ gB from fun W4 ho =>
          ⟨(ho.block gB (by omega) (by omega)).trans (b5.block gB hgB), fun b h1 h2 => (ho.block b (by omega) (by omega)).trans (b5.block b (by omega)), Nat.le_trans (by omega) ho.size, by omega, by omega⟩)
        have HN := Lib.hid (show ∀ W, Below w5.heap.size w5 W → NamesAt W w1.heap.size (renBody (renList ren0 r.1.2) (r.2.take k)) from fun W hW => (hn.below b5 hgw).below hW (by omega))
        have HV := Lib.hid (show ∀ W, Below w5.heap.size w5 W → RdInts W w1.heap.size (.slice A4 r.2[k].2.2.length c4) r.2[k].2.2 from fun W hW => ((HP.out.below (b5.mono (by omega)) (Nat.le_refl _)).below (hW.mono (by omega)) (Nat.le_refl _)).more (by omega))
        have HS := Lib.hid (show ∀ W, But2 w1.heap.size gB w5 W → (But2 w1.heap.size gB w5 W ∧ W.cell? ⟨gO, 2, none⟩ = some (.slice (some ⟨gB, 0, none⟩) r.2.length r.2.length) ∧ W.cell? ⟨wr.heap.size, 0, none⟩ = some (.int .i64 r.2[k].1) ∧ W.cell? ⟨wr.heap.size, 1, none⟩ = some (.int .i64 r.2[k].2.1) ∧ W.cell? ⟨wr.heap.size, 2, none⟩ = some (.slice A4 r.2[k].2.2.length c4)) from
          fun W hW => ⟨hW, (o5.but hW (by omega) d3).cell 2, (x5.but hW (by omega) (by omega)).cell 0, (x5.but hW (by omega) (by omega)).cell 1, (x5.but hW (by omega) (by omega)).cell 2⟩)
        have hkz : (0 : Int) ≤ (k : Int) := by omega
        have hkl : (k : Int) < (r.2.length : Int) := by omega
        go_upto_region 8 with fail
        rw [← hw5]
        clear hw5 hF hn
        go_region_held3 (fun W => But2 w1.heap.size gB w5 W ∧ W.cell? ⟨gO, 2, none⟩ = some (.slice (some ⟨gB, 0, none⟩) r.2.length r.2.length) ∧ W.cell? ⟨wr.heap.size, 0, none⟩ = some (.int .i64 r.2[k].1) ∧ W.cell? ⟨wr.heap.size, 1, none⟩ = some (.int .i64 r.2[k].2.1) ∧ W.cell? ⟨wr.heap.size, 2, none⟩ = some (.slice A4 r.2[k].2.2.length c4))
            (first | with_reducible exact HS.out _ (But2.of_below (Below.refl _ _).drew) | with_reducible exact HS.out _ K4 | with_reducible exact HS.out _ (K4.set3 _ _ _) | fail)
            (first | (go_at_call 59; refine (renAtom_any w1.heap.size _ r.2[k].2.1 _ r.2[k].2.2 _ (HN.out _ (Below.refl _ _).drew) (HV.out _ (Below.refl _ _).drew) (by omega) hcn1).mono ?_; rintro e W4 ⟨A6, c6, rfl, ho6, hn6, hb6⟩; have K4 : But2 w1.heap.size gB w5 W4 := (But2.of_below (Below.refl _ _).drew).only hb6; obtain ⟨e0, e1, e2, e3, e4, e5⟩ := HF.out.room (w4 := W4) (by rw [HXL.out]; exact hlt) ((hb6.block gB (show gB < w5.heap.size by omega) (by omega)).trans (b5.block gB hgB))))
        have HO := Lib.hid (And.intro ho6 (And.intro hn6 (show Only w1.heap.size (w1.heap.size + 1) w5 W4 from (Only.of_below (Below.refl _ _).drew).trans hb6)))
        clear ho6 hn6 hb6 HS HN HV e0 e1 e2 e3 e4 e5 k0 k1 k2
        go_wp2_with (fail)
        go_roundw
        case rel =>
          obtain ⟨hq1, hq2, hq3, hq4, hq5⟩ := HQ.out W4 HO.out.2.2
          have hxk : k < xs.length := by rw [HXL.out]; exact hlt
          refine ⟨k + 1, _, hlt, by go_num, HF.out.step (fun h hk => h.keep hk) (fun h h1 h2 => h.mono h1 h2) hxk hq1 hq2 hq3 ?_, ?_, ?_, ?_⟩
          · rw [renLits_at HXS.out hlt hxk]
            exact ⟨rfl, rfl, HO.out.1.mono hq4 (Nat.le_refl _)⟩
          · simpa using hf0
          · rw [renBody_take _ hlt]
            exact HO.out.2.1.set3' hq5 _ _ _
          · exact (((hbt.trans (But2.of_below b5)).only HO.out.2.2).set3 _ _ _)
        case measure => simp [intOf]; omega
      · have hkn : k = r.2.length := by omega
        have hxn : xs.length = k := by rw [HXL.out, hkn]
        have hF2 : Fill 73 (.int .i64 0) (.int .i64 0) (.slice none 0 0) OLit gB wr xs xs.length f := by rw [hxn]; exact hF
        have hoh : OwnInts wr la ha (.slice A3 r.1.2.length c3) (renOut ren0 r.1.2) := ho3.kept fun g hg => by
          have hl := ho3.lt hg
          exact hbt.block g (by omega) (fun e => by omega) (fun e => by omega)
        obtain ⟨W, hW⟩ : ∃ W, W = ((wr.setCell ⟨w.heap.size + 1, 0, none⟩ (.int .i64 r.1.1)).setCell ⟨w.heap.size + 1, 1, none⟩ (.slice A3 r.1.2.length c3)).setCell ⟨w.heap.size + 1, 2, none⟩ (.slice (some ⟨gB, 0, none⟩) r.2.length r.2.length) := ⟨_, rfl⟩
        have hfar : ∀ b, b ≠ w.heap.size + 1 → W.heap[b]? = wr.heap[b]? := fun b hne => by
          rw [hW, Below.heap_setCell _ _ _ _ hne, Below.heap_setCell _ _ _ _ hne, Below.heap_setCell _ _ _ _ hne]
        have hsW : W.heap.size = wr.heap.size := by rw [hW]; simp
        have hF3 := hF2.kept (w4 := W) (fun h hk => h.keep hk) (hfar gB (by omega)) (fun b h1 _ => hfar b (by omega)) (by omega)
        obtain ⟨hRd, ps, hLv, hnd, hps⟩ := hF3.lits (c := r.2.length) (lo := w.heap.size) (hi := W.heap.size) (by rw [HXL.out]; exact Nat.le_refl _) (by omega) (Nat.le_refl _)
        rw [HXL.out] at hRd hLv
        have hohW : OwnInts W la ha (.slice A3 r.1.2.length c3) (renOut ren0 r.1.2) := hoh.kept fun g hg => hfar g (by have := hoh.lt hg; omega)
        obtain ⟨qs, hLq⟩ := hohW.leaves
        rw [renOut_length] at hLq
        have hyes := renamed_yes hok
        rw [← HXS.out] at hyes
        have HFIN := Lib.hid (show ∃ A c A2 c2 lo hi ps, (.agg #[.int .i64 r.1.1, .slice A3 r.1.2.length c3, .slice (some ⟨gB, 0, none⟩) r.2.length r.2.length] : Value) = (.agg #[.int .i64 (renamed r).1.1, .slice A (renamed r).1.2.length c, .slice A2 (renamed r).2.length c2]) ∧
            (OwnInts W lo hi (.slice A (renamed r).1.2.length c) (renamed r).1.2 ∧ OwnLits W lo hi (.slice A2 (renamed r).2.length c2) (renamed r).2) ∧
            LvRule W lo hi (.agg #[.int .i64 (renamed r).1.1, .slice A (renamed r).1.2.length c, .slice A2 (renamed r).2.length c2]) (renamed r) ps ∧ ps.Nodup ∧ w.heap.size ≤ lo ∧ hi ≤ W.heap.size ∧ Below w.heap.size w W from by
          rw [hyes]
          refine ⟨A3, c3, some ⟨gB, 0, none⟩, r.2.length, w.heap.size, W.heap.size, qs ++ ps, ?_, ⟨?_, ?_⟩, ⟨r.1.1, _, _, qs, ps, rfl, rfl, ?_, ?_⟩, ?_, Nat.le_refl _, Nat.le_refl _, ?_⟩
          · simp [renOut_length, HXL.out]
          · simp only [renOut_length]
            exact hohW.mono (by omega) (by omega)
          · simp only [HXL.out]
            exact hRd
          · simp only [renOut_length]
            exact hLq.mono (by omega) (by omega)
          · simp only [HXL.out]
            exact hLv
          · rw [List.nodup_append]
            refine ⟨hLq.nodup, hnd, fun p hp q hq e => ?_⟩
            subst e
            have hb1 := hLq.block hp
            rcases hps p hq with e | e <;> omega
          · have hB0 := But2.then_ BC hbt (by omega) (by omega)
            rw [hW]
            exact (((hB0.setCell (by simp) _).setCell (by simp) _).setCell (by simp) _))
        have k0 : wr.cell? ⟨w.heap.size + 1, 0, none⟩ = some (.int .i64 0) := yw.cell 0
        have k1 : wr.cell? ⟨w.heap.size + 1, 1, none⟩ = some (.slice none 0 0) := yw.cell 1
        have k2 : wr.cell? ⟨w.heap.size + 1, 2, none⟩ = some (.slice none 0 0) := yw.cell 2
        have j0 := yw.frozen 0
        have j1 := yw.frozen 1
        have j2 := yw.frozen 2
        have n0 : wr.cell? ⟨gO, 0, none⟩ = some (.int .i64 r.1.1) := ow.cell 0
        have n1 : wr.cell? ⟨gO, 1, none⟩ = some (.slice A3 r.1.2.length c3) := ow.cell 1
        have n2 : wr.cell? ⟨gO, 2, none⟩ = some (.slice (some ⟨gB, 0, none⟩) r.2.length r.2.length) := ow.cell 2
        have HY := Lib.hid (show Blk W (w.heap.size + 1) 28 #[.int .i64 r.1.1, .slice A3 r.1.2.length c3, .slice (some ⟨gB, 0, none⟩) r.2.length r.2.length] by rw [hW]; exact yw.set3 _ _ _)
        have HWW := Lib.hid hW
        have hko : gO ≠ w.heap.size + 1 := by omega
        clear hW hfar hsW hF3 hRd hLv hnd hps hohW hLq hyes hF2 hF hn hxn hkn hoh ho3 hf0
        go_wp2_with (fail)
        rw [← HWW.out]
        have d0 : W.cell? ⟨w.heap.size + 1, 0, none⟩ = some (.int .i64 r.1.1) := HY.out.cell 0
        have d1 : W.cell? ⟨w.heap.size + 1, 1, none⟩ = some (.slice A3 r.1.2.length c3) := HY.out.cell 1
        have d2 : W.cell? ⟨w.heap.size + 1, 2, none⟩ = some (.slice (some ⟨gB, 0, none⟩) r.2.length r.2.length) := HY.out.cell 2
        refine bodyPost_ret (v := .agg #[.int .i64 r.1.1, .slice A3 r.1.2.length c3, .slice (some ⟨gB, 0, none⟩) r.2.length r.2.length]) (by simp [results, Tryd.results12, go_sem, d0, d1, d2]) rfl ?_
        obtain ⟨A7, c7, A8, c8, lo, hi, ps, hv, h1, h2, h3, h4, h5, h6⟩ := HFIN.out
        exact ⟨A7, c7, A8, c8, lo, hi, ps, by rw [hv], h1, h2, h3, h4, h5, h6⟩

set_option maxHeartbeats 1000000 in
set_option maxRecDepth 100000 in
theorem implRenamed_no (v : Value) (r : LRule) (w : World) (h : RdRule w w.heap.size v r) (hr : szR r ≤ 1048576) (hok : termsOk r = false) :
    Calls Tryd.prog 12 #[v] w fun e w' => e = .returned (.agg #[.int .i64 0, .slice none 0 0, .slice none 0 0]) ∧ Below w.heap.size w w' := by
  obtain ⟨a, b, rfl, h, h2⟩ := h
  have HRR := Lib.hid (show RdRule w w.heap.size (.agg #[.int .i64 r.1.1, a, b]) r from ⟨a, b, rfl, h, h2⟩)
  obtain ⟨A, c, rfl, hc, _⟩ := h
  obtain ⟨A2, c2, rfl, hcc, _⟩ := h2
  go_enter Tryd.func12, Tryd.ntmps12
  go_wp2_with (fail)
  refine (ruleHasTerms_any _ r _ (HRR.out.on (below2 _ _ _)) hr).mono ?_
  rintro e w1 ⟨rfl, hb1⟩
  rw [hok]
  have B1 := bthen (below2 _ _ _) hb1
  have y1 : Blk w1 (w.heap.size + 1) 28 #[.int .i64 0, .slice none 0 0, .slice none 0 0] := by
    have := (Blk.new (w.alloc (Obj.cells #[Value.int IntKind.i64 r.1.1, Value.slice A r.1.2.length c, Value.slice A2 r.2.length c2] 28)) 28 #[.int .i64 0, .slice none 0 0, .slice none 0 0]).below hb1 (by simp)
    simpa using this
  have k0 : w1.cell? ⟨w.heap.size + 1, 0, none⟩ = some (.int .i64 0) := y1.cell 0
  have k1 : w1.cell? ⟨w.heap.size + 1, 1, none⟩ = some (.slice none 0 0) := y1.cell 1
  have k2 : w1.cell? ⟨w.heap.size + 1, 2, none⟩ = some (.slice none 0 0) := y1.cell 2
  have j0 := y1.frozen 0
  have j1 := y1.frozen 1
  have j2 := y1.frozen 2
  clear hb1
  go_wp2_with (fail)
  obtain ⟨W, hW⟩ : ∃ W, W = ((w1.setCell ⟨w.heap.size + 1, 0, none⟩ (.int .i64 0)).setCell ⟨w.heap.size + 1, 1, none⟩ (.slice none 0 0)).setCell ⟨w.heap.size + 1, 2, none⟩ (.slice none 0 0) := ⟨_, rfl⟩
  have HY : Blk W (w.heap.size + 1) 28 #[.int .i64 0, .slice none 0 0, .slice none 0 0] := by rw [hW]; exact y1.set3 _ _ _
  have BW : Below w.heap.size w W := by
    rw [hW]
    exact (((B1.setCell (by simp) _).setCell (by simp) _).setCell (by simp) _)
  rw [← hW]
  clear hW
  have d0 : W.cell? ⟨w.heap.size + 1, 0, none⟩ = some (.int .i64 0) := HY.cell 0
  have d1 : W.cell? ⟨w.heap.size + 1, 1, none⟩ = some (.slice none 0 0) := HY.cell 1
  have d2 : W.cell? ⟨w.heap.size + 1, 2, none⟩ = some (.slice none 0 0) := HY.cell 2
  exact bodyPost_ret (v := .agg #[.int .i64 0, .slice none 0 0, .slice none 0 0]) (by simp [results, Tryd.results12, go_sem, d0, d1, d2]) rfl ⟨rfl, BW⟩

theorem LvLits.length {w : World} {lo hi : Nat} {v : Value} {ls : List LLit} {ps : List Addr} (h : LvLits w lo hi v ls ps) : ps.length = 2 * ls.length + totL ls := by
  obtain ⟨A, c, rfl, hc, h0, h⟩ := h
  rcases Nat.eq_zero_or_pos ls.length with hz | hp
  · rw [h0 hz, List.eq_nil_of_length_eq_zero hz]
    simp [totL]
  · obtain ⟨b, o, qs, rfl, h1, h2, rfl, hx⟩ := h hp
    have : ∀ j, j ≤ ls.length → (preL (litEl b o qs) j).length = 2 * j + totL (ls.take j) := by
      intro j
      induction j with
      | zero => intro _; simp [preL_zero, totL]
      | succ j ih =>
        intro hj
        obtain ⟨_, x, y, u2, _, _, _, hI⟩ := hx j (by omega)
        rw [preL_succ, List.length_append, ih (by omega), litEl_len hI, totL_take ls j (by omega)]
        omega
    have := this ls.length (Nat.le_refl _)
    rwa [List.take_length] at this
theorem LvRule.length {w : World} {lo hi : Nat} {v : Value} {r : LRule} {ps : List Addr} (h : LvRule w lo hi v r ps) : ps.length ≤ 2 * szR r := by
  obtain ⟨p, a, b, qs, rs, rfl, rfl, ⟨_, _, _, _, hl, _⟩, h2⟩ := h
  rw [List.length_append, hl, h2.length]
  unfold szR
  omega

theorem implRenamed_any (v : Value) (r : LRule) (w : World) (h : RdRule w w.heap.size v r) (hr : szR r ≤ 1048576) :
    Calls Tryd.prog 12 #[v] w fun e w' => ∃ A c A2 c2 lo hi ps, e = .returned (.agg #[.int .i64 (renamed r).1.1, .slice A (renamed r).1.2.length c, .slice A2 (renamed r).2.length c2]) ∧
      (OwnInts w' lo hi (.slice A (renamed r).1.2.length c) (renamed r).1.2 ∧ OwnLits w' lo hi (.slice A2 (renamed r).2.length c2) (renamed r).2) ∧
      LvRule w' lo hi (.agg #[.int .i64 (renamed r).1.1, .slice A (renamed r).1.2.length c, .slice A2 (renamed r).2.length c2]) (renamed r) ps ∧ ps.Nodup ∧ w.heap.size ≤ lo ∧ hi ≤ w'.heap.size ∧ Below w.heap.size w w' := by
  cases hok : termsOk r
  · refine (implRenamed_no v r w h hr hok).mono ?_
    rintro e w' ⟨rfl, hb⟩
    rw [renamed_no hok]
    exact ⟨none, 0, none, 0, w.heap.size, w'.heap.size, [], rfl, ⟨⟨World.ownsRow_nil _ _ _ _, fun g hg => by cases hg⟩, ⟨none, 0, rfl, Nat.le_refl _, fun hn => absurd hn (by simp)⟩⟩,
      ⟨0, _, _, [], [], rfl, rfl, ⟨none, 0, rfl, Nat.le_refl _, rfl, fun hn => absurd hn (by simp)⟩, ⟨none, 0, rfl, Nat.le_refl _, fun _ => rfl, fun hn => absurd hn (by simp)⟩⟩, List.nodup_nil, Nat.le_refl _, Nat.le_refl _, hb⟩
  · exact implRenamed_yes v r w h hr hok

end Go.Proofs.YtfjmnjemmfmoaaaDoor
/-
  A row of literals that grows: the words; the specification's renaming: the walk of l2Rule.
-/
namespace Go.Proofs.YtfjmnjemmfmoaaaDoor
open Go.RowKit

/-- The cells of literals, a literal's three behind each other. -/
def flatL : List LLit → List Value → List Value
  | l :: ls, u :: us => .int .i64 l.1 :: .int .i64 l.2.1 :: u :: flatL ls us
  | _, _ => []
theorem flatL_length : ∀ (ls : List LLit) (us : List Value), us.length = ls.length → (flatL ls us).length = ls.length * 3
  | [], _, _ => by simp [flatL]
  | l :: ls, [], h => by simp at h
  | l :: ls, u :: us, h => by
    have := flatL_length ls us (by simpa using h)
    simp only [flatL, List.length_cons, this]
    omega
theorem flatL_at : ∀ (ls : List LLit) (us : List Value) (_ : us.length = ls.length) (k : Nat) (hk : k < ls.length) (hk' : k < us.length),
    (flatL ls us)[k * 3]? = some (.int .i64 ls[k].1) ∧ (flatL ls us)[k * 3 + 1]? = some (.int .i64 ls[k].2.1) ∧ (flatL ls us)[k * 3 + 2]? = some us[k]
  | [], _, _, k, hk, _ => absurd hk (by simp)
  | l :: ls, [], h, _, _, _ => by simp at h
  | l :: ls, u :: us, h, 0, _, _ => by simp [flatL]
  | l :: ls, u :: us, h, k + 1, hk, hk' => by
    have := flatL_at ls us (by simpa using h) k (by simpa using hk) (by simpa using hk')
    simpa [flatL, Nat.add_mul] using this
theorem flatL_snoc : ∀ (ls : List LLit) (us : List Value) (_ : us.length = ls.length) (l : LLit) (u : Value), flatL (ls ++ [l]) (us ++ [u]) = flatL ls us ++ [.int .i64 l.1, .int .i64 l.2.1, u]
  | [], [], _, l, u => by simp [flatL]
  | [], u' :: us, h, _, _ => by simp at h
  | l :: ls, [], h, _, _ => by simp at h
  | l :: ls, u :: us, h, m, b => by simp [flatL, flatL_snoc ls us (by simpa using h) m b]

/-- A row of literals of the call's own that grows, with its rows of integers us, in blocks from base on. -/
structure ColL (base : Nat) (wr : World) (ls : List LLit) (A : Option Addr) (c : Nat) (us : List Value) : Prop where
  len : us.length = ls.length
  own : ∀ i (h : i < ls.length) (h' : i < us.length), OwnInts wr base wr.heap.size us[i] ls[i].2.2
  row : wr.ownsRow base 73 3 (.slice A ls.length c) ls.length (flatL ls us)
section
variable {base : Nat} {wr w2 w4 : World} {ls : List LLit} {A : Option Addr} {c : Nat} {us : List Value}
theorem ColL.nil (base : Nat) (w : World) : ColL base w [] none 0 [] := ⟨rfl, fun i h => absurd h (by simp), by simpa [flatL] using World.ownsRow_nil w base 73 3⟩
theorem ColL.below (h : ColL base wr ls A c us) (hb : Below wr.heap.size wr w2) : ColL base w2 ls A c us :=
  ⟨h.len, fun i h1 h2 => ((h.own i h1 h2).below hb (Nat.le_refl _)).mono (Nat.le_refl _) hb.size, ownsRow_only h.row fun g hg => hb.block g (h.row.lt g hg).2⟩
theorem int_ne_lit {n : Nat} {v a : Value} {zs : List Value} {xs : List Int} {lo hi g : Nat} (hr : wr.ownsRow base 73 3 v n zs) (hv : v.ownBlock = some g) (ha : OwnInts wr lo hi a xs) : a.ownBlock ≠ some g := by
  rcases hr.2 with ⟨rfl, _⟩ | ⟨g1, c1, cur1, rfl, _, h1, _⟩
  · cases hv
  · have e : g1 = g := by simpa [Value.ownBlock] using hv
    subst e
    rcases ha.1.2 with ⟨rfl, _⟩ | ⟨g2, c2, cur2, rfl, _, h2, _⟩
    · simp [Value.ownBlock]
    · intro e
      have e : g2 = g1 := by simpa [Value.ownBlock] using e
      subst e
      rw [h1] at h2
      injection h2 with h2
      injection h2 with _ h2
      exact absurd h2 (by decide)
/-- One more literal. -/
theorem ColL.push {l : LLit} {u : Value} {g cap : Nat} {o : Obj} (h : ColL base wr ls A c us) (hb : Below wr.heap.size wr w2) (hu : OwnInts w2 base w2.heap.size u l.2.2)
    (hg : (w2.alloc o).grownBy w4 (Value.slice A ls.length c).ownBlock) (hown : w4.ownsRow base 73 3 (.slice (some ⟨g, 0, none⟩) (ls.length + 1) cap) (ls.length + 1) (flatL ls us ++ [.int .i64 l.1, .int .i64 l.2.1, u])) :
    ColL base w4 (ls ++ [l]) (some ⟨g, 0, none⟩) cap (us ++ [u]) := by
  have h2 := h.below hb
  have hg2 := grown_from_alloc hg
  have hl : (ls ++ [l]).length = ls.length + 1 := by simp
  have keep : ∀ {v : Value} {xs : List Int}, OwnInts w2 base w2.heap.size v xs → OwnInts w4 base w4.heap.size v xs := fun {v xs} hv =>
    (hv.kept (fun b hb' => hg2.block b (hv.lt hb').2.2 (fun e => int_ne_lit h2.row e.symm hv hb'))).mono (Nat.le_refl _) hg2.size
  refine ⟨by simp [h.len], fun i h1 h3 => ?_, ?_⟩
  · by_cases e : i < ls.length
    · have e' : i < us.length := by rw [h.len]; exact e
      rw [List.getElem_append_left e', List.getElem_append_left e]
      exact keep (h2.own i e e')
    · have e2 : i = ls.length := by simp at h1; omega
      subst e2
      simp [← h.len]
      simpa using keep hu
  · rw [hl, flatL_snoc ls us h.len]
    exact hown
theorem ColL.lits (h : ColL base wr ls A c us) (hn : ls.length ≤ c) : OwnLits wr base wr.heap.size (.slice A ls.length c) ls := by
  have hcells := @World.ownsRow.cells wr base 73 3 (.slice A ls.length c) ls.length (flatL ls us) h.row
  have hlt := h.row.lt
  have hl := h.len
  refine ⟨A, c, rfl, hn, fun hpos => ?_⟩
  rcases h.row.2 with ⟨e, h0⟩ | ⟨g, cap, cur, e, hb, hgg, _⟩
  · omega
  · injection e with e1 _ e3
    subst e1
    refine ⟨g, 0, rfl, hb, (hlt g rfl).2, fun k hk => ⟨⟨by simp [World.frozen?, hgg], by simp [World.frozen?, hgg]⟩, ?_⟩⟩
    obtain ⟨c0, c1, c2⟩ := flatL_at ls us hl k hk (by omega)
    have d0 := hcells (g := g) rfl _ _ c0
    have d1 := hcells (g := g) rfl _ _ c1
    have d2 := hcells (g := g) rfl _ _ c2
    rw [Go.WideShapes.add_plain] at d0 d1 d2
    exact ⟨_, _, _, d0, d1, d2, rfl, rfl, h.own k hk (by omega)⟩
theorem ColL.set {p : Addr} (h : ColL base wr ls A c us) (hp : p.block < base) (u : Value) : ColL base (wr.setCell p u) ls A c us :=
  ⟨h.len, fun i h1 h2 => ((h.own i h1 h2).set (.inl hp) u).mono (Nat.le_refl _) (by simp), ownsRow_only h.row fun g hg => Below.heap_setCell _ _ _ _ (by have := (h.row.lt g hg).1; omega)⟩
theorem ColL.cap (h : ColL base wr ls A c us) : ls.length ≤ c := by
  rcases h.row.2 with ⟨e, h0⟩ | ⟨g, cap, cur, e, hb, hgg, hn, _⟩
  · injection e with _ _ e
    omega
  · injection e with _ _ e
    omega
end

set_option maxHeartbeats 4000000 in
set_option maxRecDepth 100000 in
theorem l2Rule_any (s : Ren) (g : Nat) (v : Value) (r : LRule) (w : World) (hT : ToAt w g s) (h : RdRule w w.heap.size v r) (hr : szR r ≤ 1048576) (hok : termsOk r = true) :
    Calls Tryd.prog 62 #[v, .slice (some ⟨g, 0, none⟩) 4 4] w fun e w' => ∃ A c A2 c2, e = .returned (.agg #[.int .i64 r.1.1, .slice A r.1.2.length c, .slice A2 r.2.length c2]) ∧
      OwnInts w' w.heap.size w'.heap.size (.slice A r.1.2.length c) (r.1.2.map (look s)) ∧ OwnLits w' w.heap.size w'.heap.size (.slice A2 r.2.length c2) (r.2.map (lookLit s)) ∧ Below w.heap.size w w' := by
  obtain ⟨i0, hi0, hz0, hz1, hz2⟩ := info_parts Tryd.infoLit
  obtain ⟨a, b, rfl, h, h2⟩ := h
  have hok' := hok
  unfold termsOk at hok'
  simp only [Bool.and_eq_true] at hok'
  unfold szR at hr
  have HT := Lib.hid hT
  have hgw := hT.lt
  have H := Lib.hid h
  have H2 := Lib.hid h2
  obtain ⟨A, c, rfl, hc, _⟩ := h
  obtain ⟨A2, c2, rfl, hcc, _⟩ := h2
  clear hT
  go_enter Tryd.func62, Tryd.ntmps62
  go_wp2_with (fail)
  refine (l2Atom_any s g r.1.1 _ r.1.2 _ (HT.out.below (below2 _ _ _) hgw) (H.out.on (below2 _ _ _)) (by omega) hok'.2).mono ?_
  rintro e w1 ⟨A3, c3, rfl, ho1, hb1⟩
  have B1 := bthen (below2 _ _ _) hb1
  have s1 : w.heap.size + 2 ≤ w1.heap.size := by have := hb1.size; simp at this; exact this
  have x1 : Blk w1 w.heap.size 28 #[.int .i64 r.1.1, .slice A r.1.2.length c, .slice A2 r.2.length c2] := ((Blk.new w _ _).alloc _).below hb1 (by simp; omega)
  have y1 : Blk w1 (w.heap.size + 1) 28 #[.int .i64 0, .slice none 0 0, .slice none 0 0] := by
    have := (Blk.new (w.alloc (Obj.cells #[Value.int IntKind.i64 r.1.1, Value.slice A r.1.2.length c, Value.slice A2 r.2.length c2] 28)) 28 #[.int .i64 0, .slice none 0 0, .slice none 0 0]).below hb1 (by simp)
    simpa using this
  have hgw1 : g < w1.heap.size := by omega
  have T1 := HT.out.below B1 hgw
  have O1 : OwnInts w1 (w.heap.size + 2) w1.heap.size (.slice A3 r.1.2.length c3) (r.1.2.map (look s)) := by simpa using ho1
  clear hb1 ho1
  go_wp2_with (fail)
  obtain ⟨w2, hw2⟩ : ∃ w2, w2 = w1.alloc (Obj.cells #[Value.int IntKind.i64 r.1.1, Value.slice A3 r.1.2.length c3, Value.slice none 0 0] 28) := ⟨_, rfl⟩
  have b2 : Below w1.heap.size w1 w2 := by rw [hw2]; exact below1 _ _
  have o2 : Blk w2 w1.heap.size 28 #[.int .i64 r.1.1, .slice A3 r.1.2.length c3, .slice none 0 0] := by rw [hw2]; exact Blk.new _ _ _
  rw [← hw2]
  clear hw2
  obtain ⟨ms, hms⟩ : ∃ ms, ms = r.2.map (lookLit s) := ⟨_, rfl⟩
  have hml : ms.length = r.2.length := by rw [hms]; simp
  have hmk : ∀ k (hk : k < r.2.length) (hk' : k < ms.length), ms[k] = lookLit s r.2[k] := fun k hk hk' => by simp [hms]
  have HML := Lib.hid hml
  have HMK := Lib.hid hmk
  have HMS := Lib.hid hms
  clear hml hmk hms
  go_loopw [6] (fun i wr => ∃ (k : Nat) (A' : Option Addr) (c' : Nat) (us : List Value), k ≤ r.2.length ∧ i = .int .i64 k ∧ ColL (w1.heap.size + 1) wr (ms.take k) A' c' us ∧ Blk wr w1.heap.size 28 #[.int .i64 r.1.1, .slice A3 r.1.2.length c3, .slice A' k c'] ∧ Below w1.heap.size w1 wr)
    (fun i _ => r.2.length - (intOf i).toNat)
  case atStart => exact ⟨0, none, 0, [], Nat.zero_le _, rfl, by simpa using ColL.nil _ _, o2, b2⟩
  case round =>
    obtain ⟨k, A', c', us, hk, rfl, hcol, ho, hbe⟩ := hrel
    have BW := bthen B1 hbe
    have xr := x1.below hbe x1.lt
    have yr := y1.below hbe y1.lt
    have Tr := T1.below hbe hgw1
    have hkl : (ms.take k).length = k := by rw [List.length_take, HML.out]; omega
    have q2 : wr.cell? ⟨w.heap.size, 2, none⟩ = some (.slice A2 r.2.length c2) := xr.cell 2
    have n2 : wr.cell? ⟨w1.heap.size, 2, none⟩ = some (.slice A' k c') := ho.cell 2
    by_cases hlt : k < r.2.length
    · obtain ⟨b, o, u0, u1, u2, rfl, hbB, k0, k1, k2, rfl, rfl, p3⟩ := (H2.out.on BW).get hlt
      have HP := Lib.hid p3
      obtain ⟨A4, c4, rfl, hc4, _⟩ := p3
      have hle := len_le_totL r.2 k hlt
      have hok3 := List.all_eq_true.1 hok'.1 _ (List.getElem_mem hlt)
      have HCO := Lib.hid hcol
      clear hcol
      go_upto_region 5 with fail
      obtain ⟨SS, hSS⟩ : ∃ SS : World → Prop, SS = (fun W => Below wr.heap.size wr W ∧ W.cell? ⟨w1.heap.size, 2, none⟩ = some (.slice A' k c') ∧ W.cell? ⟨w.heap.size, 2, none⟩ = some (.slice (some ⟨b, o, none⟩) r.2.length c2) ∧ W.cell? ⟨b, o + k * 3, none⟩ = some (.int .i64 r.2[k].1) ∧ W.cell? ⟨b, o + k * 3 + 1, none⟩ = some (.int .i64 r.2[k].2.1) ∧ W.cell? ⟨b, o + k * 3 + 2, none⟩ = some (.slice A4 r.2[k].2.2.length c4)) := ⟨_, rfl⟩
      have HS := Lib.hid (show ∀ W, Below wr.heap.size wr W → SS W from by
        rw [hSS]
        exact fun W hW => ⟨hW, (hW.cell (by exact ho.lt)).trans n2, (hW.cell (by exact xr.lt)).trans q2, (hW.cell (by exact World.block_lt_of_cell? _ _ k0)).trans k0, (hW.cell (by exact World.block_lt_of_cell? _ _ k1)).trans k1, (hW.cell (by exact World.block_lt_of_cell? _ _ k2)).trans k2⟩)
      have HB := Lib.hid (show ∀ W, SS W → (Below wr.heap.size wr W ∧ W.cell? ⟨w1.heap.size, 2, none⟩ = some (.slice A' k c') ∧ W.cell? ⟨w.heap.size, 2, none⟩ = some (.slice (some ⟨b, o, none⟩) r.2.length c2) ∧ W.cell? ⟨b, o + k * 3, none⟩ = some (.int .i64 r.2[k].1) ∧ W.cell? ⟨b, o + k * 3 + 1, none⟩ = some (.int .i64 r.2[k].2.1) ∧ W.cell? ⟨b, o + k * 3 + 2, none⟩ = some (.slice A4 r.2[k].2.2.length c4)) from by rw [hSS]; exact fun W hW => hW)
      clear hSS
      have hkz : (0 : Int) ≤ (k : Int) := by omega
      have hki : (k : Int) < (r.2.length : Int) := by omega
      refine wp_region_rel SS 18 21 (by kernel_rfl) rfl ?_
      have S0 := Lib.hid (HS.out _ (Below.refl _ _).drew)
      refine wpAnyR_pure (i := 0) (oi := _) ?v0 rfl rfl (by kernel_rfl) (by decide) (fun _ _ _ h => h) rfl ?hy0 (fun _ => S0.out) ?rest0
      case hy0 => (intro W; go_simp; (try with_reducible rfl))
      simp only [List.setIfInBounds_toArray, List.set_cons_zero, List.set_cons_succ]
      refine wpAnyR_take (i := 1) (oi := _) ?v1 rfl rfl (by kernel_rfl) (fun _ _ _ h => h) rfl ?hy1 S0.out ?rest1
      case hy1 => (intro W hW; obtain ⟨_, e1, e2, e3, e4, e5⟩ := HB.out W hW; go_simp; (try with_reducible rfl))
      simp only [List.setIfInBounds_toArray, List.set_cons_zero, List.set_cons_succ]
      refine wpAnyR_pure (i := 2) (oi := _) ?v2 rfl rfl (by kernel_rfl) (by decide) (fun _ _ _ h => h) rfl ?hy2 (fun _ => S0.out) ?rest2
      case hy2 => (intro W; go_simp; (try with_reducible rfl))
      simp only [List.setIfInBounds_toArray, List.set_cons_zero, List.set_cons_succ]
      refine wpAnyR_take (i := 3) (oi := _) ?v3 rfl rfl (by kernel_rfl) (fun _ _ _ h => h) rfl ?hy3 S0.out ?rest3
      case hy3 => (intro W hW; obtain ⟨_, e1, e2, e3, e4, e5⟩ := HB.out W hW; go_simp; (try with_reducible rfl))
      simp only [List.setIfInBounds_toArray, List.set_cons_zero, List.set_cons_succ]
      refine wpAnyR_pure (i := 4) (oi := _) ?v4 rfl rfl (by kernel_rfl) (by decide) (fun _ _ _ h => h) rfl ?hy4 (fun _ => S0.out) ?rest4
      case hy4 => (intro W; go_simp; (try with_reducible rfl))
      simp only [List.setIfInBounds_toArray, List.set_cons_zero, List.set_cons_succ]
      refine wpAnyR_pure (i := 5) (oi := _) ?v5 rfl rfl (by kernel_rfl) (by decide) (fun _ _ _ h => h) rfl ?hy5 (fun _ => S0.out) ?rest5
      case hy5 => (intro W; go_simp; (try with_reducible rfl))
      simp only [List.setIfInBounds_toArray, List.set_cons_zero, List.set_cons_succ]
      refine wpAnyR_pure (i := 6) (oi := _) ?v6 rfl rfl (by kernel_rfl) (by decide) (fun _ _ _ h => h) rfl ?hy6 (fun _ => S0.out) ?rest6
      case hy6 => (intro W; go_simp; (try with_reducible rfl))
      simp only [List.setIfInBounds_toArray, List.set_cons_zero, List.set_cons_succ]
      refine wpAnyR_take (i := 7) (oi := _) ?v7 rfl rfl (by kernel_rfl) (fun _ _ _ h => h) rfl ?hy7 S0.out ?rest7
      case hy7 => (intro W hW; obtain ⟨_, e1, e2, e3, e4, e5⟩ := HB.out W hW; go_simp; (try with_reducible rfl))
      simp only [List.setIfInBounds_toArray, List.set_cons_zero, List.set_cons_succ]
      refine wpAnyR_pure (i := 8) (oi := _) ?v8 rfl rfl (by kernel_rfl) (by decide) (fun _ _ _ h => h) rfl ?hy8 (fun _ => S0.out) ?rest8
      case hy8 => (intro W; go_simp; (try with_reducible rfl))
      simp only [List.setIfInBounds_toArray, List.set_cons_zero, List.set_cons_succ]
      refine wpAnyR_take (i := 9) (oi := _) ?v9 rfl rfl (by kernel_rfl) (fun _ _ _ h => h) rfl ?hy9 S0.out ?rest9
      case hy9 => (intro W hW; obtain ⟨_, e1, e2, e3, e4, e5⟩ := HB.out W hW; go_simp; (try with_reducible rfl))
      simp only [List.setIfInBounds_toArray, List.set_cons_zero, List.set_cons_succ]
      refine wpAnyR_pure (i := 10) (oi := _) ?v10 rfl rfl (by kernel_rfl) (by decide) (fun _ _ _ h => h) rfl ?hy10 (fun _ => S0.out) ?rest10
      case hy10 => (intro W; go_simp; (try with_reducible rfl))
      simp only [List.setIfInBounds_toArray, List.set_cons_zero, List.set_cons_succ]
      refine wpAnyR_pure (i := 11) (oi := _) ?v11 rfl rfl (by kernel_rfl) (by decide) (fun _ _ _ h => h) rfl ?hy11 (fun _ => S0.out) ?rest11
      case hy11 => (intro W; go_simp; (try with_reducible rfl))
      simp only [List.setIfInBounds_toArray, List.set_cons_zero, List.set_cons_succ]
      refine wpAnyR_pure (i := 12) (oi := _) ?v12 rfl rfl (by kernel_rfl) (by decide) (fun _ _ _ h => h) rfl ?hy12 (fun _ => S0.out) ?rest12
      case hy12 => (intro W; go_simp; (try with_reducible rfl))
      simp only [List.setIfInBounds_toArray, List.set_cons_zero, List.set_cons_succ]
      refine wpAnyR_take (i := 13) (oi := _) ?v13 rfl rfl (by kernel_rfl) (fun _ _ _ h => h) rfl ?hy13 S0.out ?rest13
      case hy13 => (intro W hW; obtain ⟨_, e1, e2, e3, e4, e5⟩ := HB.out W hW; go_simp; (try with_reducible rfl))
      simp only [List.setIfInBounds_toArray, List.set_cons_zero, List.set_cons_succ]
      refine wpAnyR_pure (i := 14) (oi := _) ?v14 rfl rfl (by kernel_rfl) (by decide) (fun _ _ _ h => h) rfl ?hy14 (fun _ => S0.out) ?rest14
      case hy14 => (intro W; go_simp; (try with_reducible rfl))
      simp only [List.setIfInBounds_toArray, List.set_cons_zero, List.set_cons_succ]
      refine wpAnyR_one (i := 15) (by kernel_rfl) rfl (fun K hK => ?_)
      go_simp
      refine (l2Atom_any s g r.2[k].2.1 _ r.2[k].2.2 _ (Tr.below (Below.refl _ _).drew (by omega)) (HP.out.on (Below.refl _ _).drew) (by omega) hok3).mono ?_
      rintro e W4 ⟨A6, c6, rfl, ho6, hb6⟩
      have hb4 : Below wr.heap.size wr W4 := bthen (Below.refl _ _).drew hb6
      have S1 := Lib.hid (HS.out _ hb4)
      refine hK.out _ _ (fun _ => S1.out) ?_
      clear hK K
      try simp only [List.setIfInBounds_toArray, List.set_cons_zero, List.set_cons_succ, Act.put]
      refine wpAnyR_pure (i := 16) (oi := _) ?v16 rfl rfl (by kernel_rfl) (by decide) (fun _ _ _ h => h) rfl ?hy16 (fun _ => S1.out) ?rest16
      case hy16 => (intro W; go_simp; (try with_reducible rfl))
      simp only [List.setIfInBounds_toArray, List.set_cons_zero, List.set_cons_succ]
      refine wpAnyR_one (i := 17) (by kernel_rfl) rfl (fun K hK => ?_)
      go_simp
      refine hK.out _ _ (fun _ => HS.out _ (bthen hb4 (below1 _ _))) ?_
      clear hK K
      refine wpAnyR_one (i := 18) (by kernel_rfl) rfl (fun K hK => ?_)
      refine step_append_lies _ rfl (.tmp 20) (.tmp 36) 26 rfl (w1.heap.size + 1) 73 i0 (.agg #[.int .i64 0, .int .i64 0, .slice none 0 0]) 3 40 Tryd.underlying26 hi0 hz0 hz1 hz2 rfl (by decide) (.slice A' k c') k (flatL (ms.take k) us) rfl ?c1 ⟨W4.heap.size, 0, none⟩ 1 1 [.int .i64 r.2[k].1, .int .i64 r.2[k].2.1, .slice A6 r.2[k].2.2.length c6] rfl rfl ?c4 ?c2 (by omega) (by unfold maxLen; omega) (by omega) ?c3 _ rfl ?c5
      case c1 => have := ((HCO.out.below hb4).row); rw [hkl] at this; exact this.alloc _
      case c4 => exact World.news_of_block (cs := #[.int .i64 r.2[k].1, .int .i64 r.2[k].2.1, .slice A6 r.2[k].2.2.length c6]) (heap_alloc_new W4 _)
      case c2 =>
        intro u hu
        simp only [List.mem_cons, List.not_mem_nil, or_false] at hu
        rcases hu with rfl | rfl | rfl <;> rfl
      case c3 => have := hb4.size; have := hbe.size; simp; omega
      case c5 =>
        intro g2 cap w7 hown hg _ _
        have hkm : k < ms.length := by rw [HML.out]; exact hlt
        have hcol2 := HCO.out.push (l := ms[k]) (u := .slice A6 r.2[k].2.2.length c6) (g := g2) (cap := cap) hb4 (by rw [HMK.out k hlt hkm]; exact ho6.mono (by have := hbe.size; show w1.heap.size + 1 ≤ wr.heap.size; have := ho.lt; omega) (Nat.le_refl _)) (by rw [hkl]; exact hg) (by rw [hkl, HMK.out k hlt hkm]; exact hown)
        rw [← take_snoc ms k hkm] at hcol2
        have hg2 := grown_from_alloc hg
        have ho4 := ho.below hb4 ho.lt
        have hrow4 := (HCO.out.below hb4).row
        rw [hkl] at hrow4
        have hne : (Value.slice A' k c').ownBlock ≠ some w1.heap.size := blk_ne_own hrow4 ho4 (by decide)
        have ho7 : Blk w7 w1.heap.size 28 #[.int .i64 r.1.1, .slice A3 r.1.2.length c3, .slice A' k c'] := (hg2.block _ ho4.lt (fun e => hne e.symm)).trans ho4
        have hB7 : Below w1.heap.size w1 w7 := (bthen hbe hb4).grown hg2 (by have := hb4.size; have := hbe.size; omega) (fun b hb => by have := (hrow4.lt b hb).1; omega)
        have HC := Lib.hid (And.intro hcol2 (And.intro ho7 hB7))
        have e1 : w7.cell? ⟨w1.heap.size, 2, none⟩ = some (.slice A' k c') := ho7.cell 2
        have e2 := ho7.frozen 2
        clear hcol2 hg2 ho4 hrow4 hne ho7 hB7 hown hg
        refine hK.out _ _ (fun hf => absurd hf (by decide)) ?_
        clear hK K
        simp only [List.setIfInBounds_toArray, Act.put]
        refine wpAnyR_pure (i := 19) (oi := _) ?v19 rfl rfl (by kernel_rfl) (by decide) (fun _ _ _ h => h) rfl ?hy19 (fun hf => absurd hf (by decide)) ?rest19
        case hy19 => (intro W; go_simp; (try with_reducible rfl))
        refine wpAnyR_one (i := 20) (by kernel_rfl) rfl (fun K hK => ?_)
        go_simp
        refine hK.out _ _ (fun hf => absurd hf (by decide)) ?_
        clear hK K
        refine wpAnyR_done (by kernel_rfl) ?_
        go_wp2_with (fail)
        go_roundw
        case rel =>
          obtain ⟨hcol2, ho7, hB7⟩ := HC.out
          exact ⟨k + 1, _, _, _, by omega, by go_num, hcol2.set (p := ⟨w1.heap.size, 2, none⟩) (Nat.lt_succ_self _) _, by simpa using ho7.set_ 2 (.slice (some ⟨g2, 0, none⟩) (k + 1) cap), hB7.setCell (p := ⟨w1.heap.size, 2, none⟩) (Nat.le_refl _) _⟩
        case measure => simp [intOf]; omega
    · obtain rfl : k = r.2.length := by omega
      have htk : ms.take r.2.length = ms := by rw [← HML.out, List.take_length]
      rw [htk] at hcol
      have n0 : wr.cell? ⟨w1.heap.size, 0, none⟩ = some (.int .i64 r.1.1) := ho.cell 0
      have n1 : wr.cell? ⟨w1.heap.size, 1, none⟩ = some (.slice A3 r.1.2.length c3) := ho.cell 1
      have k0 : wr.cell? ⟨w.heap.size + 1, 0, none⟩ = some (.int .i64 0) := yr.cell 0
      have k1 : wr.cell? ⟨w.heap.size + 1, 1, none⟩ = some (.slice none 0 0) := yr.cell 1
      have k2 : wr.cell? ⟨w.heap.size + 1, 2, none⟩ = some (.slice none 0 0) := yr.cell 2
      have j0 := yr.frozen 0
      have j1 := yr.frozen 1
      have j2 := yr.frozen 2
      have hlits := hcol.lits hcol.cap
      have hOI := O1.below hbe (Nat.le_refl _)
      obtain ⟨W, hW⟩ : ∃ W, W = ((wr.setCell ⟨w.heap.size + 1, 0, none⟩ (.int .i64 r.1.1)).setCell ⟨w.heap.size + 1, 1, none⟩ (.slice A3 r.1.2.length c3)).setCell ⟨w.heap.size + 1, 2, none⟩ (.slice A' r.2.length c') := ⟨_, rfl⟩
      have HY := Lib.hid (show Blk W (w.heap.size + 1) 28 #[.int .i64 r.1.1, .slice A3 r.1.2.length c3, .slice A' r.2.length c'] by rw [hW]; exact yr.set3 _ _ _)
      have BWW : Below w.heap.size w W := by
        rw [hW]
        exact (((BW.setCell (by simp) _).setCell (by simp) _).setCell (by simp) _)
      have hOW : OwnInts W (w.heap.size + 2) w1.heap.size (.slice A3 r.1.2.length c3) (r.1.2.map (look s)) := by
        rw [hW]
        exact hOI.set3 (by omega) _ _ _
      have hsW : W.heap.size = wr.heap.size := by rw [hW]; simp
      have hLW : OwnLits W (w1.heap.size + 1) wr.heap.size (.slice A' ms.length c') ms := by
        rw [hW]
        exact ((hlits.far (p := ⟨w.heap.size + 1, 0, none⟩) (by simp; omega) _).far (p := ⟨w.heap.size + 1, 1, none⟩) (by simp; omega) _).far (p := ⟨w.heap.size + 1, 2, none⟩) (by simp; omega) _
      have HF := Lib.hid (And.intro (hOW.mono (show w.heap.size ≤ w.heap.size + 2 by omega) (show w1.heap.size ≤ W.heap.size by have := hbe.size; omega)) (And.intro (hLW.mono (show w.heap.size ≤ w1.heap.size + 1 by omega) (show wr.heap.size ≤ W.heap.size by omega)) BWW))
      have HWW := Lib.hid hW
      clear hW hLW hsW hOW BWW hOI hlits hcol htk ho
      go_wp2_with (fail)
      rw [← HWW.out]
      have d0 : W.cell? ⟨w.heap.size + 1, 0, none⟩ = some (.int .i64 r.1.1) := HY.out.cell 0
      have d1 : W.cell? ⟨w.heap.size + 1, 1, none⟩ = some (.slice A3 r.1.2.length c3) := HY.out.cell 1
      have d2 : W.cell? ⟨w.heap.size + 1, 2, none⟩ = some (.slice A' r.2.length c') := HY.out.cell 2
      refine bodyPost_ret (v := .agg #[.int .i64 r.1.1, .slice A3 r.1.2.length c3, .slice A' r.2.length c']) (by simp [results, Tryd.results62, go_sem, d0, d1, d2]) rfl ?_
      obtain ⟨h1, h2, h3⟩ := HF.out
      refine ⟨_, _, A', c', rfl, h1, ?_, h3⟩
      have e2 : ms.length = r.2.length := HML.out
      rw [e2] at h2
      rw [HMS.out] at h2
      exact h2

end Go.Proofs.YtfjmnjemmfmoaaaDoor
