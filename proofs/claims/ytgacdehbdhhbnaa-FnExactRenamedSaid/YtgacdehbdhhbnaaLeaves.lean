/-
  Marks on results, read again: the numbers lie in cells that a list names, each once. The words, and the walks of markIntS, heldIntS over such lists.
-/
import Derived.Test.YtgacdehbdhhbnaaWrites
namespace Go.Proofs.Ytgacdehbdhhbnaa
open Go.RowKit

/-- The cells ps hold k, k + 1, .. -/
def HoldsFrom (w : World) (k : Int) (ps : List Addr) : Prop := ∀ i (h : i < ps.length), w.cell? ps[i] = some (.int .i64 (k + (i : Int)))
/-- The cells ps hold k, k + 1, ..; the others are as they were. -/
structure SeqAt (lo hi : Nat) (k : Int) (ps : List Addr) (w w' : World) : Prop where
  marked : Marked lo hi w w'
  holds : HoldsFrom w' k ps
  other : ∀ p : Addr, p.block < w.heap.size → p ∉ ps → w'.cell? p = w.cell? p

section
variable {lo hi : Nat} {w w1 w' : World} {k : Int} {ps qs : List Addr}
theorem HoldsFrom.nil : HoldsFrom w k [] := fun i h => absurd h (by simp)
theorem HoldsFrom.left (h : HoldsFrom w k (ps ++ qs)) : HoldsFrom w k ps := fun i hi => by
  have := h i (by simp; omega)
  rwa [List.getElem_append_left hi] at this
theorem HoldsFrom.right (h : HoldsFrom w k (ps ++ qs)) : HoldsFrom w (k + (ps.length : Int)) qs := fun i hi => by
  have := h (ps.length + i) (by simp; omega)
  rw [List.getElem_append_right (by omega)] at this
  simp only [Nat.add_sub_cancel_left] at this
  rw [this]
  congr 2
  omega
theorem HoldsFrom.append (h : HoldsFrom w k ps) (h2 : HoldsFrom w (k + (ps.length : Int)) qs) : HoldsFrom w k (ps ++ qs) := fun i hi => by
  by_cases hl : i < ps.length
  · rw [List.getElem_append_left hl]
    exact h i hl
  · rw [List.getElem_append_right (by omega)]
    simp at hi
    rw [h2 (i - ps.length) (by omega)]
    congr 2
    omega
theorem HoldsFrom.lt (h : HoldsFrom w k ps) {p : Addr} (hp : p ∈ ps) : p.block < w.heap.size := by
  obtain ⟨i, hi, rfl⟩ := List.getElem_of_mem hp
  exact World.block_lt_of_cell? _ _ (h i hi)
theorem HoldsFrom.kept (h : HoldsFrom w k ps) (hc : ∀ p ∈ ps, w'.cell? p = w.cell? p) : HoldsFrom w' k ps := fun i hi => (hc _ (List.getElem_mem hi)).trans (h i hi)
theorem HoldsFrom.below (h : HoldsFrom w k ps) (hb : Below w.heap.size w w') : HoldsFrom w' k ps := h.kept fun _ hp => hb.cell (h.lt hp)
theorem SeqAt.below (h : Below w.heap.size w w') : SeqAt lo hi k [] w w' := ⟨Marked.of_below h, HoldsFrom.nil, fun _ hp _ => h.cell hp⟩
theorem SeqAt.store {p : Addr} {x : Int} (hp : lo ≤ p.block ∧ p.block < hi) (hc : w.cell? p = some (.int .i64 x)) (k : Int) : SeqAt lo hi k [p] w (w.setCell p (.int .i64 k)) := by
  refine ⟨Marked.store hp hc k, fun i hi => ?_, fun q _ hq => World.cell?_setCell_other _ _ _ _ (fun e => hq (by simp [e]))⟩
  obtain rfl : i = 0 := by simpa using hi
  simpa using World.cell?_setCell_same _ _ (.int .i64 k) hc
theorem SeqAt.append (h : SeqAt lo hi k ps w w1) (h2 : SeqAt lo hi (k + (ps.length : Int)) qs w1 w') (hd : ∀ p ∈ ps, p ∉ qs) : SeqAt lo hi k (ps ++ qs) w w' := by
  refine ⟨h.marked.trans h2.marked, (h.holds.kept fun p hp => h2.other p (h.holds.lt hp) (hd p hp)).append h2.holds, fun p hp hq => ?_⟩
  simp only [List.mem_append, not_or] at hq
  exact (h2.other p (Nat.lt_of_lt_of_le hp h.marked.only.size) hq.2).trans (h.other p hp hq.1)
theorem SeqAt.then_below (h : SeqAt lo hi k ps w w1) (hb : Below w1.heap.size w1 w') : SeqAt lo hi k ps w w' := by
  have := h.append (qs := []) (SeqAt.below (lo := lo) (hi := hi) hb) (fun _ _ hq => by simp at hq)
  simpa using this
theorem SeqAt.below_then (hb : Below w.heap.size w w1) (h : SeqAt lo hi k ps w1 w') : SeqAt lo hi k ps w w' := by
  have h0 : SeqAt lo hi k [] w w1 := SeqAt.below hb
  have := h0.append (by simpa using h) (fun _ hp => by simp at hp)
  simpa using this
end

/-- The first j groups of leaves. -/
def preL (el : Nat → List Addr) (j : Nat) : List Addr := ((List.range j).map el).flatten
theorem preL_zero (el : Nat → List Addr) : preL el 0 = [] := rfl
theorem preL_succ (el : Nat → List Addr) (j : Nat) : preL el (j + 1) = preL el j ++ el j := by
  unfold preL
  rw [List.range_succ, List.map_append, List.flatten_append]
  simp
theorem preL_split (el : Nat → List Addr) : ∀ n j, j ≤ n → ∃ rest, preL el n = preL el j ++ rest
  | 0, j, h => ⟨[], by rw [show j = 0 by omega]; rfl⟩
  | n + 1, j, h => by
    by_cases e : j = n + 1
    · exact ⟨[], by rw [e]; simp⟩
    · obtain ⟨r, hr⟩ := preL_split el n j (by omega)
      exact ⟨r ++ el n, by rw [preL_succ, hr, List.append_assoc]⟩
theorem preL_nodup {el : Nat → List Addr} {n j : Nat} (h : (preL el n).Nodup) (hj : j < n) : (preL el j ++ el j).Nodup := by
  obtain ⟨r, hr⟩ := preL_split el n (j + 1) hj
  rw [hr, List.nodup_append] at h
  rw [← preL_succ]
  exact h.1
theorem preL_holds {w : World} {k : Int} {el : Nat → List Addr} {n j : Nat} (h : HoldsFrom w k (preL el n)) (hj : j < n) : HoldsFrom w (k + ((preL el j).length : Int)) (el j) := by
  obtain ⟨r, hr⟩ := preL_split el n (j + 1) hj
  rw [hr] at h
  have := h.left
  rw [preL_succ] at this
  exact this.right
theorem mem_preL {el : Nat → List Addr} : ∀ {n : Nat} {p : Addr}, p ∈ preL el n ↔ ∃ j, j < n ∧ p ∈ el j
  | 0, p => by simp [preL]
  | n + 1, p => by
    rw [preL_succ, List.mem_append, mem_preL]
    constructor
    · rintro (⟨j, hj, hp⟩ | hp)
      · exact ⟨j, by omega, hp⟩
      · exact ⟨n, by omega, hp⟩
    · rintro ⟨j, hj, hp⟩
      by_cases e : j = n
      · exact .inr (e ▸ hp)
      · exact .inl ⟨j, by omega, hp⟩
/-- Groups that are once each and apart from each other. -/
theorem preL_nodup_of {el : Nat → List Addr} : ∀ {n : Nat}, (∀ j, j < n → (el j).Nodup) → (∀ i j, i < j → j < n → ∀ p ∈ el i, p ∉ el j) → (preL el n).Nodup
  | 0, _, _ => by simp [preL]
  | n + 1, h1, h2 => by
    rw [preL_succ, List.nodup_append]
    refine ⟨preL_nodup_of (fun j hj => h1 j (by omega)) (fun i j hij hj => h2 i j hij (by omega)), h1 n (by omega), fun a ha b hb e => ?_⟩
    obtain ⟨j, hj, hp⟩ := mem_preL.1 ha
    exact h2 j n hj (by omega) a hp (e ▸ hb)
theorem preL_length_le {el : Nat → List Addr} {n j : Nat} (h : j ≤ n) : (preL el j).length ≤ (preL el n).length := by
  obtain ⟨r, hr⟩ := preL_split el n j h
  rw [hr]
  simp

/-- A slice of n numbers in blocks from lo on and below hi that may be written; ps are its cells. -/
def LvInts (w : World) (lo hi : Nat) (v : Value) (n : Nat) (ps : List Addr) : Prop :=
  ∃ A c, v = .slice A n c ∧ n ≤ c ∧ ps.length = n ∧ (0 < n → ∃ b o, A = some ⟨b, o, none⟩ ∧ lo ≤ b ∧ b < hi ∧ ps = (List.range n).map (fun k => ⟨b, o + k, none⟩) ∧
    ∀ k, k < n → w.frozen? ⟨b, o + k, none⟩ = false ∧ ∃ x, w.cell? ⟨b, o + k, none⟩ = some (.int .i64 x))
theorem LvInts.marked {w w' : World} {lo hi lo' hi' n : Nat} {v : Value} {ps : List Addr} (h : LvInts w lo hi v n ps) (hm : Marked lo' hi' w w') : LvInts w' lo hi v n ps := by
  obtain ⟨A, c, rfl, hcc, hl, h⟩ := h
  refine ⟨A, c, rfl, hcc, hl, fun hn => ?_⟩
  obtain ⟨b, o, rfl, h1, h2, hp, hx⟩ := h hn
  refine ⟨b, o, rfl, h1, h2, hp, fun k hk => ?_⟩
  obtain ⟨hf, x, hc⟩ := hx k hk
  exact ⟨(hm.frozen _ (World.block_lt_of_cell? _ _ hc)).trans hf, hm.int hc⟩
theorem LvInts.mono {w : World} {lo hi lo' hi' n : Nat} {v : Value} {ps : List Addr} (h : LvInts w lo hi v n ps) (h1 : lo' ≤ lo) (h2 : hi ≤ hi') : LvInts w lo' hi' v n ps := by
  obtain ⟨A, c, rfl, hcc, hl, h⟩ := h
  refine ⟨A, c, rfl, hcc, hl, fun hn => ?_⟩
  obtain ⟨b, o, rfl, h3, h4, hp, hx⟩ := h hn
  exact ⟨b, o, rfl, by omega, by omega, hp, hx⟩
theorem LvInts.block {w : World} {lo hi n : Nat} {v : Value} {ps : List Addr} (h : LvInts w lo hi v n ps) {p : Addr} (hp : p ∈ ps) : lo ≤ p.block ∧ p.block < hi := by
  obtain ⟨A, c, rfl, _, hl, h⟩ := h
  have hn : 0 < n := by rw [← hl]; exact List.length_pos_of_mem hp
  obtain ⟨b, o, rfl, h1, h2, rfl, _⟩ := h hn
  simp only [List.mem_map, List.mem_range] at hp
  obtain ⟨k, _, rfl⟩ := hp
  exact ⟨h1, h2⟩
theorem LvInts.nodup {w : World} {lo hi n : Nat} {v : Value} {ps : List Addr} (h : LvInts w lo hi v n ps) : ps.Nodup := by
  obtain ⟨A, c, rfl, _, hl, h⟩ := h
  rcases Nat.eq_zero_or_pos n with h0 | hn
  · rw [h0] at hl
    rw [List.eq_nil_of_length_eq_zero hl]
    exact List.nodup_nil
  · obtain ⟨b, o, rfl, h1, h2, rfl, _⟩ := h hn
    rw [List.nodup_iff_pairwise_ne, List.pairwise_map]
    exact List.Pairwise.imp (fun {a b} hab e => by injection e with _ e2 _; omega) List.pairwise_lt_range
theorem OwnInts.leaves {w : World} {lo hi : Nat} {v : Value} {xs : List Int} (h : OwnInts w lo hi v xs) : ∃ ps, LvInts w lo hi v xs.length ps := by
  obtain ⟨A2, c2, e2, hcc, _⟩ := h.rd
  obtain ⟨A, c, rfl, hx⟩ := h.wr
  injection e2 with _ _ e2
  subst e2
  rcases Nat.eq_zero_or_pos xs.length with h0 | hn
  · exact ⟨[], A, c, rfl, hcc, by simp [h0], fun hn => absurd hn (by omega)⟩
  · obtain ⟨b, o, rfl, h1, h2, hx⟩ := hx hn
    exact ⟨(List.range xs.length).map (fun k => ⟨b, o + k, none⟩), _, c, rfl, hcc, by simp, fun _ => ⟨b, o, rfl, h1, h2, rfl, hx⟩⟩

set_option maxHeartbeats 400000 in
theorem lmarkIntS_any (v : Value) (n : Nat) (ps : List Addr) (k : Int) (lo hi : Nat) (w : World) (h : LvInts w lo hi v n ps) (hk0 : 0 ≤ k) (hk : k + n ≤ 4611686018427387904) :
    Calls Try.prog 51 #[v, .int .i64 k] w fun e w' => e = .returned (.int .i64 (k + n)) ∧ SeqAt lo hi k ps w w' := by
  have H := Lib.hid h
  have hnd := h.nodup
  obtain ⟨A, c, rfl, hcc, hl, h⟩ := h
  go_enter Try.func51, Try.ntmps51
  go_wp2_with (fail)
  go_loopw [1, 5] (fun m i wr => ∃ j : Nat, j ≤ n ∧ i = .int .i64 j ∧ m = .int .i64 (k + j) ∧ SeqAt lo hi k (ps.take j) w wr) (fun _ i _ => n - (intOf i).toNat)
  case atStart => exact ⟨0, Nat.zero_le _, rfl, by simp, by simpa using SeqAt.below (Below.refl _ _)⟩
  case round =>
    obtain ⟨j, hj, rfl, rfl, hs⟩ := hrel
    by_cases hlt : j < n
    · obtain ⟨b, o, rfl, h1, h2, hp, hx⟩ := h (by omega)
      obtain ⟨hf, x, hc⟩ := hx j hlt
      obtain ⟨y, hc1⟩ := hs.marked.int hc
      have hf1 : wr.frozen? ⟨b, o + j, none⟩ = false := (hs.marked.frozen _ (World.block_lt_of_cell? _ _ hc)).trans hf
      have hst := hs.append (SeqAt.store (lo := lo) (hi := hi) (p := ⟨b, o + j, none⟩) ⟨h1, h2⟩ hc1 (k + ((ps.take j).length : Int))) (fun q hq hq2 => by
        have hat : ps[j]'(by omega) = ⟨b, o + j, none⟩ := by simp [hp]
        simp only [List.mem_singleton] at hq2
        rw [hq2, ← hat] at hq
        rw [← List.take_append_drop j ps, List.drop_eq_getElem_cons (by omega)] at hnd
        rw [List.nodup_append] at hnd
        exact hnd.2.2 _ hq _ (List.mem_cons_self) rfl)
      have htk : ps.take j ++ [(⟨b, o + j, none⟩ : Addr)] = ps.take (j + 1) := by
        rw [take_snoc ps j (by omega)]
        simp [hp]
      rw [htk, show (ps.take j).length = j by rw [List.length_take]; omega] at hst
      have HS := Lib.hid hst
      clear hst hs hp hx htk hnd
      go_wp2_with (fail)
      go_roundw
      case rel => exact ⟨j + 1, by omega, by go_num, by go_num, HS.out⟩
      case measure => simp [intOf]; omega
    · have hkn : j = n := by omega
      have HK := Lib.hid (show k + (j : Int) = k + n by rw [hkn])
      have HS := Lib.hid (show SeqAt lo hi k ps w wr by rw [hkn, ← hl, List.take_length] at hs; exact hs)
      clear hkn hs h
      go_wp2_with (fail)
      go_ret
      exact ⟨ret_int HK.out, HS.out⟩

theorem LvInts.rd {w : World} {lo hi n : Nat} {v : Value} {ps : List Addr} {k : Int} (h : LvInts w lo hi v n ps) (hh : HoldsFrom w k ps) : RdInts w w.heap.size v (seqI k n) := by
  obtain ⟨A, c, rfl, hcc, hl, h⟩ := h
  refine ⟨A, c, by rw [seqI_length], by rw [seqI_length]; exact hcc, fun hn => ?_⟩
  rw [seqI_length] at hn
  obtain ⟨b, o, rfl, h1, h2, hp, hx⟩ := h hn
  have hat : ∀ j (hj : j < n), w.cell? ⟨b, o + j, none⟩ = some (.int .i64 (k + (j : Int))) := fun j hj => by
    have := hh j (by omega)
    simpa [hp] using this
  refine ⟨b, o, rfl, World.block_lt_of_cell? _ _ (hat 0 hn), fun j hj => ?_⟩
  rw [seqI_at]
  exact hat j (by rwa [seqI_length] at hj)

theorem lheldIntS_any (v : Value) (n : Nat) (ps : List Addr) (k : Int) (lo hi : Nat) (w : World) (h : LvInts w lo hi v n ps) (hh : HoldsFrom w k ps) (hk0 : 0 ≤ k) (hk : k + n ≤ 4611686018427387904) :
    Calls Try.prog 52 #[v, .int .i64 k] w fun e w' => e = .returned (.int .i64 (k + n)) ∧ w = w' :=
  heldIntS_any v n k w (h.rd hh) hk0 hk

end Go.Proofs.Ytgacdehbdhhbnaa
