/-
  The walks over lists of facts: toFactS, eqFactS, szFactS.
-/
import Derived.Test.YtcoelmhlkfignaaLists
import Derived.StillTailTactics
namespace Go.Proofs.Ytcoelmhlkfignaa
open Go.RowKit

theorem Try.infoFact : (Try.prog.info? 44).map (fun i => (i.zero, i.size, i.bytes)) = some (some (.agg #[.int .i64 0, .slice none 0 0]), 2, 32) := by kernel_rfl

/-- What holds at toFactS's loop: k facts are copied. -/
structure ToRel (w wr : World) (fs : List LFact) (k : Nat) (av : List Value) : Prop where
  own : OwnArgs wr (w.heap.size + 1) wr.heap.size av ((fs.take k).map (·.2))
  row : ∃ cur : Array Value, Blk wr w.heap.size 44 cur ∧ cur.toList = flat (fs.take k) av ++ zeroCells (fs.length - k)
  below : Below w.heap.size w wr
  size : w.heap.size + 1 ≤ wr.heap.size

theorem ToRel.start (w : World) (fs : List LFact) : ToRel w (w.alloc (.cells (madeCells #[.int .i64 0, .slice none 0 0] (fs.length * 2)) 44)) fs 0 [] :=
  ⟨by simpa using OwnArgs.nil, ⟨_, Blk.new _ _ _, by simp [madeCells_facts, flat]⟩, below1 _ _, by simp⟩

/-- The cells that the next fact will take. -/
theorem ToRel.room {w wr : World} {fs : List LFact} {k : Nat} {av : List Value} (hr : ToRel w wr fs k av) (hlt : k < fs.length) {w4 : World} (hb : Below wr.heap.size wr w4) :
    w4.cell? ⟨w.heap.size, k * 2, none⟩ = some (.int .i64 0) ∧ w4.cell? ⟨w.heap.size, k * 2 + 1, none⟩ = some (.slice none 0 0) ∧ w4.frozen? ⟨w.heap.size, k * 2, none⟩ = false ∧ w4.frozen? ⟨w.heap.size, k * 2 + 1, none⟩ = false := by
  obtain ⟨ho, ⟨cur, hB, hcur⟩, hbe, hsz⟩ := hr
  have hB4 := hB.below hb (by omega)
  have hl : (flat (fs.take k) av).length = k * 2 := by
    rw [flat_length _ _ (by simpa using ho.len)]
    simp
    omega
  have hz : ∀ j, j < 2 → cur[k * 2 + j]? = some (if j % 2 = 0 then .int .i64 0 else .slice none 0 0) := fun j hj => by
    rw [← Array.getElem?_toList, hcur, List.getElem?_append_right (by omega), hl, show k * 2 + j - k * 2 = j by omega]
    exact zeroCells_at _ _ (by omega)
  exact ⟨(hB4.cell _).trans (hz 0 (by omega)), (hB4.cell _).trans (hz 1 (by omega)), hB4.frozen _, hB4.frozen _⟩

theorem ToRel.step {w wr : World} {fs : List LFact} {k : Nat} {av : List Value} (hr : ToRel w wr fs k av) (hlt : k < fs.length) {w4 : World} (hb : Below wr.heap.size wr w4) {a : Value}
    (ha : OwnInts w4 wr.heap.size w4.heap.size a fs[k].2) : ToRel w ((w4.setCell ⟨w.heap.size, k * 2, none⟩ (.int .i64 fs[k].1)).setCell ⟨w.heap.size, k * 2 + 1, none⟩ a) fs (k + 1) (av ++ [a]) := by
  obtain ⟨ho, ⟨cur, hB, hcur⟩, hbe, hsz⟩ := hr
  have hB4 := hB.below hb (by omega)
  have hl : (flat (fs.take k) av).length = k * 2 := by
    rw [flat_length _ _ (by simpa using ho.len)]
    simp
    omega
  have hs4 := hb.size
  refine ⟨?_, ⟨_, (hB4.set_ _ _).set_ _ _, ?_⟩, ((hbe.trans (hb.mono hbe.size)).setCell (Nat.le_refl _) _).setCell (Nat.le_refl _) _, by simp; omega⟩
  · have h1 := ((ho.below hb (Nat.le_refl _)).snoc ha (by omega) hs4)
    have h2 := (h1.set (p := ⟨w.heap.size, k * 2, none⟩) (.inl (by simp)) (.int .i64 fs[k].1)).set (p := ⟨w.heap.size, k * 2 + 1, none⟩) (.inl (by simp)) a
    have hs : ((w4.setCell ⟨w.heap.size, k * 2, none⟩ (.int .i64 fs[k].1)).setCell ⟨w.heap.size, k * 2 + 1, none⟩ a).heap.size = w4.heap.size := by simp
    rw [take_snoc fs k hlt, List.map_append, hs]
    exact h2
  · rw [take_snoc fs k hlt, flat_snoc _ _ (by simpa using ho.len)]
    obtain ⟨m, hm⟩ : ∃ m, fs.length - k = m + 1 := ⟨fs.length - k - 1, by omega⟩
    rw [show fs.length - (k + 1) = m by omega]
    simp [Array.toList_setIfInBounds, hcur, hm, zeroCells, List.set_append_right, hl]

theorem ToRel.done {w wr : World} {fs : List LFact} {av : List Value} (hr : ToRel w wr fs fs.length av) (hm : fs.length ≤ maxLen) : OwnFacts wr w.heap.size wr.heap.size (.slice (some ⟨w.heap.size, 0, none⟩) fs.length fs.length) fs := by
  obtain ⟨ho, ⟨cur, hB, hcur⟩, hbe, hsz⟩ := hr
  simp only [List.take_length, Nat.sub_self, zeroCells, List.append_nil] at ho hcur
  have hl := flat_length fs av (by simpa using ho.len)
  have hcl : cur.size = fs.length * 2 := by rw [← Array.length_toList, hcur, hl]
  refine ⟨av, ho.mono (by omega) (Nat.le_refl _), ⟨hl, .inr ⟨w.heap.size, fs.length, cur, rfl, Nat.le_refl _, hB, Nat.le_refl _, hm, hcl, ?_⟩⟩, fun g hg => ?_⟩
  · rw [hcur, ← hl, List.take_length]
  · simp [Value.ownBlock] at hg
    omega

/-- 'the first k of both are the same', kept from the walk. -/
def FSameTo (xs ys : List LFact) (k : Nat) : Prop := xs.take k = ys.take k
theorem FSameTo.step {xs ys : List LFact} {k : Nat} (h : FSameTo xs ys k) (h1 : k < xs.length) (h2 : k < ys.length) (e : xs[k] = ys[k]) : FSameTo xs ys (k + 1) := by
  unfold FSameTo at h ⊢
  rw [take_snoc xs k h1, take_snoc ys k h2, h, e]
theorem FSameTo.eq {xs ys : List LFact} (h : FSameTo xs ys xs.length) (hl : xs.length = ys.length) : xs = ys := by
  unfold FSameTo at h
  rwa [List.take_length, hl, List.take_length] at h

set_option maxHeartbeats 400000 in
set_option maxRecDepth 100000 in
theorem eqFactS_any (va vb : Value) (xs ys : List LFact) (w : World) (ha : RdFacts w w.heap.size va xs) (hb : RdFacts w w.heap.size vb ys) (hx : xs.length ≤ 1048576) (hy : ys.length ≤ 1048576) (htx : tot xs ≤ 1048576) (hty : tot ys ≤ 1048576) :
    Calls Try.prog 13 #[va, vb] w fun e w' => e = .returned (.bool (decide (xs = ys))) ∧ Below w.heap.size w w' := by
  obtain ⟨A, c, rfl, hc, ha⟩ := ha
  obtain ⟨A2, c2, rfl, hc2, hb⟩ := hb
  by_cases hl : xs.length = ys.length
  · have hl1 : ((xs.length : Int) != (ys.length : Int)) = false := by simp [hl]
    have HL := Lib.hid hl
    clear hl
    go_enter Try.func13, Try.ntmps13
    go_wp2_with (fail)
    go_loopw [5] (fun i wr => ∃ k : Nat, k ≤ xs.length ∧ i = .int .i64 k ∧ FSameTo xs ys k ∧ Below w.heap.size w wr) (fun i _ => xs.length - (intOf i).toNat)
    case atStart => exact ⟨0, Nat.zero_le _, rfl, rfl, Below.refl _ _⟩
    case round =>
      obtain ⟨k, hk, rfl, hs, hbe⟩ := hrel
      by_cases hlt : k < xs.length
      · have hlt2 : k < ys.length := by have := HL.out; omega
        obtain ⟨b, o, rfl, hbB, hxx⟩ := ha (by omega)
        obtain ⟨b2, o2, rfl, hbB2, hyy⟩ := hb (by omega)
        obtain ⟨a, p1, p2, p3⟩ := hxx k hlt
        obtain ⟨a', q1, q2, q3⟩ := hyy k hlt2
        have k1 : wr.cell? ⟨b, o + k * 2, none⟩ = some (.int .i64 xs[k].1) := (hbe.cell (p := ⟨b, o + k * 2, none⟩) hbB).trans p1
        have k2 : wr.cell? ⟨b, o + k * 2 + 1, none⟩ = some a := (hbe.cell (p := ⟨b, o + k * 2 + 1, none⟩) hbB).trans p2
        have k3 : wr.cell? ⟨b2, o2 + k * 2, none⟩ = some (.int .i64 ys[k].1) := (hbe.cell (p := ⟨b2, o2 + k * 2, none⟩) hbB2).trans q1
        have k4 : wr.cell? ⟨b2, o2 + k * 2 + 1, none⟩ = some a' := (hbe.cell (p := ⟨b2, o2 + k * 2 + 1, none⟩) hbB2).trans q2
        have hln := len_le_tot xs k hlt
        have hln2 := len_le_tot ys k hlt2
        have HA := Lib.hid p3
        have HA2 := Lib.hid q3
        obtain ⟨A3, c3, rfl, hc3, _⟩ := p3
        obtain ⟨A4, c4, rfl, hc4, _⟩ := q3
        clear hxx hyy ha hb p1 p2 q1 q2
        go_wp2_with (fail)
        go_still_tail 8, (by kernel_rfl)
        change wpList _ _ _ _ _ wr.drew
        obtain ⟨w2, hw2⟩ : ∃ w2, w2 = wr.drew := ⟨_, rfl⟩
        rw [← hw2]
        have hbe2 : Below w.heap.size w w2 := by rw [hw2]; exact hbe.drew
        clear hw2
        go_wp2_with (fail)
        refine (eqFact_any _ _ xs[k] ys[k] _ ⟨_, rfl, (HA.out.below hbe2 (Nat.le_refl _)).more hbe2.size⟩ ⟨_, rfl, (HA2.out.below hbe2 (Nat.le_refl _)).more hbe2.size⟩ (by omega) (by omega)).mono ?_
        rintro e w4 ⟨rfl, hb4⟩
        have hB4 := hbe2.trans (hb4.mono hbe2.size)
        by_cases he : xs[k] = ys[k]
        · have hdb : decide (xs[k] = ys[k]) = true := by simp [he]
          have HS := Lib.hid (hs.step hlt hlt2 he)
          clear he hs
          go_wp2_with (fail)
          go_roundw
          case rel => exact ⟨k + 1, by omega, by go_num, HS.out, hB4⟩
          case measure => simp [intOf]; omega
        · have hdb : decide (xs[k] = ys[k]) = false := by simp [he]
          have HE := Lib.hid (show xs ≠ ys from fun e => he (by subst e; rfl))
          clear he hs
          go_wp2_with (fail)
          go_ret
          exact ⟨ret_bool (by simp [HE.out]), hB4⟩
      · have hkn : k = xs.length := by omega
        have HE := Lib.hid (show xs = ys from FSameTo.eq (by rw [← hkn]; exact hs) HL.out)
        clear hkn hs ha hb
        go_wp2_with (fail)
        go_ret
        exact ⟨ret_bool (by simp [HE.out]), hbe⟩
  · have hl1 : ((xs.length : Int) != (ys.length : Int)) = true := by simp; omega
    have HE := Lib.hid (show xs ≠ ys from fun e => hl (by rw [e]))
    clear ha hb hl
    go_enter Try.func13, Try.ntmps13
    go_wp2_with (fail)
    go_ret
    exact ⟨ret_bool (by simp [HE.out]), Below.refl _ _⟩

/-- What szFactS answers: -1, or what is left when the facts and all their integers are taken. -/
def SzResF (r left : Int) (fs : List LFact) : Prop := r = -1 ∨ (0 ≤ r ∧ r + fs.length + tot fs = left)
def SzToF (r left : Int) (fs : List LFact) (k : Nat) : Prop := 0 ≤ r ∧ r + fs.length + tot (fs.take k) = left

end Go.Proofs.Ytcoelmhlkfignaa
