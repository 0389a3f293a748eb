/-
  The walks of FactsHas: the program's and the specification's.
-/
import Derived.Test.YtdclfcjbadgmfaaSpecOrder
import Derived.Test.YtdclfcjbadgmfaaToFacts
namespace Go.Proofs.Ytdclfcjbadgmfaa
open Go.RowKit

/-- One fact of a list, as a walk reads it. -/
theorem RdFacts.get {w : World} {B c : Nat} {A : Option Addr} {fs : List LFact} (h : RdFacts w B (.slice A fs.length c) fs) {k : Nat} (hk : k < fs.length) : ∃ b o A3 c3, A = some ⟨b, o, none⟩ ∧ b < B ∧
    w.cell? ⟨b, o + k * 2, none⟩ = some (.int .i64 fs[k].1) ∧ w.cell? ⟨b, o + k * 2 + 1, none⟩ = some (.slice A3 fs[k].2.length c3) ∧ RdInts w B (.slice A3 fs[k].2.length c3) fs[k].2 := by
  obtain ⟨A', c', e, hc, h⟩ := h
  injection e with e1 e2 e3
  subst e1
  obtain ⟨b, o, rfl, hb, hx⟩ := h (by omega)
  obtain ⟨a, h1, h2, h3⟩ := hx k hk
  have h4 := h3
  obtain ⟨A3, c3, rfl, _⟩ := h3
  exact ⟨b, o, A3, c3, rfl, hb, h1, h2, h4⟩

def factsHas (fs : List LFact) (f : LFact) : Bool := fs.any fun g => factOrder g f == 0
/-- 'none of the first k is the same'. -/
def HasNot (fs : List LFact) (f : LFact) (k : Nat) : Prop := factsHas (fs.take k) f = false
theorem HasNot.step {fs : List LFact} {f : LFact} {k : Nat} (h : HasNot fs f k) (hk : k < fs.length) (e : factOrder fs[k] f ≠ 0) : HasNot fs f (k + 1) := by
  unfold HasNot factsHas at h ⊢
  rw [take_snoc fs k hk, List.any_append, h]
  simp [e]
theorem HasNot.done {fs : List LFact} {f : LFact} (h : HasNot fs f fs.length) : factsHas fs f = false := by
  unfold HasNot at h
  rwa [List.take_length] at h
theorem has_yes {fs : List LFact} {f : LFact} {k : Nat} (hk : k < fs.length) (e : factOrder fs[k] f = 0) : factsHas fs f = true := by
  unfold factsHas
  rw [List.any_eq_true]
  exact ⟨fs[k], List.getElem_mem hk, by simp [e]⟩

set_option maxHeartbeats 1000000 in
set_option maxRecDepth 100000 in
theorem specFactsHas_any (v v2 : Value) (fs : List LFact) (f : LFact) (w : World) (h : RdFacts w w.heap.size v fs) (h2 : RdFact w w.heap.size v2 f) (hn : fs.length ≤ 1048576) (ht : tot fs ≤ 1048576) (hf : f.2.length ≤ 1048576) :
    Calls Try.prog 31 #[v, v2] w fun e w' => e = .returned (.bool (factsHas fs f)) ∧ Below w.heap.size w w' := by
  have H := Lib.hid h
  have H2 := Lib.hid h2
  obtain ⟨A, c, rfl, hc, _⟩ := h
  obtain ⟨a, rfl, A2, c2, rfl, hc2, _⟩ := h2
  go_enter Try.func31, Try.ntmps31
  go_wp2_with (fail)
  obtain ⟨w1, hw1⟩ : ∃ w1, w1 = (w.alloc (Obj.cells #[Value.int IntKind.i64 f.1, Value.slice A2 f.2.length c2] 25)) := ⟨_, rfl⟩
  have B1 : Below w.heap.size w w1 := by rw [hw1]; exact below1 _ _
  have k0 : Blk w1 w.heap.size 25 #[.int .i64 f.1, .slice A2 f.2.length c2] := by rw [hw1]; exact Blk.new w _ _
  rw [← hw1]
  clear hw1
  go_loopw [5] (fun i wr => ∃ k : Nat, k ≤ fs.length ∧ i = .int .i64 k ∧ HasNot fs f k ∧ Below w1.heap.size w1 wr) (fun i _ => fs.length - (intOf i).toNat)
  case atStart => exact ⟨0, Nat.zero_le _, rfl, by simp [HasNot, factsHas], Below.refl _ _⟩
  case round =>
    obtain ⟨k, hk, rfl, hs, hbe⟩ := hrel
    by_cases hlt : k < fs.length
    · have hB := bthen B1 hbe
      obtain ⟨b, o, A3, c3, rfl, hbB, k1, k2, k3⟩ := (H.out.on hB).get hlt
      have q0 : wr.cell? ⟨w.heap.size, 0, none⟩ = some (.int .i64 f.1) := (k0.below hbe k0.lt).cell 0
      have q1 : wr.cell? ⟨w.heap.size, 1, none⟩ = some (.slice A2 f.2.length c2) := (k0.below hbe k0.lt).cell 1
      have K3 := Lib.hid k3
      have hln := len_le_tot fs k hlt
      clear k3
      go_wp2_with (fail)
      go_still_tail 5, (by kernel_rfl)
      change wpList _ _ _ _ _ wr.drew
      obtain ⟨w2, hw2⟩ : ∃ w2, w2 = wr.drew := ⟨_, rfl⟩
      rw [← hw2]
      have hb2 : Below wr.heap.size wr w2 := by rw [hw2]; exact (Below.refl _ _).drew
      clear hw2
      go_wp2_with (fail)
      refine (specFactOrder_any _ _ fs[k] f _ ⟨_, rfl, K3.out.on hb2⟩ (H2.out.on (bthen hB hb2)) (by omega) hf).mono ?_
      rintro e w3 ⟨rfl, hb3⟩
      have hB3 := bthen (bthen hbe hb2) hb3
      by_cases he : factOrder fs[k] f = 0
      · have hz : (factOrder fs[k] f == 0) = true := by simp [he]
        have HS := Lib.hid (has_yes hlt he)
        clear he hs
        go_wp2_with (fail)
        go_ret
        exact ⟨ret_bool HS.out.symm, bthen B1 hB3⟩
      · have hz : (factOrder fs[k] f == 0) = false := by simp [he]
        have HS := Lib.hid (hs.step hlt he)
        clear he hs
        go_wp2_with (fail)
        go_roundw
        case rel => exact ⟨k + 1, by omega, by go_num, HS.out, hB3⟩
        case measure => simp [intOf]; omega
    · have hkn : k = fs.length := by omega
      have HS := Lib.hid (show factsHas fs f = false from HasNot.done (by rw [← hkn]; exact hs))
      clear hkn hs
      go_wp2_with (fail)
      go_ret
      exact ⟨ret_bool HS.out.symm, bthen B1 hbe⟩

set_option maxHeartbeats 1000000 in
set_option maxRecDepth 100000 in
theorem implFactsHas_any (v v2 : Value) (fs : List LFact) (f : LFact) (w : World) (h : RdFacts w w.heap.size v fs) (h2 : RdFact w w.heap.size v2 f) (hn : fs.length ≤ 1048576) (ht : tot fs ≤ 1048576) (hf : f.2.length ≤ 1048576) :
    Calls Try.prog 32 #[v, v2] w fun e w' => e = .returned (.bool (factsHas fs f)) ∧ Below w.heap.size w w' := by
  have H := Lib.hid h
  have H2 := Lib.hid h2
  obtain ⟨A, c, rfl, hc, _⟩ := h
  obtain ⟨a, rfl, A2, c2, rfl, hc2, _⟩ := h2
  go_enter Try.func32, Try.ntmps32
  go_wp2_with (fail)
  obtain ⟨w1, hw1⟩ : ∃ w1, w1 = (w.alloc (Obj.cells #[Value.int IntKind.i64 f.1, Value.slice A2 f.2.length c2] 25)) := ⟨_, rfl⟩
  have B1 : Below w.heap.size w w1 := by rw [hw1]; exact below1 _ _
  have k0 : Blk w1 w.heap.size 25 #[.int .i64 f.1, .slice A2 f.2.length c2] := by rw [hw1]; exact Blk.new w _ _
  rw [← hw1]
  clear hw1
  go_loopw [6, 9] (fun _ i wr => ∃ k : Nat, k ≤ fs.length ∧ i = .int .i64 k ∧ HasNot fs f k ∧ Below w1.heap.size w1 wr) (fun _ i _ => fs.length - (intOf i).toNat)
  case atStart => exact ⟨0, Nat.zero_le _, rfl, by simp [HasNot, factsHas], Below.refl _ _⟩
  case round =>
    obtain ⟨k, hk, rfl, hs, hbe⟩ := hrel
    by_cases hlt : k < fs.length
    · have hB := bthen B1 hbe
      obtain ⟨b, o, A3, c3, rfl, hbB, k1, k2, k3⟩ := (H.out.on hB).get hlt
      have q0 : ∀ O, (wr.alloc O).cell? ⟨w.heap.size, 0, none⟩ = some (.int .i64 f.1) := fun O => ((k0.below hbe k0.lt).alloc O).cell 0
      have q1 : ∀ O, (wr.alloc O).cell? ⟨w.heap.size, 1, none⟩ = some (.slice A2 f.2.length c2) := fun O => ((k0.below hbe k0.lt).alloc O).cell 1
      have K3 := Lib.hid k3
      have hln := len_le_tot fs k hlt
      clear k3
      go_wp2_with (fail)
      refine (implFactOrder_any _ _ fs[k] f _ ⟨_, rfl, K3.out.on (below1 _ _)⟩ (H2.out.on (bthen hB (below1 _ _))) (by omega) hf).mono ?_
      rintro e w3 ⟨rfl, hb3⟩
      have hB3 := bthen hbe (bthen (below1 _ _) hb3)
      by_cases he : factOrder fs[k] f = 0
      · have hz : (factOrder fs[k] f == 0) = true := by simp [he]
        have HS := Lib.hid (has_yes hlt he)
        clear he hs q0 q1
        go_wp2_with (fail)
        go_ret
        exact ⟨ret_bool HS.out.symm, bthen B1 hB3⟩
      · have hz : (factOrder fs[k] f == 0) = false := by simp [he]
        have HS := Lib.hid (hs.step hlt he)
        clear he hs q0 q1
        go_wp2_with (fail)
        go_roundw
        case rel => exact ⟨k + 1, by omega, by go_num, HS.out, hB3⟩
        case measure => simp [intOf]; omega
    · have hkn : k = fs.length := by omega
      have HS := Lib.hid (show factsHas fs f = false from HasNot.done (by rw [← hkn]; exact hs))
      clear hkn hs
      go_wp2_with (fail)
      go_ret
      exact ⟨ret_bool HS.out.symm, bthen B1 hbe⟩

end Go.Proofs.Ytdclfcjbadgmfaa
