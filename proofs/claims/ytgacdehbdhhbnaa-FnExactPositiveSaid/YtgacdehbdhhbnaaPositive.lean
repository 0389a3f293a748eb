/-
  The walks of l2Has and of both Positive.
-/
import Derived.Test.YtgacdehbdhhbnaaPgmOk
namespace Go.Proofs.Ytgacdehbdhhbnaa
open Go.RowKit

def hasNo (l : LLit) : Bool := decide (l.1 = 1)
def noneNo (r : LRule) : Bool := r.2.all fun l => !hasNo l
def positive (p : LProg) : Bool := progOk p && p.2.all noneNo

set_option maxHeartbeats 1000000 in
theorem l2Has_any (v : Value) (ls : List LLit) (B : Nat) (w : World) (h : RdLits w B v ls) (hr : ls.length ≤ 1048576) :
    Calls Try.prog 87 #[v, .int .i64 1] w fun e w' => e = .returned (.bool (!ls.all fun l => !hasNo l)) ∧ w = w' := by
  have H := Lib.hid h
  obtain ⟨A, c, rfl, hc, _⟩ := h
  go_enter Try.func87, Try.ntmps87
  go_wp2_with (fail)
  go_loop [5] (fun i => ∃ k : Nat, k ≤ ls.length ∧ i = .int .i64 k ∧ AllTo (fun l => !hasNo l) ls k) (fun i => ls.length - (intOf i).toNat)
  case atStart => exact ⟨0, Nat.zero_le _, rfl, AllTo.start⟩
  case round =>
    obtain ⟨k, hk, rfl, hs⟩ := hrel
    by_cases hlt : k < ls.length
    · obtain ⟨b, o, u0, u1, u2, rfl, hbB, k0, k1, k2, rfl, rfl, p3⟩ := H.out.get hlt
      by_cases he : ls[k].1 = 1
      · have hd : (ls[k].1 == 1) = true := by simpa using he
        have HE := Lib.hid (all_not (p := fun l : LLit => !hasNo l) hlt (by simp [hasNo, he]))
        clear hs he p3
        go_wp2_with (fail)
        go_ret
        exact ⟨ret_bool (by rw [HE.out]; rfl), rfl⟩
      · have hd : (ls[k].1 == 1) = false := by simpa using he
        have HS := Lib.hid (hs.step hlt (by simp [hasNo, he]))
        clear hs he p3
        go_wp2_with (fail)
        go_round
        case rel => exact ⟨k + 1, by omega, by go_num, HS.out⟩
        case measure => simp [intOf]; omega
    · have HE := Lib.hid (hs.done (by omega))
      clear hs
      go_wp2_with (fail)
      go_ret
      exact ⟨ret_bool (by rw [HE.out]; rfl), rfl⟩

set_option maxHeartbeats 1000000 in
set_option maxRecDepth 100000 in
theorem specPositive_any (v : Value) (p : LProg) (w : World) (h : RdProg w w.heap.size v p) (hs : szP p ≤ 1048576) :
    Calls Try.prog 46 #[v] w fun e w' => e = .returned (.bool (positive p)) ∧ Below w.heap.size w w' := by
  have HP := Lib.hid h
  have hsz := hs
  unfold szP at hs
  obtain ⟨a, b, rfl, h, h2⟩ := h
  have H2 := Lib.hid h2
  obtain ⟨A, c, rfl, hc, _⟩ := h
  obtain ⟨A2, c2, rfl, hc2, _⟩ := h2
  go_enter Try.func46, Try.ntmps46
  go_wp2_with (fail)
  obtain ⟨w2, hw2⟩ : ∃ w2, w2 = w.alloc (Obj.cells #[Value.slice A p.1.length c, Value.slice A2 p.2.length c2] 76) := ⟨_, rfl⟩
  have B2 : Below w.heap.size w w2 := by rw [hw2]; exact below1 _ _
  have x2 : Blk w2 w.heap.size 76 #[.slice A p.1.length c, .slice A2 p.2.length c2] := by rw [hw2]; exact Blk.new _ _ _
  have q0 : w2.cell? ⟨w.heap.size, 0, none⟩ = some (.slice A p.1.length c) := x2.cell 0
  have q1 : w2.cell? ⟨w.heap.size, 1, none⟩ = some (.slice A2 p.2.length c2) := x2.cell 1
  rw [← hw2]
  clear hw2
  go_loop [3] (fun i => ∃ k : Nat, k ≤ p.2.length ∧ i = .int .i64 k ∧ AllTo noneNo p.2 k) (fun i => p.2.length - (intOf i).toNat)
  case atStart => exact ⟨0, Nat.zero_le _, rfl, AllTo.start⟩
  case round =>
    obtain ⟨k, hk, rfl, hs⟩ := hrel
    by_cases hlt : k < p.2.length
    · obtain ⟨b, o, u0, u1, u2, rfl, hbB, k0, k1, k2, rfl, p3, p4⟩ := (H2.out.on B2).get hlt
      have HB := Lib.hid p4
      obtain ⟨A4, c4, rfl, hc4, _⟩ := p3
      obtain ⟨A5, c5, rfl, hc5, _⟩ := p4
      have hle := sz_le_totR p.2 k hlt
      unfold szR at hle
      by_cases he : noneNo p.2[k] = true
      · have HK := Lib.hid (l2Has_any _ p.2[k].2 _ _ HB.out (by omega))
        have HS := Lib.hid (hs.step hlt he)
        have he2 : (!p.2[k].2.all fun l => !hasNo l) = false := by unfold noneNo at he; rw [he]; rfl
        rw [he2] at HK
        clear hs he he2
        go_wp2_with (go_at_call 87; refine HK.out.mono ?_; rintro e w' ⟨rfl, rfl⟩)
        go_round
        case rel => exact ⟨k + 1, by omega, by go_num, HS.out⟩
        case measure => simp [intOf]; omega
      · have HK := Lib.hid (l2Has_any _ p.2[k].2 _ _ HB.out (by omega))
        have he' : noneNo p.2[k] = false := by simpa using he
        have HS := Lib.hid (show positive p = false by unfold positive; rw [all_not hlt he', Bool.and_false])
        have he2 : (!p.2[k].2.all fun l => !hasNo l) = true := by unfold noneNo at he'; rw [he']; rfl
        rw [he2] at HK
        clear hs he he2 he'
        go_wp2_with (go_at_call 87; refine HK.out.mono ?_; rintro e w' ⟨rfl, rfl⟩)
        go_ret
        exact ⟨ret_bool HS.out.symm, B2⟩
    · have HE := Lib.hid (show positive p = progOk p by unfold positive; rw [hs.done (by omega), Bool.and_true])
      clear hs
      go_wp2_with (fail)
      refine (specProgramOk_any _ p _ (HP.out.on B2) hsz).mono ?_
      rintro e w5 ⟨rfl, hb5⟩
      go_wp2_with (fail)
      go_ret
      exact ⟨ret_bool HE.out.symm, bthen B2 hb5⟩

set_option maxHeartbeats 1000000 in
set_option maxRecDepth 100000 in
theorem implPositive_any (v : Value) (p : LProg) (w : World) (h : RdProg w w.heap.size v p) (hs : szP p ≤ 1048576) :
    Calls Try.prog 47 #[v] w fun e w' => e = .returned (.bool (positive p)) ∧ Below w.heap.size w w' := by
  have HP := Lib.hid h
  have hsz := hs
  unfold szP at hs
  obtain ⟨a, b, rfl, h, h2⟩ := h
  have H2 := Lib.hid h2
  obtain ⟨A, c, rfl, hc, _⟩ := h
  obtain ⟨A2, c2, rfl, hc2, _⟩ := h2
  go_enter Try.func47, Try.ntmps47
  go_wp2_with (fail)
  refine (implProgramOk_any _ p _ (HP.out.on (below1 _ _)) hsz).mono ?_
  rintro e w2 ⟨rfl, hb2⟩
  have B2 := bthen (below1 _ _) hb2
  have x2 : Blk w2 w.heap.size 76 #[.slice A p.1.length c, .slice A2 p.2.length c2] := (Blk.new w _ _).below hb2 (by simp)
  have q1 : w2.cell? ⟨w.heap.size, 1, none⟩ = some (.slice A2 p.2.length c2) := x2.cell 1
  by_cases hf : progOk p = true
  · rw [hf]
    have HF := Lib.hid (show positive p = p.2.all noneNo by unfold positive; rw [hf, Bool.true_and])
    clear hf hb2
    go_wp2_with (fail)
    go_loopw [13] (fun i wr => ∃ k : Nat, k ≤ p.2.length ∧ i = .int .i64 k ∧ AllTo noneNo p.2 k ∧ Below w2.heap.size w2 wr) (fun i _ => p.2.length - (intOf i).toNat)
    case atStart => exact ⟨0, Nat.zero_le _, rfl, AllTo.start, Below.refl _ _⟩
    case round =>
      obtain ⟨k, hk, rfl, hs, hbe⟩ := hrel
      have BW := bthen B2 hbe
      clear q1
      by_cases hlt : k < p.2.length
      · obtain ⟨b, o, u0, u1, u2, rfl, hbB, k0, k1, k2, rfl, p3, p4⟩ := (H2.out.on BW).get hlt
        have HB := Lib.hid p4
        obtain ⟨A4, c4, rfl, hc4, _⟩ := p3
        obtain ⟨A5, c5, rfl, hc5, _⟩ := p4
        have hle := sz_le_totR p.2 k hlt
        unfold szR at hle
        go_wp2_with (fail)
        obtain ⟨w3, hw3⟩ : ∃ w3, w3 = wr.alloc (Obj.cells #[Value.int IntKind.i64 p.2[k].1.1, Value.slice A4 p.2[k].1.2.length c4, Value.slice A5 p.2[k].2.length c5] 63) := ⟨_, rfl⟩
        have B3 : Below wr.heap.size wr w3 := by rw [hw3]; exact below1 _ _
        rw [← hw3]
        clear hw3 k0 k1 k2
        go_loopw [20] (fun i ws => ∃ m : Nat, m ≤ p.2[k].2.length ∧ i = .int .i64 m ∧ AllTo (fun l => !hasNo l) p.2[k].2 m ∧ Below w3.heap.size w3 ws) (fun i _ => p.2[k].2.length - (intOf i).toNat)
        case atStart => exact ⟨0, Nat.zero_le _, rfl, AllTo.start, Below.refl _ _⟩
        case round =>
          obtain ⟨m, hm, rfl, ht, hbt⟩ := hrel
          have BT := bthen B3 hbt
          by_cases hlm : m < p.2[k].2.length
          · obtain ⟨b', o', u0, u1, u2, rfl, hbB', k0, k1, k2, rfl, rfl, p5⟩ := (HB.out.on BT).get hlm
            obtain ⟨A6, c6, rfl, hc6, _⟩ := p5
            by_cases he : p.2[k].2[m].1 = 1
            · have hd : (p.2[k].2[m].1 == 1) = true := by simpa using he
              have HE := Lib.hid (show positive p = false by rw [HF.out, all_not hlt (show noneNo p.2[k] = false from all_not hlm (by simp [hasNo, he]))])
              clear hs ht he
              go_wp2_with (fail)
              go_ret
              exact ⟨ret_bool HE.out.symm, bthen BW (bthen BT (below1 _ _))⟩
            · have hd : (p.2[k].2[m].1 == 1) = false := by simpa using he
              have HT := Lib.hid (ht.step hlm (by simp [hasNo, he]))
              clear ht he
              go_wp2_with (fail)
              go_roundw
              case rel => exact ⟨m + 1, by omega, by go_num, HT.out, bthen hbt (below1 _ _)⟩
              case measure => simp [intOf]; omega
          · have HS := Lib.hid (hs.step hlt (show noneNo p.2[k] = true from ht.done (by omega)))
            clear hs ht
            go_wp2_with (fail)
            go_roundw
            case rel => exact ⟨k + 1, by omega, by go_num, HS.out, bthen hbe BT⟩
            case measure => simp [intOf]; omega
      · have HE := Lib.hid (show positive p = true by rw [HF.out, hs.done (by omega)])
        clear hs
        go_wp2_with (fail)
        go_ret
        exact ⟨ret_bool HE.out.symm, BW⟩
  · have hf' : progOk p = false := by simpa using hf
    rw [hf']
    have HE := Lib.hid (show positive p = false by simp [positive, hf'])
    clear hf hf'
    go_wp2_with (fail)
    go_ret
    exact ⟨ret_bool HE.out.symm, B2⟩

end Go.Proofs.Ytgacdehbdhhbnaa
