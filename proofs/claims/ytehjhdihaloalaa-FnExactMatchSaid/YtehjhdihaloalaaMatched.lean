/-
  The walk of matched.
-/
import Derived.Test.YtehjhdihaloalaaMatchP
import Derived.Test.YtehjhdihaloalaaBindV
import Derived.Test.YtehjhdihaloalaaFactOk
namespace Go.Proofs.Ytehjhdihaloalaa
open Go.RowKit

/-- What matched hands back: the word, and whether there is one. -/
def encO (o : Option (List Int)) : Nat := match o with | some b => encB b | none => 0

set_option maxHeartbeats 1000000 in
set_option maxRecDepth 100000 in
theorem matched_n (v v2 : Value) (a f : LFact) (bs : List Int) (z0 : Nat) (ok : Bool) (hz0 : z0 = encO (matchL a f bs)) (hok : ok = (matchL a f bs).isSome) (w : World) (hb : bindOk bs = true) (h : RdFact w w.heap.size v a) (h2 : RdFact w w.heap.size v2 f)
    (ht : a.2.all termOk = true) (hf : f.2.all constOk = true) (hr : a.2.length ≤ 1048576) (hr2 : f.2.length ≤ 1048576) :
    Calls Try.prog 83 #[.int .u32 (encB bs : Nat), v, v2] w fun e w' => e = .returned (.tuple #[.int .u32 (z0 : Nat), .bool ok]) ∧ Below w.heap.size w w' := by
  obtain ⟨pa, xs⟩ := a
  obtain ⟨pf, ys⟩ := f
  simp only at ht hf hr hr2
  have HO := Lib.hid (And.intro hz0 hok)
  clear hz0 hok
  obtain ⟨u, rfl, A, c, rfl, hc, hA⟩ := h
  obtain ⟨u, rfl, A2, c2, rfl, hc2, hA2⟩ := h2
  by_cases hp : pa = pf
  · have hpb : (pa != pf) = false := by simp [hp]
    by_cases hl : xs.length = ys.length
    · have hl1 : ((xs.length : Int) != (ys.length : Int)) = false := by simp [hl]
      have HL := Lib.hid hl
      have HP := Lib.hid hp
      have HM := Lib.hid (encB_lt hb)
      have HB := Lib.hid hb
      obtain ⟨m, hm⟩ : ∃ m, m = encB bs := ⟨_, rfl⟩
      rw [← hm]
      have HE := Lib.hid hm
      clear hl hp hm hb
      go_enter Try.func83, Try.ntmps83
      go_wp2_with (fail)
      go_loopw [0, 8, 9, 27] (fun m _ _ i wr => ∃ (k z : Nat) (cur : List Int), k ≤ xs.length ∧ i = .int .i64 k ∧ m = .int .u32 (z : Nat) ∧ z = encB cur ∧ bindOk cur = true ∧ matchTo bs xs ys k = some cur ∧ Below w.heap.size w wr ∧ Blk wr (w.heap.size + 1) 28 #[.int .i64 pf, .slice A2 ys.length c2]) (fun _ _ _ i _ => xs.length - (intOf i).toNat)
      case atStart => exact ⟨0, _, bs, Nat.zero_le _, rfl, rfl, HE.out, HB.out, rfl, below2 _ _ _, by simpa using Blk.new (w.alloc (Obj.cells #[Value.int IntKind.i64 pa, Value.slice A xs.length c] 49)) 28 #[.int .i64 pf, .slice A2 ys.length c2]⟩
      case round =>
        obtain ⟨k, z, cur, hk, rfl, rfl, hz, hcb, hmt, hbe, hblk⟩ := hrel
        by_cases hlt : k < xs.length
        · have hlt2 : k < ys.length := by have := HL.out; omega
          obtain ⟨b, o, rfl, hbB, hx⟩ := hA (by omega)
          obtain ⟨b2, o2, rfl, hbB2, hx2⟩ := hA2 (by omega)
          have hck : wr.cell? ⟨b, o + k, none⟩ = some (.int .i64 xs[k]) := (hbe.cell (p := ⟨b, o + k, none⟩) hbB).trans (hx k hlt)
          have hck2 : wr.cell? ⟨b2, o2 + k, none⟩ = some (.int .i64 ys[k]) := (hbe.cell (p := ⟨b2, o2 + k, none⟩) hbB2).trans (hx2 k hlt2)
          have hc1 : wr.cell? ⟨w.heap.size + 1, 1, none⟩ = some (.slice (some ⟨b2, o2, none⟩) ys.length c2) := hblk.cell 1
          have htk : termOk xs[k] = true := List.all_eq_true.1 ht _ (List.getElem_mem hlt)
          have hfk : 0 ≤ ys[k] ∧ ys[k] ≤ 5 := by simpa [constOk] using List.all_eq_true.1 hf _ (List.getElem_mem hlt2)
          have HV := Lib.hid (hz ▸ value_any cur hcb xs[k] htk)
          have hst := matchTo_step hmt hlt hlt2
          have HBK := Lib.hid hblk
          clear hx hx2 hA hA2 hblk
          by_cases e1 : termVal cur xs[k] = ys[k]
          · have HS := Lib.hid (show matchTo bs xs ys (k + 1) = some cur by rw [hst, stepM_same e1])
            have HZ := Lib.hid (And.intro hz hcb)
            have HT := Lib.hid e1
            clear hst hz hcb hmt e1 htk
            go_wp2_with (go_at_call 106; refine (HV.out _).mono ?_; rw [HT.out]; rintro e w' ⟨rfl, rfl⟩)
            go_roundw
            case rel => exact ⟨k + 1, z, cur, by omega, by go_num, rfl, HZ.out.1, HZ.out.2, HS.out, hbe, HBK.out⟩
            case measure => simp [intOf]; omega
          · have hd1 : (termVal cur xs[k] == ys[k]) = false := by simpa using e1
            by_cases e2 : termVal cur xs[k] = -1
            · obtain ⟨q1, q2, q3⟩ := termVal_free htk e2
              obtain ⟨j, hj4, hj⟩ : ∃ j : Nat, j < 4 ∧ -1 - xs[k] = (j : Int) := ⟨(-1 - xs[k]).toNat, by omega, by omega⟩
              have hjt : (-1 - xs[k]).toNat = j := by omega
              rw [hjt] at q3
              have HS := Lib.hid (show matchTo bs xs ys (k + 1) = some (cur.set j ys[k]) by rw [hst, stepM_new e2 (by omega), hjt])
              have HZ := Lib.hid (show z ||| shlB j ys[k] = encB (cur.set j ys[k]) by rw [hz, encB_set hcb hj4 q3 (by omega)])
              have HCB := Lib.hid (show bindOk (cur.set j ys[k]) = true from bindOk_set hcb (by omega) _)
              have hd1 : ((-1 : Int) == ys[k]) = false := by simp; omega
              have hzl : z < 65536 := by rw [hz]; exact encB_lt hcb
              have HT := Lib.hid e2
              have HN := Lib.hid (fun W => hj ▸ varNumber_any xs[k] q1 q2 W)
              have HW := Lib.hid (fun W => with_any z j ys[k] hzl hj4 (by omega) W)
              clear hst hz hcb hmt e1 e2 htk hj hjt q3
              go_wp2_with (go_at_call 106; refine (HV.out _).mono ?_; rw [HT.out]; rintro e w' ⟨rfl, rfl⟩)
              go_quiet (first | (go_at_call 108; exact quiet_left (HN.out _)) | (go_at_call 104; exact quiet_left (HW.out _)))
              go_wp2_with (fail)
              go_roundw
              case rel => exact ⟨k + 1, _, _, by omega, by go_num, rfl, HZ.out, HCB.out, HS.out, bdrewN hbe _, HBK.out.drewN _⟩
              case measure => simp [intOf]; omega
            · have hd2 : (termVal cur xs[k] == -1) = false := by simpa using e2
              have HN := Lib.hid (show matchL (pa, xs) (pf, ys) bs = none from matchL_stop HP.out HL.out hlt (by rw [hst, stepM_no e1 e2]))
              clear hst hz hcb hmt e1 e2 htk
              go_wp2_with (go_at_call 106; refine (HV.out _).mono ?_; rintro e w' ⟨rfl, rfl⟩)
              go_ret2
              rw [show ok = false by rw [HO.out.2, HN.out]; rfl, show z0 = 0 by rw [HO.out.1, HN.out]; rfl]
              exact ⟨rfl, hbe⟩
        · have hkn : k = xs.length := by omega
          have HN := Lib.hid (show matchL (pa, xs) (pf, ys) bs = some cur by rw [matchL_eq HP.out HL.out, ← hmt, hkn])
          have HZ := Lib.hid hz
          clear hkn hmt hz hA hA2 hblk
          go_wp2_with (fail)
          go_ret2
          rw [show ok = true by rw [HO.out.2, HN.out]; rfl, show z0 = z by rw [HO.out.1, HN.out, HZ.out]; rfl]
          exact ⟨rfl, hbe⟩
    · have hl1 : ((xs.length : Int) != (ys.length : Int)) = true := by simp; omega
      have HN := Lib.hid (show matchL (pa, xs) (pf, ys) bs = none from matchL_len hl)
      clear hA hA2 hl
      go_enter Try.func83, Try.ntmps83
      go_wp2_with (fail)
      go_ret2
      rw [show ok = false by rw [HO.out.2, HN.out]; rfl, show z0 = 0 by rw [HO.out.1, HN.out]; rfl]
      exact ⟨rfl, below2 _ _ _⟩
  · have hpb : (pa != pf) = true := by simp [hp]
    have HN := Lib.hid (show matchL (pa, xs) (pf, ys) bs = none from matchL_pred hp)
    clear hA hA2 hp
    go_enter Try.func83, Try.ntmps83
    go_wp2_with (fail)
    go_ret2
    rw [show ok = false by rw [HO.out.2, HN.out]; rfl, show z0 = 0 by rw [HO.out.1, HN.out]; rfl]
    exact ⟨rfl, below2 _ _ _⟩

end Go.Proofs.Ytehjhdihaloalaa
