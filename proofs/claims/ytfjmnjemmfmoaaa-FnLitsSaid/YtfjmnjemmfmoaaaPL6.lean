/-
  Texts that the claim's last one imports, laid together: part 6 of 7. No condition of its own.
-/
import Derived.Deep.RegionLaw
import Derived.Deep.DeepCutAuto
import Derived.Test.YtfjmnjemmfmoaaaPL1
import Derived.Test.YtfjmnjemmfmoaaaPL2
import Derived.Test.YtfjmnjemmfmoaaaPL3
import Derived.Test.YtfjmnjemmfmoaaaPL5
/-
  The specification's l3Copy, l3Match.
-/
namespace Go.Proofs.Ytfjmnjemmfmoaaa
open Go.RowKit

/-- A row of one's own that is not empty: its block, its cells. -/
theorem OwnInts.at_ {w : World} {lo hi c n : Nat} {A : Option Addr} {xs : List Int} (h : OwnInts w lo hi (.slice A n c) xs) (hn : 0 < xs.length) :
    ∃ g, A = some ⟨g, 0, none⟩ ∧ lo ≤ g ∧ g < hi ∧ g < w.heap.size ∧ (∀ k (hk : k < xs.length), w.cell? ⟨g, k, none⟩ = some (.int .i64 xs[k])) ∧ ∀ k, w.frozen? ⟨g, k, none⟩ = false := by
  obtain ⟨g, cap, e, _, _⟩ := h.1.form hn
  injection e with e1 e2 e3
  subst e1
  subst e2
  obtain ⟨l1, l2, l3⟩ := h.lt (g := g) rfl
  obtain ⟨A', c', e, _, hx⟩ := h.rd
  injection e with e1 _ _
  obtain ⟨b, o, e2, _, hx⟩ := hx hn
  rw [← e1] at e2
  injection e2 with e2
  injection e2 with e2 e3 _
  subst e2
  subst e3
  exact ⟨g, rfl, l1, l2, l3, fun k hk => by simpa using hx k hk, fun k => World.ownsRow.frozenAt h.1 k⟩

theorem OwnInts.atG {w : World} {lo hi c n g : Nat} {xs : List Int} (h : OwnInts w lo hi (.slice (some ⟨g, 0, none⟩) n c) xs) (hn : 0 < xs.length) :
    lo ≤ g ∧ g < hi ∧ g < w.heap.size ∧ (∀ k (hk : k < xs.length), w.cell? ⟨g, k, none⟩ = some (.int .i64 xs[k])) ∧ ∀ k, w.frozen? ⟨g, k, none⟩ = false := by
  obtain ⟨g', e, h'⟩ := h.at_ hn
  injection e with e
  injection e with e _ _
  subst e
  exact h'

set_option maxHeartbeats 1000000 in
set_option maxRecDepth 100000 in
theorem l3Copy_any (v : Value) (xs : List Int) (w : World) (h : RdInts w w.heap.size v xs) (hr : xs.length ≤ 1048576) :
    Calls Try.prog 47 #[v] w fun e w' => ∃ A' c', e = .returned (.slice A' xs.length c') ∧ OwnInts w' w.heap.size w'.heap.size (.slice A' xs.length c') xs ∧ Below w.heap.size w w' := by
  obtain ⟨i0, hi0, hz0, hz1, hz2⟩ := info_parts Try.infoInt
  have H := Lib.hid h
  obtain ⟨A, c, rfl, hc, _⟩ := h
  have C0 := Lib.hid (ColI.empty (Below.refl w.heap.size w))
  go_enter Try.func47, Try.ntmps47
  go_wp2_with (fail)
  go_loopw [3, 4] (fun o i wr => ∃ (k : Nat) (A' : Option Addr) (c' : Nat), k ≤ xs.length ∧ i = .int .i64 k ∧ o = .slice A' (xs.take k).length c' ∧ ColI w wr (xs.take k) A' c') (fun _ i _ => xs.length - (intOf i).toNat)
  case atStart => exact ⟨0, _, 0, Nat.zero_le _, rfl, rfl, C0.out⟩
  case round =>
    obtain ⟨k, A', c', hk, rfl, rfl, hr'⟩ := hrel
    have hln : (xs.take k).length ≤ k := by simp; omega
    by_cases hlt : k < xs.length
    · have hre := H.out.below hr'.below (Nat.le_refl _)
      obtain ⟨A3, c3, e3, _, hx⟩ := hre
      injection e3 with e3 _ e4
      subst e3 e4
      obtain ⟨b, o, rfl, hbB, hx⟩ := hx (by omega)
      have hck : wr.cell? ⟨b, o + k, none⟩ = some (.int .i64 xs[k]) := hx k hlt
      have HS := Lib.hid (take_snoc xs k hlt)
      have HP := Lib.hid hr'
      clear hx hr'
      obtain ⟨x, hx⟩ : ∃ x, x = xs[k] := ⟨_, rfl⟩
      rw [← hx] at hck HS
      clear hx
      obtain ⟨zs, hzs⟩ : ∃ zs, zs = xs.take k := ⟨_, rfl⟩
      have HZ := Lib.hid hzs
      rw [← hzs] at HP hln ⊢
      clear hzs
      go_wp2_with (at_builtin; refine wpList_append_lies _ rfl (.tmp 12) (.tmp 17) 23 rfl w.heap.size 3 i0 (.int .i64 0) 1 8 Try.underlying23 hi0 hz0 hz1 hz2 rfl (by decide) (.slice A' zs.length c') zs.length (zs.map (Value.int .i64)) rfl ?c1 ⟨_, 0, none⟩ 1 1 [.int .i64 x] rfl rfl (news1s _ _ _ _ (by simp)) ?c2 (by omega) (by unfold maxLen; omega) (by omega) ?c3 _ rfl ?_)
      case c1 => exact HP.out.own.1.alloc _
      case c2 => first | rfl | (intro u hu; simp at hu; subst hu; rfl)
      case c3 => have := HP.out.below.size; simp; omega
      intro g cap w4 hown hg _ _
      have hcol := HP.out.push (Below.refl _ _) hg hown
      rw [HZ.out, ← HS.out] at hcol
      have hlen : zs.length + 1 = (xs.take (k + 1)).length := by rw [HS.out, HZ.out]; simp
      rw [hlen]
      have HC := Lib.hid hcol
      clear hcol hlen hown hg
      go_wp2_with (fail)
      go_roundw
      case rel => exact ⟨k + 1, _, _, by omega, by go_num, rfl, HC.out⟩
      case measure => simp [intOf]; omega
    · have hkn : k = xs.length := by omega
      have HZ := Lib.hid (show xs.take k = xs by rw [hkn, List.take_length])
      have HO := Lib.hid hr'
      rw [HZ.out] at HO ⊢
      clear hkn hr'
      go_wp2_with (fail)
      go_ret
      exact ⟨_, _, rfl, HO.out.own, HO.out.below⟩

set_option maxHeartbeats 4000000 in
set_option maxRecDepth 100000 in
theorem l3Match_n (v v2 v3 : Value) (a f : LFact) (bs R : List Int) (ok : Bool) (hR : R = (matchL a f bs).getD []) (hok : ok = (matchL a f bs).isSome) (w : World) (hb : bindOk bs = true) (h : RdFact w w.heap.size v a) (h2 : RdFact w w.heap.size v2 f) (h3 : RdInts w w.heap.size v3 bs)
    (ht : a.2.all termOk = true) (hf : f.2.all constOk = true) (hr : a.2.length ≤ 1048576) (hr2 : f.2.length ≤ 1048576) :
    Calls Try.prog 31 #[v, v2, v3] w fun e w' => ∃ A' c', e = .returned (.tuple #[.slice A' R.length c', .bool ok]) ∧ OwnInts w' w.heap.size w'.heap.size (.slice A' R.length c') R ∧ Below w.heap.size w w' := by
  obtain ⟨pa, xs⟩ := a
  obtain ⟨pf, ys⟩ := f
  simp only at ht hf hr hr2
  have HO := Lib.hid (And.intro hR hok)
  clear hR hok
  have H3 := Lib.hid h3
  obtain ⟨A3, c3, rfl, hc3, _⟩ := h3
  obtain ⟨u, rfl, A, c, rfl, hc, hA⟩ := h
  obtain ⟨u, rfl, A2, c2, rfl, hc2, hA2⟩ := h2
  by_cases hp : pa = pf
  · have hpb : (pa != pf) = false := by simp [hp]
    by_cases hl : xs.length = ys.length
    · have hl1 : ((xs.length : Int) != (ys.length : Int)) = false := by simp [hl]
      have HL := Lib.hid hl
      have HP := Lib.hid hp
      have HB := Lib.hid hb
      have HB4 := Lib.hid (bindOk_len hb)
      clear hl hp hb
      have x0 := (Blk.new w 25 #[.int .i64 pa, .slice A xs.length c]).alloc (Obj.cells #[.int .i64 pf, .slice A2 ys.length c2] 41)
      have x1 : Blk ((w.alloc (Obj.cells #[.int .i64 pa, .slice A xs.length c] 25)).alloc (Obj.cells #[.int .i64 pf, .slice A2 ys.length c2] 41)) (w.heap.size + 1) 41 #[.int .i64 pf, .slice A2 ys.length c2] := by simpa using Blk.new (w.alloc (Obj.cells #[.int .i64 pa, .slice A xs.length c] 25)) 41 #[.int .i64 pf, .slice A2 ys.length c2]
      go_enter Try.func31, Try.ntmps31
      go_wp2_with (fail)
      obtain ⟨w2, hw2⟩ : ∃ w2, w2 = ((w.alloc (Obj.cells #[Value.int IntKind.i64 pa, Value.slice A xs.length c] 25)).alloc (Obj.cells #[Value.int IntKind.i64 pf, Value.slice A2 ys.length c2] 41)) := ⟨_, rfl⟩
      have B2 : Below w.heap.size w w2 := by rw [hw2]; exact below2 _ _ _
      rw [← hw2] at x0 x1 ⊢
      clear hw2
      have l1 := x1.lt
      refine (l3Copy_any _ bs _ (H3.out.on B2) (by have := HB4.out; omega)).mono ?_
      rintro e w3 ⟨A', c', rfl, ho, hb3⟩
      obtain ⟨g, rfl, hg1, hg2, hg3, _, _⟩ := ho.at_ (by have := HB4.out; omega)
      have R0 : OwnInts w3 w2.heap.size w3.heap.size (.slice (some ⟨g, 0, none⟩) bs.length c') bs ∧ Below w.heap.size w w3 ∧ Blk w3 w.heap.size 25 #[.int .i64 pa, .slice A xs.length c] ∧ Blk w3 (w.heap.size + 1) 41 #[.int .i64 pf, .slice A2 ys.length c2] := ⟨ho, bthen B2 hb3, x0.below hb3 x0.lt, x1.below hb3 x1.lt⟩
      rw [HB4.out] at R0 ⊢
      clear ho hb3 x0 x1 hg3 hg2
      go_wp2_with (fail)
      go_loopw [9, 10] (fun i _ wr => ∃ (k : Nat) (cur : List Int), k ≤ xs.length ∧ i = .int .i64 k ∧ bindOk cur = true ∧ matchTo bs xs ys k = some cur ∧ OwnInts wr w2.heap.size wr.heap.size (.slice (some ⟨g, 0, none⟩) 4 c') cur ∧ Below w.heap.size w wr ∧ Blk wr w.heap.size 25 #[.int .i64 pa, .slice A xs.length c] ∧ Blk wr (w.heap.size + 1) 41 #[.int .i64 pf, .slice A2 ys.length c2]) (fun i _ _ => xs.length - (intOf i).toNat)
      case atStart => exact ⟨0, bs, Nat.zero_le _, rfl, HB.out, rfl, R0.1, R0.2.1, R0.2.2.1, R0.2.2.2⟩
      case round =>
        obtain ⟨k, cur, hk, rfl, hcb, hmt, ho, hbe, y0, y1⟩ := hrel
        have q01 : wr.cell? ⟨w.heap.size, 1, none⟩ = some (.slice A xs.length c) := y0.cell 1
        have q11 : wr.cell? ⟨w.heap.size + 1, 1, none⟩ = some (.slice A2 ys.length c2) := y1.cell 1
        have hcl := bindOk_len hcb
        have HP2 := Lib.hid (And.intro ho (And.intro hbe (And.intro y0 y1)))
        by_cases hlt : k < xs.length
        · have hlt2 : k < ys.length := by have := HL.out; omega
          obtain ⟨b, o, rfl, hbB, hx⟩ := hA (by omega)
          obtain ⟨b2, o2, rfl, hbB2, hx2⟩ := hA2 (by omega)
          have hck : wr.cell? ⟨b, o + k, none⟩ = some (.int .i64 xs[k]) := (hbe.cell (p := ⟨b, o + k, none⟩) hbB).trans (hx k hlt)
          have hck2 : wr.cell? ⟨b2, o2 + k, none⟩ = some (.int .i64 ys[k]) := (hbe.cell (p := ⟨b2, o2 + k, none⟩) hbB2).trans (hx2 k hlt2)
          have htk : termOk xs[k] = true := List.all_eq_true.1 ht _ (List.getElem_mem hlt)
          have hfk : 0 ≤ ys[k] ∧ ys[k] ≤ 5 := by simpa [constOk] using List.all_eq_true.1 hf _ (List.getElem_mem hlt2)
          have hst := matchTo_step hmt hlt hlt2
          have htb := termOk_at htk
          obtain ⟨hg1', _, hg3, hcc, hcf⟩ := ho.atG (by omega)
          clear hx hx2 hA hA2
          obtain ⟨t, htv⟩ : ∃ t, t = xs[k] := ⟨_, rfl⟩
          obtain ⟨y, hyv⟩ : ∃ y, y = ys[k] := ⟨_, rfl⟩
          rw [← htv] at htk hck hst htb
          rw [← hyv] at hfk hck2 hst
          clear htv hyv
          by_cases e2 : termVal cur t = -1
          · -- the variable gets it
            obtain ⟨q1, q2, q3⟩ := termVal_free htk e2
            obtain ⟨j, hj4, rfl⟩ : ∃ j : Nat, j < 4 ∧ t = -1 - (j : Int) := ⟨(-1 - t).toNat, by omega, by omega⟩
            have hjt : (-1 - (-1 - (j : Int))).toNat = j := by omega
            have hje : -1 - (-1 - (j : Int)) = (j : Int) := by omega
            rw [hjt] at q3
            have hjl : j < cur.length := by omega
            have hjI : (j : Int) < 4 := by omega
            have hcj : wr.cell? ⟨g, j, none⟩ = some (.int .i64 (-1)) := by
              have hh := hcc j hjl
              rwa [show cur[j] = -1 by simpa [hjl] using q3] at hh
            have hfj := hcf j
            have hoo := OwnInts.store (A := some ⟨g, 0, none⟩) (c := c') (g := g) (xs := cur) (by rw [hcl]; exact ho) rfl hjl y
            obtain ⟨ws, hws⟩ : ∃ ws, ws = wr.setCell ⟨g, j, none⟩ (.int .i64 y) := ⟨_, rfl⟩
            have z0 := y0.far (p := ⟨g, j, none⟩) (by show w.heap.size ≠ g; omega) (.int .i64 y)
            have z1 := y1.far (p := ⟨g, j, none⟩) (by show w.heap.size + 1 ≠ g; omega) (.int .i64 y)
            have zb : Below w.heap.size w ws := by rw [hws]; exact hbe.setCell (by show w.heap.size ≤ g; omega) _
            have hsz : ws.heap.size = wr.heap.size := by rw [hws]; simp
            rw [← hws] at hoo z0 z1
            rw [hcl] at hoo
            have HCS := Lib.hid (show bindOk (cur.set j y) = true from bindOk_set hcb (by omega) _)
            have hsl : (cur.set j y).length = 4 := by rw [List.length_set]; exact hcl
            have HMS := Lib.hid (show matchTo bs xs ys (k + 1) = some (cur.set j y) by rw [hst, stepM_new e2 (by omega), hjt])
            have HTV := Lib.hid (show termVal (cur.set j y) (-1 - (j : Int)) = y by
              rw [termVal_var (by omega), hjt]
              simp [hjl])
            have hck2s : ws.cell? ⟨b2, o2 + k, none⟩ = some (.int .i64 y) := by
              rw [hws, World.cell?_setCell_other _ _ _ _ (by intro e; injection e with e1 _ _; omega)]
              exact hck2
            have q11s : ws.cell? ⟨w.heap.size + 1, 1, none⟩ = some (.slice (some ⟨b2, o2, none⟩) ys.length c2) := z1.cell 1
            have HT := Lib.hid (fun n => quiet_left (l3Term_any (.slice (some ⟨g, 0, none⟩) 4 c') (cur.set j y) (-1 - (j : Int)) ws.heap.size (ws.drewN n) (by
              have := (hoo.rd.more (B' := ws.heap.size) (by omega)).below (bdrewN (Below.refl ws.heap.size ws) n) (Nat.le_refl _)
              exact this) hsl htk))
            have HQ := Lib.hid (And.intro (show OwnInts ws w2.heap.size ws.heap.size (.slice (some ⟨g, 0, none⟩) 4 c') (cur.set j y) by rw [hsz]; exact hoo) (And.intro zb (And.intro z0 z1)))
            have HW := Lib.hid hws
            have HE2 := Lib.hid (And.intro e2 (And.intro q3 (And.intro hst hmt)))
            clear hoo z0 z1 zb hws hst hmt e2 q3 hcc hcf ho y0 y1
            rw [HTV.out] at HT
            go_wp2_with (fail)
            rw [← HW.out]
            go_quiet ((go_at_call 41; exact HT.out _))
            go_wp2_with (fail)
            go_roundw
            case rel =>
              obtain ⟨a1, a2, a3, a4⟩ := HQ.out
              exact ⟨k + 1, _, by omega, by go_num, HCS.out, HMS.out, a1.below (bdrewN (Below.refl _ _) _) (Nat.le_refl _), bdrewN a2 _, a3.drewN _, a4.drewN _⟩
            case measure => simp [intOf]; omega
          · have HT := Lib.hid (fun n => quiet_left (l3Term_any (.slice (some ⟨g, 0, none⟩) 4 c') cur t wr.heap.size (wr.drewN n) (by
              have h' : OwnInts wr w2.heap.size wr.heap.size (.slice (some ⟨g, 0, none⟩) cur.length c') cur := by rw [hcl]; exact ho
              have := h'.rd.below (bdrewN (Below.refl wr.heap.size wr) n) (Nat.le_refl _)
              rw [hcl] at this
              exact this) hcl htk))
            -- no store: a constant, or a variable that has one
            have hns : 0 ≤ t ∨ ∃ j : Nat, ∃ hj : j < cur.length, t = -1 - (j : Int) ∧ 0 ≤ cur[j] := by
              rcases Int.lt_or_le t 0 with h0 | h0
              · right
                have hj : (-1 - t).toNat < cur.length := by omega
                refine ⟨(-1 - t).toNat, hj, by omega, ?_⟩
                rw [termVal_var h0] at e2
                have e3 : cur[(-1 - t).toNat] ≠ -1 := by simpa [hj] using e2
                have := bindOk_at hcb hj
                omega
              · exact .inl h0
            have HV := Lib.hid (And.intro e2 (And.intro hst hmt))
            clear e2 hst hmt y0 y1
            by_cases e1 : termVal cur t = y
            · have hd1 : (y != y) = false := by simp
              have HMS := Lib.hid (show matchTo bs xs ys (k + 1) = some cur by rw [HV.out.2.1, stepM_same e1])
              rw [e1] at HT
              clear e1
              rcases hns with h0 | ⟨j, hj, rfl, hj0⟩
              · have hd0 : decide (t < 0) = false := by simp; omega
                clear ho hcc hcf
                go_wp2_with (fail)
                go_quiet ((go_at_call 41; exact HT.out _))
                go_wp2_with (fail)
                go_roundw
                case rel =>
                  obtain ⟨a1, a2, a3, a4⟩ := HP2.out
                  exact ⟨k + 1, _, by omega, by go_num, hcb, HMS.out, a1.below (bdrewN (Below.refl _ _) _) (Nat.le_refl _), bdrewN a2 _, a3.drewN _, a4.drewN _⟩
                case measure => simp [intOf]; omega
              · have hje : -1 - (-1 - (j : Int)) = (j : Int) := by omega
                have hjI : (j : Int) < 4 := by omega
                have hcj : wr.cell? ⟨g, j, none⟩ = some (.int .i64 cur[j]) := hcc j hj
                have hdj : decide (cur[j] < 0) = false := by simp; omega
                clear ho hcc hcf
                go_wp2_with (fail)
                go_quiet ((go_at_call 41; exact HT.out _))
                go_wp2_with (fail)
                go_roundw
                case rel =>
                  obtain ⟨a1, a2, a3, a4⟩ := HP2.out
                  exact ⟨k + 1, _, by omega, by go_num, hcb, HMS.out, a1.below (bdrewN (Below.refl _ _) _) (Nat.le_refl _), bdrewN a2 _, a3.drewN _, a4.drewN _⟩
                case measure => simp [intOf]; omega
            · have hd1 : (termVal cur t != y) = true := by simpa using e1
              have HN := Lib.hid (show matchL (pa, xs) (pf, ys) bs = none from matchL_stop HP.out HL.out hlt (by rw [HV.out.2.1, stepM_no e1 HV.out.1]))
              have HZ := Lib.hid (show R = [] ∧ ok = false from ⟨by rw [HO.out.1, HN.out]; rfl, by rw [HO.out.2, HN.out]; rfl⟩)
              clear e1
              rcases hns with h0 | ⟨j, hj, rfl, hj0⟩
              · have hd0 : decide (t < 0) = false := by simp; omega
                clear ho hcc hcf
                go_wp2_with (fail)
                go_quiet ((go_at_call 41; exact HT.out _))
                go_wp2_with (fail)
                go_ret2
                rw [HZ.out.1, HZ.out.2]
                exact ⟨none, 0, rfl, zeroI _ _ _, bdrewN hbe _⟩
              · have hje : -1 - (-1 - (j : Int)) = (j : Int) := by omega
                have hjI : (j : Int) < 4 := by omega
                have hcj : wr.cell? ⟨g, j, none⟩ = some (.int .i64 cur[j]) := hcc j hj
                have hdj : decide (cur[j] < 0) = false := by simp; omega
                clear ho hcc hcf
                go_wp2_with (fail)
                go_quiet ((go_at_call 41; exact HT.out _))
                go_wp2_with (fail)
                go_ret2
                rw [HZ.out.1, HZ.out.2]
                exact ⟨none, 0, rfl, zeroI _ _ _, bdrewN hbe _⟩
        · have hkn : k = xs.length := by omega
          have HN := Lib.hid (show matchL (pa, xs) (pf, ys) bs = some cur by rw [matchL_eq HP.out HL.out, ← hmt, hkn])
          have HZ := Lib.hid (show R = cur ∧ ok = true from ⟨by rw [HO.out.1, HN.out]; rfl, by rw [HO.out.2, HN.out]; rfl⟩)
          have HCL := Lib.hid hcl
          clear hkn hmt hA hA2 ho y0 y1 hcl
          go_wp2_with (fail)
          go_ret2
          rw [HZ.out.1, HZ.out.2, HCL.out]
          exact ⟨_, _, rfl, HP2.out.1.mono (by omega) (Nat.le_refl _), hbe⟩
    · have hl1 : ((xs.length : Int) != (ys.length : Int)) = true := by simp; omega
      have HN := Lib.hid (show matchL (pa, xs) (pf, ys) bs = none from matchL_len hl)
      have HZ := Lib.hid (show R = [] ∧ ok = false from ⟨by rw [HO.out.1, HN.out]; rfl, by rw [HO.out.2, HN.out]; rfl⟩)
      clear hA hA2 hl
      go_enter Try.func31, Try.ntmps31
      go_wp2_with (fail)
      go_ret2
      rw [HZ.out.1, HZ.out.2]
      exact ⟨none, 0, rfl, zeroI _ _ _, below2 _ _ _⟩
  · have hpb : (pa != pf) = true := by simp [hp]
    have HN := Lib.hid (show matchL (pa, xs) (pf, ys) bs = none from matchL_pred hp)
    have HZ := Lib.hid (show R = [] ∧ ok = false from ⟨by rw [HO.out.1, HN.out]; rfl, by rw [HO.out.2, HN.out]; rfl⟩)
    clear hA hA2 hp
    go_enter Try.func31, Try.ntmps31
    go_wp2_with (fail)
    go_ret2
    rw [HZ.out.1, HZ.out.2]
    exact ⟨none, 0, rfl, zeroI _ _ _, below2 _ _ _⟩

end Go.Proofs.Ytfjmnjemmfmoaaa
/-
  Both Holds.
-/
namespace Go.Proofs.Ytfjmnjemmfmoaaa
open Go.RowKit

/-- LitSame, LitLess: both have constants, and are the same, or the first is less. -/
def cmpB (k a b : Int) : Bool := (decide (0 ≤ a) && decide (0 ≤ b)) && (if k = 2 then decide (a = b) else decide (a < b))
def litHolds (fs : List LFact) (l : LLit) (bs : List Int) : Bool :=
  if l.1 = 2 ∨ l.1 = 3 then decide (l.2.2.length = 2) && cmpB l.1 (termVal bs (l.2.2.getD 0 0)) (termVal bs (l.2.2.getD 1 0))
  else (headOk l.2 bs && decide (0 ≤ l.1 ∧ l.1 ≤ 1)) && (factsHas fs (headOf l.2 bs) == decide (l.1 = 0))
def holdsB (fs : List LFact) (l : LLit) (bs : List Int) : Bool := (bindOk bs && l.2.2.all termOk) && litHolds fs l bs

theorem cmpB_neg {k a b : Int} (h : a < 0) : cmpB k a b = false := by unfold cmpB; rw [decide_eq_false (show ¬ 0 ≤ a by omega)]; rfl
theorem cmpB_neg2 {k a b : Int} (h : b < 0) : cmpB k a b = false := by unfold cmpB; rw [decide_eq_false (show ¬ 0 ≤ b by omega), Bool.and_false]; rfl
theorem cmpB_same {a b : Int} (h : 0 ≤ a) (h2 : 0 ≤ b) : cmpB 2 a b = decide (a = b) := by unfold cmpB; rw [decide_eq_true h, decide_eq_true h2]; simp
theorem cmpB_less {a b : Int} (h : 0 ≤ a) (h2 : 0 ≤ b) : cmpB 3 a b = decide (a < b) := by unfold cmpB; rw [decide_eq_true h, decide_eq_true h2]; simp

theorem comparison_any (k a b : Int) (hk : k = 2 ∨ k = 3) (w : World) :
    Calls Try.prog 34 #[.int .i64 k, .int .i64 a, .int .i64 b] w fun e w' => e = .returned (.bool (cmpB k a b)) ∧ w = w' := by
  by_cases h1 : a < 0
  · have HE := Lib.hid (cmpB_neg (k := k) (b := b) h1)
    go_enter Try.func34, Try.ntmps34
    go_wp2_with (fail)
    go_ret
    exact ⟨ret_bool HE.out.symm, rfl⟩
  · have hd1 : decide (a < 0) = false := by simpa using h1
    by_cases h2 : b < 0
    · have HE := Lib.hid (cmpB_neg2 (k := k) (a := a) h2)
      go_enter Try.func34, Try.ntmps34
      go_wp2_with (fail)
      go_ret
      exact ⟨ret_bool HE.out.symm, rfl⟩
    · have hd2 : decide (b < 0) = false := by simpa using h2
      rcases hk with rfl | rfl
      · by_cases h3 : a = b
        · have HE := Lib.hid (show cmpB 2 a b = true by rw [cmpB_same (by omega) (by omega)]; exact decide_eq_true h3)
          have hd3 : (a == b) = true := by simpa using h3
          clear h3
          go_enter Try.func34, Try.ntmps34
          go_wp2_with (fail)
          go_ret
          exact ⟨ret_bool HE.out.symm, rfl⟩
        · have HE := Lib.hid (show cmpB 2 a b = false by rw [cmpB_same (by omega) (by omega)]; exact decide_eq_false h3)
          have hd3 : (a == b) = false := by simpa using h3
          clear h3
          go_enter Try.func34, Try.ntmps34
          go_wp2_with (fail)
          go_ret
          exact ⟨ret_bool HE.out.symm, rfl⟩
      · by_cases h3 : a < b
        · have HE := Lib.hid (show cmpB 3 a b = true by rw [cmpB_less (by omega) (by omega)]; exact decide_eq_true h3)
          go_enter Try.func34, Try.ntmps34
          go_wp2_with (fail)
          go_ret
          exact ⟨ret_bool HE.out.symm, rfl⟩
        · have HE := Lib.hid (show cmpB 3 a b = false by rw [cmpB_less (by omega) (by omega)]; exact decide_eq_false h3)
          have hd3 : decide (a < b) = false := by simpa using h3
          go_enter Try.func34, Try.ntmps34
          go_wp2_with (fail)
          go_ret
          exact ⟨ret_bool HE.out.symm, rfl⟩

/-- Two values, and what a comparison of them answers. -/
theorem cmpB_cases (k a b : Int) (hk : k = 2 ∨ k = 3) : (a < 0 ∧ cmpB k a b = false) ∨ (0 ≤ a ∧ b < 0 ∧ cmpB k a b = false) ∨ (0 ≤ a ∧ 0 ≤ b ∧ cmpB k a b = (if k = 2 then a == b else decide (a < b))) := by
  rcases Int.lt_or_le a 0 with h | h
  · exact .inl ⟨h, cmpB_neg h⟩
  · rcases Int.lt_or_le b 0 with h2 | h2
    · exact .inr (.inl ⟨h, h2, cmpB_neg2 h2⟩)
    · refine .inr (.inr ⟨h, h2, ?_⟩)
      rcases hk with rfl | rfl
      · rw [cmpB_same h h2]
        rfl
      · rw [cmpB_less h h2]
        rfl

set_option maxHeartbeats 2000000 in
set_option maxRecDepth 100000 in
theorem l3HoldsCmp_any (v v3 : Value) (l : LLit) (bs : List Int) (v0 : Value) (w : World) (hkd : l.1 = 2 ∨ l.1 = 3) (h2 : RdLit w w.heap.size v l) (h3 : RdInts w w.heap.size v3 bs) (hb : bs.length = 4) (ht : l.2.2.all termOk = true) :
    Calls Try.prog 42 #[v0, v, v3] w fun e w' => e = .returned (.bool (decide (l.2.2.length = 2) && cmpB l.1 (termVal bs (l.2.2.getD 0 0)) (termVal bs (l.2.2.getD 1 0)))) ∧ Below w.heap.size w w' := by
  obtain ⟨kd, p, xs⟩ := l
  obtain ⟨u, rfl, A, c, rfl, hc, hx⟩ := h2
  simp only at hkd hx hc ht
  have H3 := Lib.hid h3
  obtain ⟨A3, c3, rfl, hc3, _⟩ := h3
  have HB := Lib.hid hb
  clear hb
  have y0 := Blk.new w 27 #[.int .i64 kd, .int .i64 p, .slice A xs.length c]
  by_cases hl : xs.length = 2
  · obtain ⟨s, t, rfl⟩ : ∃ s t, xs = [s, t] := by
      match xs, hl with
      | [s, t], _ => exact ⟨s, t, rfl⟩
    obtain ⟨b, o, rfl, hbB, hx⟩ := hx (by simp)
    have hs := List.all_eq_true.1 ht s (by simp)
    have htt := List.all_eq_true.1 ht t (by simp)
    have c0 : ∀ O, (w.alloc O).cell? ⟨b, o, none⟩ = some (.int .i64 s) := fun O => (World.cell?_alloc_lt w O ⟨b, o, none⟩ hbB).trans (hx 0 (by simp))
    have c1 : ∀ O, (w.alloc O).cell? ⟨b, o + 1, none⟩ = some (.int .i64 t) := fun O => (World.cell?_alloc_lt w O ⟨b, o + 1, none⟩ hbB).trans (hx 1 (by simp))
    have T1 := Lib.hid (fun O => l3Term_any (.slice A3 bs.length c3) bs s _ (w.alloc O) (H3.out.on (below1 w O)) HB.out hs)
    have T2 := Lib.hid (fun O => l3Term_any (.slice A3 bs.length c3) bs t _ (w.alloc O) (H3.out.on (below1 w O)) HB.out htt)
    obtain ⟨R, hR⟩ : ∃ R, R = cmpB kd (termVal bs s) (termVal bs t) := ⟨_, rfl⟩
    have HR := Lib.hid hR
    have HX := Lib.hid (cmpB_cases kd (termVal bs s) (termVal bs t) hkd)
    rw [← hR] at HX
    obtain ⟨av, hav⟩ : ∃ av, av = termVal bs s := ⟨_, rfl⟩
    obtain ⟨bv, hbv⟩ : ∃ bv, bv = termVal bs t := ⟨_, rfl⟩
    rw [← hav] at T1 HX
    rw [← hbv] at T2 HX
    have HG := Lib.hid (show (decide ([s, t].length = 2) && cmpB kd (termVal bs ([s, t].getD 0 0)) (termVal bs ([s, t].getD 1 0))) = R by rw [hR]; rfl)
    show Calls _ _ _ _ fun e w' => e = .returned (.bool (decide ([s, t].length = 2) && cmpB kd (termVal bs ([s, t].getD 0 0)) (termVal bs ([s, t].getD 1 0)))) ∧ _
    rw [HG.out]
    clear hR hav hbv hs htt ht hx hl HR
    have q0 := y0.cell 0
    have q1 := y0.cell 1
    have q2 := y0.cell 2
    simp only [List.length_cons, List.length_nil] at q2
    rcases hkd with rfl | rfl
    · rcases HX.out with ⟨h1, e⟩ | ⟨h1, h2, e⟩ | ⟨h1, h2, e⟩
      · have hd1 : decide (0 ≤ av) = false := by simp; omega
        have HE := Lib.hid e
        clear e
        go_enter Try.func42, Try.ntmps42
        go_wp2_with (fail)
        refine (T1.out _).mono ?_
        rintro e w' ⟨rfl, rfl⟩
        go_wp2_with (fail)
        refine (T2.out _).mono ?_
        rintro e w' ⟨rfl, rfl⟩
        go_wp2_with (fail)
        go_ret
        exact ⟨ret_bool HE.out.symm, below1 _ _⟩
      · have hd2 : decide (0 ≤ bv) = false := by simp; omega
        have HE := Lib.hid e
        clear e
        go_enter Try.func42, Try.ntmps42
        go_wp2_with (fail)
        refine (T1.out _).mono ?_
        rintro e w' ⟨rfl, rfl⟩
        go_wp2_with (fail)
        refine (T2.out _).mono ?_
        rintro e w' ⟨rfl, rfl⟩
        go_wp2_with (fail)
        go_ret
        exact ⟨ret_bool HE.out.symm, below1 _ _⟩
      · have e' : R = (av == bv) := e
        clear e
        by_cases h3 : av = bv
        · have hd3 : (av == bv) = true := by simpa using h3
          have HE := Lib.hid (show R = true by rw [e', hd3])
          clear e' h3
          go_enter Try.func42, Try.ntmps42
          go_wp2_with (fail)
          refine (T1.out _).mono ?_
          rintro e w' ⟨rfl, rfl⟩
          go_wp2_with (fail)
          refine (T2.out _).mono ?_
          rintro e w' ⟨rfl, rfl⟩
          go_wp2_with (fail)
          go_ret
          exact ⟨ret_bool HE.out.symm, below1 _ _⟩
        · have hd3 : (av == bv) = false := by simpa using h3
          have HE := Lib.hid (show R = false by rw [e', hd3])
          clear e' h3
          go_enter Try.func42, Try.ntmps42
          go_wp2_with (fail)
          refine (T1.out _).mono ?_
          rintro e w' ⟨rfl, rfl⟩
          go_wp2_with (fail)
          refine (T2.out _).mono ?_
          rintro e w' ⟨rfl, rfl⟩
          go_wp2_with (fail)
          go_ret
          exact ⟨ret_bool HE.out.symm, below1 _ _⟩
    · rcases HX.out with ⟨h1, e⟩ | ⟨h1, h2, e⟩ | ⟨h1, h2, e⟩
      · have hd1 : decide (0 ≤ av) = false := by simp; omega
        have HE := Lib.hid e
        clear e
        go_enter Try.func42, Try.ntmps42
        go_wp2_with (fail)
        refine (T1.out _).mono ?_
        rintro e w' ⟨rfl, rfl⟩
        go_wp2_with (fail)
        refine (T2.out _).mono ?_
        rintro e w' ⟨rfl, rfl⟩
        go_wp2_with (fail)
        go_ret
        exact ⟨ret_bool HE.out.symm, below1 _ _⟩
      · have hd2 : decide (0 ≤ bv) = false := by simp; omega
        have HE := Lib.hid e
        clear e
        go_enter Try.func42, Try.ntmps42
        go_wp2_with (fail)
        refine (T1.out _).mono ?_
        rintro e w' ⟨rfl, rfl⟩
        go_wp2_with (fail)
        refine (T2.out _).mono ?_
        rintro e w' ⟨rfl, rfl⟩
        go_wp2_with (fail)
        go_ret
        exact ⟨ret_bool HE.out.symm, below1 _ _⟩
      · have e' : R = decide (av < bv) := e
        clear e
        by_cases h3 : av < bv
        · have HE := Lib.hid (show R = true by rw [e']; exact decide_eq_true h3)
          clear e'
          go_enter Try.func42, Try.ntmps42
          go_wp2_with (fail)
          refine (T1.out _).mono ?_
          rintro e w' ⟨rfl, rfl⟩
          go_wp2_with (fail)
          refine (T2.out _).mono ?_
          rintro e w' ⟨rfl, rfl⟩
          go_wp2_with (fail)
          go_ret
          exact ⟨ret_bool HE.out.symm, below1 _ _⟩
        · have hd3 : decide (av < bv) = false := by simpa using h3
          have HE := Lib.hid (show R = false by rw [e', hd3])
          clear e'
          go_enter Try.func42, Try.ntmps42
          go_wp2_with (fail)
          refine (T1.out _).mono ?_
          rintro e w' ⟨rfl, rfl⟩
          go_wp2_with (fail)
          refine (T2.out _).mono ?_
          rintro e w' ⟨rfl, rfl⟩
          go_wp2_with (fail)
          go_ret
          exact ⟨ret_bool HE.out.symm, below1 _ _⟩
  · have hl1 : ((xs.length : Int) != 2) = true := by simp; omega
    have HG := Lib.hid (show (decide (xs.length = 2) && cmpB kd (termVal bs (xs.getD 0 0)) (termVal bs (xs.getD 1 0))) = false by rw [decide_eq_false hl]; rfl)
    show Calls _ _ _ _ fun e w' => e = .returned (.bool (decide (xs.length = 2) && cmpB kd (termVal bs (xs.getD 0 0)) (termVal bs (xs.getD 1 0)))) ∧ _
    rw [HG.out]
    clear hx hl
    have q0 := y0.cell 0
    have q2 := y0.cell 2
    rcases hkd with rfl | rfl
    all_goals
      go_enter Try.func42, Try.ntmps42
      go_wp2_with (fail)
      go_ret
      exact ⟨rfl, below1 _ _⟩

end Go.Proofs.Ytfjmnjemmfmoaaa
/-
  Both Holds: literals that an atom holds, or does not.
-/
namespace Go.Proofs.Ytfjmnjemmfmoaaa
open Go.RowKit

theorem l1In_is {n lo hi : Int} {b : Bool} (h : decide (lo ≤ n ∧ n ≤ hi) = b) (w : World) : Calls Try.prog 28 #[.int .i64 n, .int .i64 lo, .int .i64 hi] w fun e w' => e = .returned (.bool b) ∧ w = w' := h ▸ l1In_any n lo hi w

set_option maxHeartbeats 2000000 in
set_option maxRecDepth 100000 in
theorem l3HoldsAsk_any (v0 v v3 : Value) (fs : List LFact) (l : LLit) (bs : List Int) (w : World) (hkd : ¬ (l.1 = 2 ∨ l.1 = 3)) (h1 : RdFacts w w.heap.size v0 fs) (h2 : RdLit w w.heap.size v l) (h3 : RdInts w w.heap.size v3 bs)
    (hn : fs.length ≤ 1048576) (htt : tot fs ≤ 1048576) (hr : l.2.2.length ≤ 1048576) (hr2 : bs.length ≤ 1048576) :
    Calls Try.prog 42 #[v0, v, v3] w fun e w' => e = .returned (.bool ((headOk l.2 bs && decide (0 ≤ l.1 ∧ l.1 ≤ 1)) && (factsHas fs (headOf l.2 bs) == decide (l.1 = 0)))) ∧ Below w.heap.size w w' := by
  obtain ⟨kd, a⟩ := l
  obtain ⟨u, rfl, h2⟩ := h2
  have H1 := Lib.hid h1
  have H2 := Lib.hid h2
  have H3 := Lib.hid h3
  obtain ⟨A1, c1, rfl, hc1, _⟩ := h1
  obtain ⟨A, c, rfl, hc, _⟩ := h2
  obtain ⟨A3, c3, rfl, hc3, _⟩ := h3
  simp only at hkd hc hr
  obtain ⟨F, hF⟩ : ∃ F, F = headOf a bs := ⟨_, rfl⟩
  obtain ⟨ok, hok⟩ : ∃ ok, ok = headOk a bs := ⟨_, rfl⟩
  obtain ⟨hs, hhs⟩ : ∃ hs, hs = factsHas fs F := ⟨_, rfl⟩
  obtain ⟨R, hR⟩ : ∃ R, R = ((ok && decide (0 ≤ kd ∧ kd ≤ 1)) && (hs == decide (kd = 0))) := ⟨_, rfl⟩
  show Calls _ _ _ _ fun e w' => e = .returned (.bool ((headOk a bs && decide (0 ≤ kd ∧ kd ≤ 1)) && (factsHas fs (headOf a bs) == decide (kd = 0)))) ∧ _
  rw [← hF, ← hok, ← hhs, ← hR]
  have HR := Lib.hid hR
  have HF := Lib.hid (And.intro hF hok)
  have HFL := Lib.hid (show F.2.length ≤ 1048576 by have := headOf_length a bs; rw [hF]; omega)
  have HH := Lib.hid hhs
  clear hR hF hok hhs
  have k2 : (kd == 2) = false := by have h : kd ≠ 2 := fun e => hkd (.inl e); simpa using h
  have k3 : (kd == 3) = false := by have h : kd ≠ 3 := fun e => hkd (.inr e); simpa using h
  have y0 := Blk.new w 27 #[.int .i64 kd, .int .i64 a.1, .slice A a.2.length c]
  have q0 := y0.cell 0
  have q1 := y0.cell 1
  have q2 := y0.cell 2
  go_enter Try.func42, Try.ntmps42
  go_wp2_with (fail)
  obtain ⟨w1, hw1⟩ : ∃ w1, w1 = w.alloc (Obj.cells #[Value.int IntKind.i64 kd, Value.int IntKind.i64 a.1, Value.slice A a.2.length c] 27) := ⟨_, rfl⟩
  have B1 : Below w.heap.size w w1 := by rw [hw1]; exact below1 _ _
  rw [← hw1] at y0 ⊢
  clear hw1 q0 q1 q2
  refine (specHeadOf_any _ _ a bs _ ⟨_, rfl, H2.out.on B1⟩ (H3.out.on B1) hr hr2).mono ?_
  rw [← HF.out.1, ← HF.out.2]
  rintro e w2 ⟨A', c', rfl, ho, hb2⟩
  have B2 := bthen B1 hb2
  have y2 := y0.below hb2 y0.lt
  have HO := Lib.hid ho
  clear ho y0
  go_wp2_with (fail)
  obtain ⟨w3, hw3⟩ : ∃ w3, w3 = w2.alloc (Obj.cells #[Value.int IntKind.i64 F.1, Value.slice A' F.2.length c'] 41) := ⟨_, rfl⟩
  have B23 : Below w2.heap.size w2 w3 := by rw [hw3]; exact below1 _ _
  have f3 : Blk w3 w2.heap.size 41 #[.int .i64 F.1, .slice A' F.2.length c'] := by rw [hw3]; exact Blk.new _ _ _
  rw [← hw3]
  clear hw3
  have y3 := y2.below B23 y2.lt
  have B3 := bthen B2 B23
  have RF := Lib.hid (show RdFact w3 w3.heap.size (.agg #[.int .i64 F.1, .slice A' F.2.length c']) F from ⟨_, rfl, HO.out.rd.on B23⟩)
  have L0 := later_cell (y3.cell 0 : w3.cell? ⟨w.heap.size, 0, none⟩ = some (.int .i64 kd))
  have L1 := later_cell (f3.cell 0 : w3.cell? ⟨w2.heap.size, 0, none⟩ = some (.int .i64 F.1))
  have L2 := later_cell (f3.cell 1 : w3.cell? ⟨w2.heap.size, 1, none⟩ = some (.slice A' F.2.length c'))
  have CF := Lib.hid (fun x : Later w3 => (specFactsHas_any _ _ fs F x.val ((H1.out.on B3).on x.2) (RF.out.on x.2) hn htt HFL.out))
  rw [← HH.out] at CF
  clear y2 y3 f3
  cases ok
  · have HE := Lib.hid (show R = false by rw [HR.out]; rfl)
    refine wp_region_later (by kernel_rfl) (by kernel_rfl) ?_
    repeat (go_big_quiet_step (fail))
    refine wpQuiet_nil ?_
    rintro _ ⟨xq, rfl⟩
    go_wp2_with (fail)
    go_ret
    exact ⟨ret_bool HE.out.symm, bthen B3 xq.2⟩
  · by_cases hin : 0 ≤ kd ∧ kd ≤ 1
    · have CI := Lib.hid (fun W => l1In_yes hin W)
      have HD := Lib.hid (show R = (hs == decide (kd = 0)) by rw [HR.out, decide_eq_true hin]; rfl)
      by_cases h0 : kd = 0
      · have k0 : (kd == 0) = true := by simpa using h0
        have HE := Lib.hid (show R = (hs == true) by rw [HD.out, decide_eq_true h0])
        clear h0 hin
        cases hs
        all_goals
          refine wp_region_later (by kernel_rfl) (by kernel_rfl) ?_
          repeat (go_big_quiet_step (first | (go_at_call 28; exact later_same (CI.out _)) | (go_at_call 56; exact later_of (CF.out _))))
          refine wpQuiet_nil ?_
          rintro _ ⟨xq, rfl⟩
          go_wp2_with (fail)
          go_ret
          exact ⟨ret_bool (by rw [HE.out]; rfl), bthen B3 xq.2⟩
      · have k0 : (kd == 0) = false := by simpa using h0
        have HE := Lib.hid (show R = (hs == false) by rw [HD.out, decide_eq_false h0])
        clear h0 hin
        cases hs
        all_goals
          refine wp_region_later (by kernel_rfl) (by kernel_rfl) ?_
          repeat (go_big_quiet_step (first | (go_at_call 28; exact later_same (CI.out _)) | (go_at_call 56; exact later_of (CF.out _))))
          refine wpQuiet_nil ?_
          rintro _ ⟨xq, rfl⟩
          go_wp2_with (fail)
          go_ret
          exact ⟨ret_bool (by rw [HE.out]; rfl), bthen B3 xq.2⟩
    · have CI := Lib.hid (fun W => l1In_no hin W)
      have HE := Lib.hid (show R = false by rw [HR.out, decide_eq_false hin]; rfl)
      clear hin
      refine wp_region_later (by kernel_rfl) (by kernel_rfl) ?_
      repeat (go_big_quiet_step (first | (go_at_call 28; exact later_same (CI.out _))))
      refine wpQuiet_nil ?_
      rintro _ ⟨xq, rfl⟩
      go_wp2_with (fail)
      go_ret
      exact ⟨ret_bool HE.out.symm, bthen B3 xq.2⟩

theorem l3Holds_any (v0 v v3 : Value) (fs : List LFact) (l : LLit) (bs : List Int) (w : World) (h1 : RdFacts w w.heap.size v0 fs) (h2 : RdLit w w.heap.size v l) (h3 : RdInts w w.heap.size v3 bs)
    (hb : bs.length = 4) (ht : l.2.2.all termOk = true) (hn : fs.length ≤ 1048576) (htt : tot fs ≤ 1048576) (hr : l.2.2.length ≤ 1048576) :
    Calls Try.prog 42 #[v0, v, v3] w fun e w' => e = .returned (.bool (litHolds fs l bs)) ∧ Below w.heap.size w w' := by
  by_cases h : l.1 = 2 ∨ l.1 = 3
  · have := l3HoldsCmp_any v v3 l bs v0 w h h2 h3 hb ht
    unfold litHolds
    rw [if_pos h]
    exact this
  · have := l3HoldsAsk_any v0 v v3 fs l bs w h h1 h2 h3 hn htt hr (by omega)
    unfold litHolds
    rw [if_neg h]
    exact this

set_option maxHeartbeats 2000000 in
set_option maxRecDepth 100000 in
theorem specHolds_any (v0 v v3 : Value) (fs : List LFact) (l : LLit) (bs : List Int) (w : World) (h1 : RdFacts w w.heap.size v0 fs) (h2 : RdLit w w.heap.size v l) (h3 : RdInts w w.heap.size v3 bs)
    (hn : fs.length ≤ 1048576) (htt : tot fs ≤ 1048576) (hr : l.2.2.length ≤ 1048576) (hr2 : bs.length ≤ 1048576) :
    Calls Try.prog 16 #[v0, v, v3] w fun e w' => e = .returned (.bool (holdsB fs l bs)) ∧ Below w.heap.size w w' := by
  obtain ⟨u, rfl, h2⟩ := h2
  have H1 := Lib.hid h1
  have H2 := Lib.hid h2
  have H3 := Lib.hid h3
  obtain ⟨A1, c1, rfl, hc1, _⟩ := h1
  obtain ⟨A, c, rfl, hc, _⟩ := h2
  obtain ⟨A3, c3, rfl, hc3, _⟩ := h3
  obtain ⟨R, hR⟩ : ∃ R, R = holdsB fs l bs := ⟨_, rfl⟩
  rw [← hR]
  have HR := Lib.hid hR
  clear hR
  have y0 := Blk.new w 27 #[.int .i64 l.1, .int .i64 l.2.1, .slice A l.2.2.length c]
  have q0 := y0.cell 0
  have q1 := y0.cell 1
  have q2 := y0.cell 2
  by_cases hb : bindOk bs = true
  · have L1 := Lib.hid (fun O => l3Bind_is hb (.slice A3 bs.length c3) _ (w.alloc O) (H3.out.on (below1 w O)) hr2)
    by_cases ht : l.2.2.all termOk = true
    · have L2 := Lib.hid (fun O => l2Terms_is ht (.slice A l.2.2.length c) _ (w.alloc O) (H2.out.on (below1 w O)) hr)
      have L3 := Lib.hid (fun O => l3Holds_any (.slice A1 fs.length c1) (.agg #[.int .i64 l.1, .int .i64 l.2.1, .slice A l.2.2.length c]) (.slice A3 bs.length c3) fs l bs (w.alloc O) (H1.out.on (below1 w O)) ⟨_, rfl, H2.out.on (below1 w O)⟩ (H3.out.on (below1 w O)) (bindOk_len hb) ht hn htt hr)
      obtain ⟨S, hS⟩ : ∃ S, S = litHolds fs l bs := ⟨_, rfl⟩
      rw [← hS] at L3
      have HE := Lib.hid (show R = S by rw [HR.out, hS]; unfold holdsB; rw [hb, ht]; rfl)
      clear hb ht hS
      go_enter Try.func16, Try.ntmps16
      go_wp2_with (fail)
      refine (L1.out _).mono ?_
      rintro e w' ⟨rfl, rfl⟩
      go_wp2_with (fail)
      refine (L2.out _).mono ?_
      rintro e w' ⟨rfl, rfl⟩
      go_wp2_with (fail)
      refine (L3.out _).mono ?_
      rintro e w2 ⟨rfl, hb2⟩
      have B2 := bthen (below1 _ _) hb2
      clear hb2
      go_wp2_with (fail)
      go_ret
      exact ⟨ret_bool HE.out.symm, B2⟩
    · have ht' : l.2.2.all termOk = false := by simpa using ht
      have L2 := Lib.hid (fun O => l2Terms_is ht' (.slice A l.2.2.length c) _ (w.alloc O) (H2.out.on (below1 w O)) hr)
      have HE := Lib.hid (show R = false by rw [HR.out]; unfold holdsB; rw [ht', Bool.and_false]; rfl)
      clear hb ht ht'
      go_enter Try.func16, Try.ntmps16
      go_wp2_with (fail)
      refine (L1.out _).mono ?_
      rintro e w' ⟨rfl, rfl⟩
      go_wp2_with (fail)
      refine (L2.out _).mono ?_
      rintro e w' ⟨rfl, rfl⟩
      go_wp2_with (fail)
      go_ret
      exact ⟨ret_bool HE.out.symm, below1 _ _⟩
  · have hb' : bindOk bs = false := by simpa using hb
    have L1 := Lib.hid (fun O => l3Bind_is hb' (.slice A3 bs.length c3) _ (w.alloc O) (H3.out.on (below1 w O)) hr2)
    have HE := Lib.hid (show R = false by rw [HR.out]; unfold holdsB; rw [hb']; rfl)
    clear hb hb'
    go_enter Try.func16, Try.ntmps16
    go_wp2_with (fail)
    refine (L1.out _).mono ?_
    rintro e w' ⟨rfl, rfl⟩
    go_wp2_with (fail)
    go_ret
    exact ⟨ret_bool HE.out.symm, below1 _ _⟩

set_option maxHeartbeats 2000000 in
set_option maxRecDepth 100000 in
theorem implHolds_any (v0 v v3 : Value) (fs : List LFact) (l : LLit) (bs : List Int) (w : World) (h1 : RdFacts w w.heap.size v0 fs) (h2 : RdLit w w.heap.size v l) (h3 : RdInts w w.heap.size v3 bs)
    (hn : fs.length ≤ 1048576) (htt : tot fs ≤ 1048576) (hr : l.2.2.length ≤ 1048576) (hr2 : bs.length ≤ 1048576) :
    Calls Try.prog 12 #[v0, v, v3] w fun e w' => e = .returned (.bool (holdsB fs l bs)) ∧ Below w.heap.size w w' := by
  obtain ⟨kd, a⟩ := l
  obtain ⟨u, rfl, h2⟩ := h2
  have H1 := Lib.hid h1
  have H2 := Lib.hid h2
  have H3 := Lib.hid h3
  obtain ⟨A1, c1, rfl, hc1, _⟩ := h1
  obtain ⟨A, c, rfl, hc, _⟩ := h2
  obtain ⟨A3, c3, rfl, hc3, _⟩ := h3
  simp only at hc hr
  obtain ⟨R, hR⟩ : ∃ R, R = holdsB fs (kd, a) bs := ⟨_, rfl⟩
  rw [← hR]
  have HR := Lib.hid hR
  clear hR
  have y0 := Blk.new w 27 #[.int .i64 kd, .int .i64 a.1, .slice A a.2.length c]
  have q0 := y0.cell 0
  have q1 := y0.cell 1
  have q2 := y0.cell 2
  have HW := Lib.hid (show ∀ W1, W1 = w.alloc (Obj.cells #[Value.int IntKind.i64 kd, Value.int IntKind.i64 a.1, Value.slice A a.2.length c] 27) → Below w.heap.size w W1 ∧ Blk W1 w.heap.size 27 #[.int .i64 kd, .int .i64 a.1, .slice A a.2.length c] from fun W1 e => ⟨by rw [e]; exact below1 _ _, by rw [e]; exact y0⟩)
  by_cases hk : kd = 0 ∨ kd = 1
  · -- an atom that holds, or does not
    have HHd := Lib.hid (show headOk a bs = true → bindOk bs = true ∧ a.2.all termOk = true from fun e => by
      unfold headOk at e
      simp only [Bool.and_eq_true] at e
      exact e.1)
    obtain ⟨F, hF⟩ : ∃ F, F = headOf a bs := ⟨_, rfl⟩
    obtain ⟨ok, hok⟩ : ∃ ok, ok = headOk a bs := ⟨_, rfl⟩
    obtain ⟨hs, hhs⟩ : ∃ hs, hs = factsHas fs F := ⟨_, rfl⟩
    have HD := Lib.hid (show R = (ok && (hs == decide (kd = 0))) by
      rw [HR.out, hhs, hF, hok]
      show (bindOk bs && a.2.all termOk && litHolds fs (kd, a) bs) = _
      unfold litHolds
      rw [if_neg (show ¬ ((kd, a).1 = 2 ∨ (kd, a).1 = 3) by show ¬ (kd = 2 ∨ kd = 3); omega), decide_eq_true (show 0 ≤ (kd, a).1 ∧ (kd, a).1 ≤ 1 by show 0 ≤ kd ∧ kd ≤ 1; omega)]
      show (bindOk bs && a.2.all termOk && (headOk a bs && true && (factsHas fs (headOf a bs) == decide (kd = 0)))) = _
      rw [Bool.and_true]
      cases he : headOk a bs with
      | false => simp
      | true =>
        obtain ⟨e1, e2⟩ := HHd.out he
        rw [e1, e2]
        rfl)
    have HF := Lib.hid (And.intro hF hok)
    have HFL := Lib.hid (show F.2.length ≤ 1048576 by have := headOf_length a bs; rw [hF]; omega)
    have HH := Lib.hid hhs
    clear hF hok hhs
    have k01 : ((kd == 0) = true ∧ decide (kd = 0) = true) ∨ ((kd == 0) = false ∧ (kd == 1) = true ∧ decide (kd = 0) = false) := by
      rcases hk with rfl | rfl
      · exact .inl ⟨rfl, rfl⟩
      · exact .inr ⟨rfl, rfl, rfl⟩
    clear hk
    rcases k01 with ⟨k0, kq⟩ | ⟨k0, k1, kq⟩
    all_goals
      have HKQ := Lib.hid kq
      clear kq
      go_enter Try.func12, Try.ntmps12
      go_wp2_with (fail)
      obtain ⟨w1, hw1⟩ : ∃ w1, w1 = w.alloc (Obj.cells #[Value.int IntKind.i64 kd, Value.int IntKind.i64 a.1, Value.slice A a.2.length c] 27) := ⟨_, rfl⟩
      obtain ⟨B1, y1⟩ := HW.out w1 hw1
      rw [← hw1]
      clear hw1 q0 q1 q2 y0
      refine (implHeadOf_any _ _ a bs _ ⟨_, rfl, H2.out.on B1⟩ (H3.out.on B1) hr hr2).mono ?_
      rw [← HF.out.1, ← HF.out.2]
      rintro e w2 ⟨A', c', rfl, ho, hb2⟩
      have B2 := bthen B1 hb2
      have y2 := y1.below hb2 y1.lt
      have HO := Lib.hid ho
      clear ho y1
      go_wp2_with (fail)
      obtain ⟨w3, hw3⟩ : ∃ w3, w3 = w2.alloc (Obj.cells #[Value.int IntKind.i64 F.1, Value.slice A' F.2.length c'] 41) := ⟨_, rfl⟩
      have B23 : Below w2.heap.size w2 w3 := by rw [hw3]; exact below1 _ _
      have f3 : Blk w3 w2.heap.size 41 #[.int .i64 F.1, .slice A' F.2.length c'] := by rw [hw3]; exact Blk.new _ _ _
      rw [← hw3]
      clear hw3
      have y3 := y2.below B23 y2.lt
      have B3 := bthen B2 B23
      have RF := Lib.hid (show RdFact w3 w3.heap.size (.agg #[.int .i64 F.1, .slice A' F.2.length c']) F from ⟨_, rfl, HO.out.rd.on B23⟩)
      have L0 := later_cell (y3.cell 0 : w3.cell? ⟨w.heap.size, 0, none⟩ = some (.int .i64 kd))
      have L1 := later_cell (f3.cell 0 : w3.cell? ⟨w2.heap.size, 0, none⟩ = some (.int .i64 F.1))
      have L2 := later_cell (f3.cell 1 : w3.cell? ⟨w2.heap.size, 1, none⟩ = some (.slice A' F.2.length c'))
      have CF := Lib.hid (fun x : Later w3 => (implFactsHas_any _ _ fs F x.val ((H1.out.on B3).on x.2) (RF.out.on x.2) hn htt HFL.out))
      rw [← HH.out] at CF
      clear y2 y3 f3
      cases ok
      · have HE := Lib.hid (show R = false by rw [HD.out]; rfl)
        refine wp_region_later (by kernel_rfl) (by kernel_rfl) ?_
        repeat (go_big_quiet_step (fail))
        refine wpQuiet_nil ?_
        rintro _ ⟨xq, rfl⟩
        go_wp2_with (fail)
        go_ret
        exact ⟨ret_bool HE.out.symm, bthen B3 xq.2⟩
      · have HE := Lib.hid (show R = (hs == decide (kd = 0)) by rw [HD.out]; rfl)
        rw [HKQ.out] at HE
        cases hs
        all_goals
          refine wp_region_later (by kernel_rfl) (by kernel_rfl) ?_
          repeat (go_big_quiet_step (first | (go_at_call 18; exact later_of (CF.out _))))
          refine wpQuiet_nil ?_
          rintro _ ⟨xq, rfl⟩
          go_wp2_with (fail)
          go_ret
          exact ⟨ret_bool (by rw [HE.out]; rfl), bthen B3 xq.2⟩
  · by_cases hk2 : kd = 2 ∨ kd = 3
    · -- two terms that are compared
      obtain ⟨V, hV⟩ : ∃ V, V = boundL a.2 bs := ⟨_, rfl⟩
      have HV := Lib.hid hV
      have hVl : V.length ≤ a.2.length := by rw [hV]; exact boundL_length _ _
      have HD := Lib.hid (show R = (decide (V.length = 2) && cmpB kd (V.getD 0 0) (V.getD 1 0)) by
        rw [HR.out, hV]
        show (bindOk bs && a.2.all termOk && litHolds fs (kd, a) bs) = _
        unfold litHolds
        rw [if_pos (show (kd, a).1 = 2 ∨ (kd, a).1 = 3 from hk2)]
        show (bindOk bs && a.2.all termOk && (decide (a.2.length = 2) && cmpB kd (termVal bs (a.2.getD 0 0)) (termVal bs (a.2.getD 1 0)))) = _
        unfold boundL
        cases he : (bindOk bs && a.2.all termOk) with
        | false => simp
        | true =>
          simp only [Bool.true_and, if_true, List.length_map]
          by_cases hl : a.2.length = 2
          · obtain ⟨s, t, e⟩ : ∃ s t, a.2 = [s, t] := by
              match a.2, hl with
              | [s, t], _ => exact ⟨s, t, rfl⟩
            rw [e]
            rfl
          · rw [decide_eq_false hl]
            rfl)
      have k0 : (kd == 0) = false := by simp; omega
      have k1 : (kd == 1) = false := by simp; omega
      have k23 : (kd == 2) = true ∨ ((kd == 2) = false ∧ (kd == 3) = true) := by
        rcases hk2 with rfl | rfl
        · exact .inl rfl
        · exact .inr ⟨rfl, rfl⟩
      have HK2 := Lib.hid hk2
      clear hV hk hk2
      rcases k23 with k2 | ⟨k2, k3⟩
      all_goals
        go_enter Try.func12, Try.ntmps12
        go_wp2_with (fail)
        obtain ⟨w1, hw1⟩ : ∃ w1, w1 = w.alloc (Obj.cells #[Value.int IntKind.i64 kd, Value.int IntKind.i64 a.1, Value.slice A a.2.length c] 27) := ⟨_, rfl⟩
        obtain ⟨B1, y1⟩ := HW.out w1 hw1
        rw [← hw1]
        clear hw1 q0 q1 q2 y0
        refine (implBound_any _ _ a.2 bs _ (H2.out.on B1) (H3.out.on B1) hr hr2).mono ?_
        rw [← HV.out]
        rintro e w2 ⟨A', c', rfl, ho, hb2⟩
        have B2 := bthen B1 hb2
        have y2 := y1.below hb2 y1.lt
        have L0 := later_cell (y2.cell 0 : w2.cell? ⟨w.heap.size, 0, none⟩ = some (.int .i64 kd))
        by_cases hl : V.length = 2
        · obtain ⟨s, t, rfl⟩ : ∃ s t, V = [s, t] := by
            match V, hl with
            | [s, t], _ => exact ⟨s, t, rfl⟩
          obtain ⟨g, rfl, _, _, _, hcc, _⟩ := ho.at_ (by simp)
          have L1 := later_cell (hcc 0 (by simp) : w2.cell? ⟨g, 0, none⟩ = some (.int .i64 s))
          have L2 := later_cell (hcc 1 (by simp) : w2.cell? ⟨g, 1, none⟩ = some (.int .i64 t))
          have CC := Lib.hid (fun W => comparison_any kd s t HK2.out W)
          have HE := Lib.hid (show R = cmpB kd s t by rw [HD.out]; rfl)
          generalize cmpB kd s t = T at CC HE
          clear y1 y2 ho hcc hl hVl
          go_wp2_with (fail)
          refine wp_region_later (by kernel_rfl) (by kernel_rfl) ?_
          repeat (go_big_quiet_step (first | (go_at_call 34; exact later_same (CC.out _))))
          refine wpQuiet_nil ?_
          rintro _ ⟨xq, rfl⟩
          go_wp2_with (fail)
          go_ret
          exact ⟨ret_bool HE.out.symm, bthen B2 xq.2⟩
        · have hl1 : ((V.length : Int) == 2) = false := by simp; omega
          have HE := Lib.hid (show R = false by rw [HD.out, decide_eq_false hl]; rfl)
          clear y1 y2 ho hl
          go_wp2_with (fail)
          refine wp_region_later (by kernel_rfl) (by kernel_rfl) ?_
          repeat (go_big_quiet_step (fail))
          refine wpQuiet_nil ?_
          rintro _ ⟨xq, rfl⟩
          go_wp2_with (fail)
          go_ret
          exact ⟨ret_bool HE.out.symm, bthen B2 xq.2⟩
    · -- no kind
      have HE := Lib.hid (show R = false by
        rw [HR.out]
        show (bindOk bs && a.2.all termOk && litHolds fs (kd, a) bs) = false
        unfold litHolds
        rw [if_neg (show ¬ ((kd, a).1 = 2 ∨ (kd, a).1 = 3) from hk2), decide_eq_false (show ¬ (0 ≤ (kd, a).1 ∧ (kd, a).1 ≤ 1) by show ¬ (0 ≤ kd ∧ kd ≤ 1); omega), Bool.and_false, Bool.false_and, Bool.and_false])
      have k0 : (kd == 0) = false := by simp; omega
      have k1 : (kd == 1) = false := by simp; omega
      have k2 : (kd == 2) = false := by simp; omega
      have k3 : (kd == 3) = false := by simp; omega
      clear hk hk2
      go_enter Try.func12, Try.ntmps12
      go_wp2_with (fail)
      go_ret
      exact ⟨ret_bool HE.out.symm, below1 _ _⟩

end Go.Proofs.Ytfjmnjemmfmoaaa
/-
  The specification's l3Row, l3None, l3Try.
-/
namespace Go.Proofs.Ytfjmnjemmfmoaaa
open Go.RowKit

set_option maxHeartbeats 1000000 in
set_option maxRecDepth 100000 in
theorem l3None_any (w : World) :
    Calls Try.prog 32 #[] w fun e w' => ∃ A' c', e = .returned (.slice A' 4 c') ∧ OwnInts w' w.heap.size w'.heap.size (.slice A' 4 c') noneB ∧ Below w.heap.size w w' := by
  obtain ⟨i0, hi0, hz0, hz1, hz2⟩ := info_parts Try.infoInt
  have C0 := Lib.hid (ColI.empty (Below.refl w.heap.size w))
  go_enter Try.func32, Try.ntmps32
  go_wp2_with (fail)
  go_loopw [1, 2] (fun o i wr => ∃ (k : Nat) (A' : Option Addr) (c' : Nat), k ≤ 4 ∧ i = .int .i64 k ∧ o = .slice A' (List.replicate k (-1 : Int)).length c' ∧ ColI w wr (List.replicate k (-1)) A' c') (fun _ i _ => 4 - (intOf i).toNat)
  case atStart => exact ⟨0, _, 0, Nat.zero_le _, rfl, rfl, C0.out⟩
  case round =>
    obtain ⟨k, A', c', hk, rfl, rfl, hr'⟩ := hrel
    by_cases hlt : k < 4
    · have HS := Lib.hid (show List.replicate (k + 1) (-1 : Int) = List.replicate k (-1) ++ [-1] from List.replicate_succ')
      have HP := Lib.hid hr'
      clear hr'
      obtain ⟨zs, hzs⟩ : ∃ zs, zs = List.replicate k (-1 : Int) := ⟨_, rfl⟩
      have hln : zs.length ≤ 4 := by rw [hzs]; simp; omega
      have HZ := Lib.hid hzs
      rw [← hzs] at HP ⊢
      clear hzs
      go_wp2_with (at_builtin; refine wpList_append_lies _ rfl (.tmp 8) (.tmp 9) 23 rfl w.heap.size 3 i0 (.int .i64 0) 1 8 Try.underlying23 hi0 hz0 hz1 hz2 rfl (by decide) (.slice A' zs.length c') zs.length (zs.map (Value.int .i64)) rfl ?c1 ⟨_, 0, none⟩ 1 1 [.int .i64 (-1)] rfl rfl (news1s _ _ _ _ (by simp)) ?c2 (by omega) (by unfold maxLen; omega) (by omega) ?c3 _ rfl ?_)
      case c1 => exact HP.out.own.1.alloc _
      case c2 => first | rfl | (intro u hu; simp at hu; subst hu; rfl)
      case c3 => have := HP.out.below.size; simp; omega
      intro g cap w4 hown hg _ _
      have hcol := HP.out.push (Below.refl _ _) hg hown
      rw [HZ.out, ← HS.out] at hcol
      have hlen : zs.length + 1 = (List.replicate (k + 1) (-1 : Int)).length := by rw [HZ.out]; simp
      rw [hlen]
      have HC := Lib.hid hcol
      clear hcol hlen hown hg
      go_wp2_with (fail)
      go_roundw
      case rel => exact ⟨k + 1, _, _, by omega, by go_num, rfl, HC.out⟩
      case measure => simp [intOf]; omega
    · have hkn : k = 4 := by omega
      subst hkn
      have HP := Lib.hid hr'
      clear hr'
      go_wp2_with (fail)
      go_ret
      exact ⟨_, _, rfl, HP.out.own, HP.out.below⟩

end Go.Proofs.Ytfjmnjemmfmoaaa
/-
  The walk of DrawMatch.
-/
namespace Go.Proofs.Ytfjmnjemmfmoaaa
open Go.RowKit

theorem RdBytes.onM {w w' : World} {v : Value} {bs : List Nat} (h : RdBytes w w.heap.size v bs) (hb : Below w.heap.size w w') : RdBytes w' w'.heap.size v bs := by
  obtain ⟨A, c, rfl, hc, hx⟩ := h.off (w' := w') (fun k hk => hb.block k hk)
  refine ⟨A, c, rfl, hc, fun hn => ?_⟩
  obtain ⟨b, o, rfl, hlt, hk⟩ := hx hn
  exact ⟨b, o, rfl, by have := hb.size; omega, hk⟩

/-- What the loop of DrawMatch keeps: bf is the fact's block, its arguments lie from base on, g is the reader. -/
structure P2 (w w0 wr : World) (g bf base : Nat) (bs : List Nat) (q : Nat) (p : Int) (A : Option Addr) (c : Nat) (zs : List Int) : Prop where
  keep : ∀ b, b < base → b ≠ bf → b ≠ g → wr.heap[b]? = w0.heap[b]?
  fact : Blk wr bf 41 #[.int .i64 p, .slice A zs.length c]
  own : wr.ownsRow base 3 1 (.slice A zs.length c) zs.length (zs.map (Value.int .i64))
  rdr : Rdr wr g bs q
  below : Below w.heap.size w wr
  size : base ≤ wr.heap.size
section
variable {w w0 wr w' w4 : World} {g bf base q : Nat} {bs : List Nat} {p : Int} {A : Option Addr} {c : Nat} {zs : List Int}
theorem P2.pick (h : P2 w w0 wr g bf base bs q p A c zs) (hg : g < base) (hb : bf < base) (hne : bf ≠ g) (hw : w.heap.size ≤ g) (hk : Picked wr w' g bs q) : P2 w w0 w' g bf base bs (q + 1) p A c zs :=
  ⟨fun b h1 h2 h3 => (hk.2.block b (Nat.lt_of_lt_of_le h1 h.size) (by omega)).trans (h.keep b h1 h2 h3), h.fact.only hk.2 (by omega), ownsRow_only h.own (fun b hb' => hk.2.block b (h.own.lt b hb').2 (by have := (h.own.lt b hb').1; omega)),
    hk.1, Only.then_ h.below hk.2 hw, Nat.le_trans h.size hk.2.size⟩
theorem P2.alloc (h : P2 w w0 wr g bf base bs q p A c zs) (o : Obj) : P2 w w0 (wr.alloc o) g bf base bs q p A c zs :=
  ⟨fun b h1 h2 h3 => (Below.heap_alloc wr o b (Nat.lt_of_lt_of_le h1 h.size)).trans (h.keep b h1 h2 h3), h.fact.alloc o, h.own.alloc o, h.rdr.below (below1 wr o) h.rdr.lt, bthen h.below (below1 wr o), by have := h.size; simp; omega⟩
theorem P2.push (h : P2 w w0 wr g bf base bs q p A c zs) (hg : g < base) (hb : bf < base) (hgb : g < bf) (hw : w.heap.size ≤ bf) (hgr : wr.grownBy w4 (Value.slice A zs.length c).ownBlock) {g2 cap : Nat} {x : Int}
    (hown : w4.ownsRow base 3 1 (.slice (some ⟨g2, 0, none⟩) (zs.length + 1) cap) (zs.length + 1) (zs.map (Value.int .i64) ++ [.int .i64 x])) :
    P2 w w0 (w4.setCell ⟨bf, 1, none⟩ (.slice (some ⟨g2, 0, none⟩) (zs.length + 1) cap)) g bf base bs q p (some ⟨g2, 0, none⟩) cap (zs ++ [x]) := by
  have hlow : ∀ b, b < base → w4.heap[b]? = wr.heap[b]? := fun b hb' => hgr.block b (Nat.lt_of_lt_of_le hb' h.size) (fun e => by have := (h.own.lt b e.symm).1; omega)
  have hset : ∀ b, b ≠ bf → (w4.setCell ⟨bf, 1, none⟩ (.slice (some ⟨g2, 0, none⟩) (zs.length + 1) cap)).heap[b]? = w4.heap[b]? := fun b hb' => Below.heap_setCell _ _ _ _ hb'
  have hl : (zs ++ [x]).length = zs.length + 1 := by simp
  refine ⟨fun b h1 h2 h3 => (hset b h2).trans ((hlow b h1).trans (h.keep b h1 h2 h3)), ?_, ?_, ?_, ?_, Nat.le_trans h.size (Nat.le_trans hgr.size (by simp))⟩
  · have := (show Blk w4 bf 41 _ from (hlow bf hb).trans h.fact).set_ 1 (.slice (some ⟨g2, 0, none⟩) (zs.length + 1) cap)
    rw [hl]
    simpa using this
  · rw [hl]
    have := ownsRow_only hown (fun b hb' => hset b (by have := (hown.lt b hb').1; omega))
    simpa using this
  · exact h.rdr.same fun k hk => (hset k (by omega)).trans (hlow k (by omega))
  · exact (h.below.trans ⟨hgr.os, hgr.tape, hgr.output, hgr.size, fun k hk => hlow k (by omega)⟩).setCell hw _
theorem P2.keepFact (h : P2 w w0 wr g bf base bs q p A c zs) (hb : bf < base) (hgr : wr.grownBy w4 (Value.slice A zs.length c).ownBlock) : Blk w4 bf 41 #[.int .i64 p, .slice A zs.length c] :=
  (hgr.block bf h.fact.lt (fun e => by have := (h.own.lt bf e.symm).1; omega)).trans h.fact
theorem P2.old {lo hi : Nat} {v : Value} {xs : List Int} (h : P2 w w0 wr g bf base bs q p A c zs) (ho : OwnInts w0 lo hi v xs) (h1 : g < lo) (h2 : hi ≤ bf ∨ bf < lo) (h3 : hi ≤ base) : OwnInts wr lo hi v xs :=
  ho.kept fun b hb => by
    have := ho.lt hb
    exact h.keep b (by omega) (by omega) (by omega)
theorem P2.ints (h : P2 w w0 wr g bf base bs q p A c zs) : OwnInts wr base wr.heap.size (.slice A zs.length c) zs := ⟨h.own, fun b hb => (h.own.lt b hb).2⟩
end

/-- What the two results' stores leave. -/
theorem matchDone {w W : World} {ra rb lo hi : Nat} {ta tb : TypeId} {a f : LFact} {va vf vb : Value} {ys : List Int} (RA : Blk W ra ta #[.int .i64 0, .slice none 0 0]) (RB : Blk W rb tb #[.int .i64 0, .slice none 0 0]) (hab : ra ≠ rb) (B : Below w.heap.size w W) (h1 : w.heap.size ≤ ra) (h2 : w.heap.size ≤ rb)
    (ha : ra < lo) (hb : rb < lo) (oa : OwnInts W lo hi va a.2) (of : OwnInts W lo hi vf f.2) (ob : OwnInts W lo hi vb ys) (hh : hi ≤ W.heap.size) {Wf : World} (hW : Wf = (((W.setCell ⟨ra, 0, none⟩ (.int .i64 a.1)).setCell ⟨ra, 1, none⟩ va).setCell ⟨rb, 0, none⟩ (.int .i64 f.1)).setCell ⟨rb, 1, none⟩ vf) :
    Wf.cell? ⟨ra, 0, none⟩ = some (.int .i64 a.1) ∧ Wf.cell? ⟨ra, 1, none⟩ = some va ∧ Wf.cell? ⟨rb, 0, none⟩ = some (.int .i64 f.1) ∧ Wf.cell? ⟨rb, 1, none⟩ = some vf ∧
    RdInts Wf Wf.heap.size va a.2 ∧ RdInts Wf Wf.heap.size vf f.2 ∧ RdInts Wf Wf.heap.size vb ys ∧ Below w.heap.size w Wf := by
  subst hW
  have A2 := (RA.set_ 0 (.int .i64 a.1)).set_ 1 va
  have B2 := (((RB.far (p := ⟨ra, 0, none⟩) (fun e => hab e.symm) (.int .i64 a.1)).far (p := ⟨ra, 1, none⟩) (fun e => hab e.symm) va).set_ 0 (.int .i64 f.1)).set_ 1 vf
  have A3 := (A2.far (p := ⟨rb, 0, none⟩) hab (.int .i64 f.1)).far (p := ⟨rb, 1, none⟩) hab vf
  have rows : ∀ {v : Value} {xs : List Int}, OwnInts W lo hi v xs → RdInts ((((W.setCell ⟨ra, 0, none⟩ (.int .i64 a.1)).setCell ⟨ra, 1, none⟩ va).setCell ⟨rb, 0, none⟩ (.int .i64 f.1)).setCell ⟨rb, 1, none⟩ vf) ((((W.setCell ⟨ra, 0, none⟩ (.int .i64 a.1)).setCell ⟨ra, 1, none⟩ va).setCell ⟨rb, 0, none⟩ (.int .i64 f.1)).setCell ⟨rb, 1, none⟩ vf).heap.size v xs := fun h =>
    ((((h.set (p := ⟨ra, 0, none⟩) (.inl ha) _).set (p := ⟨ra, 1, none⟩) (.inl ha) _).set (p := ⟨rb, 0, none⟩) (.inl hb) _).set (p := ⟨rb, 1, none⟩) (.inl hb) _).rd.more (by simpa using hh)
  refine ⟨by rw [A3.cell 0]; simp, by rw [A3.cell 1]; simp, by rw [B2.cell 0]; simp, by rw [B2.cell 1]; simp, rows oa, rows of, rows ob, ?_⟩
  exact (((B.setCell h1 _).setCell h1 _).setCell h2 _).setCell h2 _

set_option maxHeartbeats 4000000 in
set_option maxRecDepth 100000 in
theorem drawMatch_any (v : Value) (code : List Nat) (w : World) (h : RdBytes w w.heap.size v code) (hby : ∀ b ∈ code, b < 256) (hn : code.length ≤ 1073741824) :
    Calls Try.prog 35 #[v] w fun e w' => ∃ (a f : LFact) (ys : List Int) (A : Option Addr) (c : Nat) (A2 : Option Addr) (c2 : Nat) (A3 : Option Addr) (c3 : Nat),
      e = .returned (.tuple #[.agg #[.int .i64 a.1, .slice A a.2.length c], .agg #[.int .i64 f.1, .slice A2 f.2.length c2], .slice A3 ys.length c3]) ∧ a.2.length ≤ 8 ∧ f.2.length ≤ 8 ∧ ys.length ≤ 8 ∧
      RdInts w' w'.heap.size (.slice A a.2.length c) a.2 ∧ RdInts w' w'.heap.size (.slice A2 f.2.length c2) f.2 ∧ RdInts w' w'.heap.size (.slice A3 ys.length c3) ys ∧ Below w.heap.size w w' := by
  obtain ⟨i0, hi0, hz0, hz1, hz2⟩ := info_parts Try.infoInt
  have HV := Lib.hid h
  clear h
  go_enter Try.func35, Try.ntmps35
  go_upto_region 1 with fail
  obtain ⟨w0, hw0⟩ : ∃ w0, w0 = (w.alloc (Obj.cells #[Value.int IntKind.i64 0, Value.slice none 0 0] 25)).alloc (Obj.cells #[Value.int IntKind.i64 0, Value.slice none 0 0] 41) := ⟨_, rfl⟩
  have RA0 : Blk w0 w.heap.size 25 #[.int .i64 0, .slice none 0 0] := by rw [hw0]; exact (Blk.new _ _ _).alloc _
  have RB0 : Blk w0 (w.heap.size + 1) 41 #[.int .i64 0, .slice none 0 0] := by
    rw [hw0]
    have := Blk.new (w.alloc (Obj.cells #[Value.int IntKind.i64 0, Value.slice none 0 0] 25)) 41 #[.int .i64 0, .slice none 0 0]
    simpa using this
  have B0 : Below w.heap.size w w0 := by rw [hw0]; exact below2 _ _ _
  have hs0 : w0.heap.size = w.heap.size + 2 := by rw [hw0]; simp
  rw [← hw0]
  clear hw0
  obtain ⟨ra, hra⟩ : ∃ ra, ra = w.heap.size := ⟨_, rfl⟩
  obtain ⟨g, hg⟩ : ∃ g, g = w0.heap.size := ⟨_, rfl⟩
  have HRA := Lib.hid RA0
  have HRB := Lib.hid RB0
  have HB0 := Lib.hid B0
  have HS0 := Lib.hid hs0
  have HG := Lib.hid hg
  clear RA0 RB0 B0 hs0 hra
  go_wp2_with fail
  refine (l40Open_any v code w0 (HV.out.onM HB0.out) hby hn).mono ?_
  rintro e w1 ⟨rfl, hr1, hb1⟩
  rw [← hg] at hr1 ⊢
  have hg2a : g ≤ w.heap.size + 2 := by rw [hg, HS0.out]; exact Nat.le_refl _
  have hg2 : w.heap.size + 2 ≤ g := by rw [hg, HS0.out]; exact Nat.le_refl _
  have hg1 : g < w1.heap.size := hr1.lt
  have HB1 := Lib.hid hb1
  have HR1 := Lib.hid hr1
  obtain ⟨bs, hbs⟩ : ∃ bs, bs = code.take 2000 := ⟨_, rfl⟩
  rw [← hbs] at HR1
  clear hb1 hr1 hbs hg
  go_wp2_with fail
  refine (l1Arity_any g bs 0 2 w1 HR1.out (by omega) (by omega)).mono ?_
  rintro e w2 ⟨A2, c2, ar, rfl, hd⟩
  have hlen := hd.len
  have HI := Lib.hid (show OwnInts w2 w1.heap.size w2.heap.size (.slice A2 2 c2) ar from hd.ints)
  have HD2 := Lib.hid hd.rdr
  have HRG := Lib.hid hd.range
  have HO2 := Lib.hid hd.only
  have hs2 := hd.only.size
  have HLN := Lib.hid hlen
  have hal : ar.length ≤ 2 := by omega
  have hal2 : 2 ≤ ar.length := by omega
  clear hd hlen
  go_wp2_with fail
  refine (pick_any g bs (0 + 2) 2 w2 HD2.out (by omega) (by omega)).mono ?_
  rintro e w3 ⟨⟨x, rfl, hx⟩, hp3⟩
  have hxr : 0 ≤ x ∧ x < 2 := hx.1 (by omega)
  obtain ⟨j, rfl⟩ : ∃ j : Nat, x = (j : Int) := ⟨x.toNat, by omega⟩
  have hj : j < ar.length := by omega
  obtain ⟨m, hm⟩ : ∃ m : Nat, ar[j] = (m : Int) := ⟨ar[j].toNat, by have := HRG.out _ (List.getElem_mem hj); omega⟩
  have hm2 : m ≤ 2 := by have := HRG.out _ (List.getElem_mem hj); omega
  have HR3 := Lib.hid hp3.1
  have HO3 := Lib.hid (HO2.out.trans hp3.2)
  have HI3 := Lib.hid (HI.out.only hp3.2 (.inr (by omega)))
  have hs3 := hp3.2.size
  have HM := Lib.hid hm
  clear hp3 hx hxr hm
  go_wp2_with fail
  refine (l2Draw_any g bs (0 + 2 + 1) w1.heap.size w2.heap.size j m 3 _ ar w3 HR3.out (by omega) HI3.out hg1 hs3 hj HM.out hm2 (by omega) (by omega)).mono ?_
  rintro e w4 ⟨A, c, az, q4, rfl, hal4, hq4, ho4, hr4, hO4⟩
  have HO4 := Lib.hid (HO3.out.trans hO4)
  have HI4 := Lib.hid (HI3.out.only hO4 (.inr (by omega)))
  have HR4 := Lib.hid hr4
  have HA4 := Lib.hid ho4
  have hs4 := hO4.size
  clear hO4 hr4 ho4
  go_upto_region 4 with fail
  obtain ⟨wa, hwa⟩ : ∃ wa, wa = w4.alloc (Obj.cells #[Value.int IntKind.i64 (j : Int), Value.slice A az.length c] 25) := ⟨_, rfl⟩
  have ba4 : Below w4.heap.size w4 wa := by rw [hwa]; exact below1 _ _
  have BA := Blk.new w4 25 #[.int .i64 (j : Int), .slice A az.length c]
  rw [← hwa] at BA ⊢
  have hsa : wa.heap.size = w4.heap.size + 1 := by rw [hwa]; simp
  obtain ⟨ba, hba⟩ : ∃ ba, ba = w4.heap.size := ⟨_, rfl⟩
  rw [← hba] at BA ⊢
  have HBA := Lib.hid BA
  have HOa := Lib.hid (HO4.out.trans (Only.of_below ba4))
  have HIa := Lib.hid (HI4.out.below ba4 (by omega))
  have HRa := Lib.hid (HR4.out.below ba4 HR4.out.lt)
  have HAa := Lib.hid (HA4.out.below ba4 (Nat.le_refl _))
  have hsaa : ba + 1 ≤ wa.heap.size := by omega
  have hsab : wa.heap.size ≤ ba + 1 := by omega
  have hba4 : w4.heap.size ≤ ba := by omega
  have hba5 : ba ≤ w4.heap.size := by omega
  have hba3 : w3.heap.size ≤ ba := by omega
  clear hwa ba4 BA hsa hba
  go_wp2_with fail
  refine (l1Fact_own g bs q4 w1.heap.size w2.heap.size _ ar wa HRa.out (by omega) HIa.out hg1 (by omega) HRG.out (by omega)).mono ?_
  rintro e w5 ⟨A3, c3, f, q5, rfl, hf5, hq5, ho5, hr5, hO5⟩
  have HO5 := Lib.hid (HOa.out.trans hO5)
  have HR5 := Lib.hid hr5
  have HF5 := Lib.hid ho5
  have HBA5 := Lib.hid (HBA.out.only hO5 (.inr (by omega)))
  have HA5 := Lib.hid (HAa.out.only hO5 (.inr (by omega)))
  have hs5 := hO5.size
  clear hO5 hr5 ho5
  go_upto_region 5 with fail
  obtain ⟨wb, hwb⟩ : ∃ wb, wb = w5.alloc (Obj.cells #[Value.int IntKind.i64 f.1, Value.slice A3 f.2.length c3] 41) := ⟨_, rfl⟩
  have bb5 : Below w5.heap.size w5 wb := by rw [hwb]; exact below1 _ _
  have BF := Blk.new w5 41 #[.int .i64 f.1, .slice A3 f.2.length c3]
  rw [← hwb] at BF ⊢
  have hsb : wb.heap.size = w5.heap.size + 1 := by rw [hwb]; simp
  obtain ⟨bf, hbf⟩ : ∃ bf, bf = w5.heap.size := ⟨_, rfl⟩
  rw [← hbf] at BF ⊢
  have HBF := Lib.hid BF
  have HOb := Lib.hid (HO5.out.trans (Only.of_below bb5))
  have HRb := Lib.hid (HR5.out.below bb5 HR5.out.lt)
  have HAb := Lib.hid (HA5.out.below bb5 (by omega))
  have HBAb := Lib.hid (HBA5.out.below bb5 (by omega))
  have HFb := Lib.hid (HF5.out.below bb5 (Nat.le_refl _))
  have hsbb : bf + 1 ≤ wb.heap.size := by omega
  have hsbc : wb.heap.size ≤ bf + 1 := by omega
  have hbfa : wa.heap.size ≤ bf := by omega
  have hw4b : w4.heap.size ≤ bf := by omega
  have hw5b : w5.heap.size ≤ bf := by omega
  have hw5c : bf ≤ w5.heap.size := by omega
  clear hwb bb5 BF hsb hbf
  go_wp2_with fail
  refine (l3Draw_any g bs q5 wb HRb.out (by omega)).mono ?_
  rintro e w6 ⟨A5, c5, ys, q6, rfl, hy6, hq6, h6⟩
  have HO6 := Lib.hid (HOb.out.trans h6.only)
  have HD6 := Lib.hid h6
  have HBA6 := Lib.hid (HBAb.out.only h6.only (.inr (by omega)))
  have HBF6 := Lib.hid (HBF.out.only h6.only (.inr (by omega)))
  have HA6 := Lib.hid (HAb.out.only h6.only (.inr (by omega)))
  have HF6 := Lib.hid (HFb.out.only h6.only (.inr (by omega)))
  have hs6 := h6.only.size
  clear h6
  go_wp2_with fail
  refine (pick_any g bs q6 3 w6 HD6.out.rdr (by omega) (by omega)).mono ?_
  rintro e w7 ⟨⟨x7, rfl, _⟩, hp7⟩
  obtain ⟨a, hae⟩ : ∃ a : LFact, a = ((j : Int), az) := ⟨_, rfl⟩
  have HO7 := Lib.hid (HO6.out.trans hp7.2)
  have hs7 := hp7.2.size
  have HR7 := Lib.hid hp7.1
  have HBA7 := Lib.hid (show Blk w7 ba 25 #[.int .i64 a.1, .slice A a.2.length c] by rw [hae]; exact HBA6.out.only hp7.2 (.inr (by omega)))
  have HBF7 := Lib.hid (HBF6.out.only hp7.2 (.inr (by omega)))
  have HA7 := Lib.hid (show OwnInts w7 (g + 1) bf (.slice A a.2.length c) a.2 by rw [hae]; exact (HA6.out.only hp7.2 (.inr (by omega))).mono (by omega) hw4b)
  have HF7 := Lib.hid ((HF6.out.only hp7.2 (.inr (by omega))).mono (show g + 1 ≤ wa.heap.size by omega) hw5b)
  have HY8 := Lib.hid (show OwnInts w7 wb.heap.size w6.heap.size (.slice A5 ys.length c5) ys from HD6.out.own.only hp7.2 (.inr (by omega)))
  have HY7 := Lib.hid ((HD6.out.own.only hp7.2 (.inr (by omega))).mono (show g + 1 ≤ wb.heap.size by omega) (Nat.le_refl _))
  have HBW7 := Lib.hid (show Below w.heap.size w w7 from (bthen HB0.out HB1.out).trans (HO7.out.below (by omega) (by omega)))
  have HRA7 := Lib.hid (show Blk w7 w.heap.size 25 #[.int .i64 0, .slice none 0 0] from (HRA.out.below HB1.out (by have := HS0.out; omega)).only HO7.out (.inl (by omega)))
  have HRB7 := Lib.hid (show Blk w7 (w.heap.size + 1) 41 #[.int .i64 0, .slice none 0 0] from (HRB.out.below HB1.out (by have := HS0.out; omega)).only HO7.out (.inl (by omega)))
  have hal8 : a.2.length ≤ 2 := by rw [hae]; exact hal4
  clear hp7
  by_cases hx7 : 0 < x7
  · have hxb : decide (0 < x7) = true := by simpa using hx7
    clear hae
    have z0 : w7.cell? ⟨ba, 0, none⟩ = some (.int .i64 a.1) := HBA7.out.cell 0
    have z1 : w7.cell? ⟨bf, 0, none⟩ = some (.int .i64 f.1) := HBF7.out.cell 0
    have z2 : w7.cell? ⟨bf, 1, none⟩ = some (.slice A3 f.2.length c3) := HBF7.out.cell 1
    have z3 : w7.frozen? ⟨bf, 0, none⟩ = false := HBF7.out.frozen 0
    have z4 : w7.frozen? ⟨bf, 1, none⟩ = false := HBF7.out.frozen 1
    go_upto_region 8 with fail
    obtain ⟨w8, hw8⟩ : ∃ w8, w8 = (w7.setCell ⟨bf, 0, none⟩ (.int .i64 a.1)).setCell ⟨bf, 1, none⟩ (.slice none 0 0) := ⟨_, rfl⟩
    have P0 : P2 w w7 w8 g bf w7.heap.size bs (q6 + 1) a.1 none 0 [] := by
      rw [hw8]
      have hset : ∀ b, b ≠ bf → ((w7.setCell ⟨bf, 0, none⟩ (.int .i64 a.1)).setCell ⟨bf, 1, none⟩ (.slice none 0 0)).heap[b]? = w7.heap[b]? := fun b hb => (Below.heap_setCell _ _ _ _ hb).trans (Below.heap_setCell _ _ _ _ hb)
      refine ⟨fun b _ h2 _ => hset b h2, ?_, World.ownsRow_nil _ _ _ _, HR7.out.same fun k hk => hset k (by omega), (HBW7.out.setCell (by show w.heap.size ≤ bf; omega) _).setCell (by show w.heap.size ≤ bf; omega) _, by simp⟩
      have := (HBF7.out.set_ 0 (.int .i64 a.1)).set_ 1 (.slice none 0 0)
      simpa using this
    rw [← hw8]
    have HP0 := Lib.hid P0
    clear hw8 P0 z0 z1 z2 z3 z4
    go_wp2_with fail
    go_loopw [10] (fun i wr => ∃ (k : Nat) (A4 : Option Addr) (c4 : Nat) (zs : List Int) (q : Nat), k ≤ a.2.length ∧ i = .int .i64 k ∧ zs.length = k ∧ q ≤ q6 + 1 + 2 * k ∧ P2 w w7 wr g bf w7.heap.size bs q a.1 A4 c4 zs) (fun i _ => a.2.length - (intOf i).toNat)
    case atStart => exact ⟨0, none, 0, [], q6 + 1, Nat.zero_le _, rfl, rfl, by omega, HP0.out⟩
    case round =>
      obtain ⟨k, A4, c4, zs, q, hk, rfl, hzl, hq, hp⟩ := hrel
      have HZL := Lib.hid hzl
      have hzl2 : zs.length ≤ 2 := by omega
      have HR := Lib.hid hp
      have hbar : Blk wr ba 25 #[.int .i64 a.1, .slice A a.2.length c] := (hp.keep ba (by omega) (by omega) (by omega)).trans HBA7.out
      have y1 : wr.cell? ⟨ba, 1, none⟩ = some (.slice A a.2.length c) := hbar.cell 1
      have HAR := Lib.hid (hp.old HA7.out (Nat.lt_succ_self g) (.inl (Nat.le_refl bf)) (by omega))
      clear hzl hp hbar
      by_cases hlt : k < a.2.length
      · go_wp2_with (fail)
        refine (pick_any g bs q 3 _ HR.out.rdr (by omega) (by omega)).mono ?_
        rintro e w2' ⟨⟨x1, rfl, _⟩, hp1⟩
        have H1 := Lib.hid (HR.out.pick (by omega) (by omega) (by omega) (by omega) hp1)
        have hba1 : Blk w2' ba 25 #[.int .i64 a.1, .slice A a.2.length c] := (H1.out.keep ba (by omega) (by omega) (by omega)).trans HBA7.out
        have y2 : w2'.cell? ⟨ba, 1, none⟩ = some (.slice A a.2.length c) := hba1.cell 1
        obtain ⟨A9, c9, e9, _, hxx⟩ := (H1.out.old HA7.out (Nat.lt_succ_self g) (.inl (Nat.le_refl bf)) (by omega)).rd
        injection e9 with e9 e11 e10
        clear e11
        subst e9 e10
        obtain ⟨b9, o9, rfl, hb9, hxx⟩ := hxx (by omega)
        have y3 : w2'.cell? ⟨b9, o9 + k, none⟩ = some (.int .i64 a.2[k]) := hxx k hlt
        have HCELL := Lib.hid hxx
        clear hp1 hba1 hxx y1
        by_cases ha0 : 0 ≤ a.2[k]
        · have hab : decide (0 ≤ a.2[k]) = true := by simpa using ha0
          go_wp2_with (fail)
          refine (pick_any g bs (q + 1) 5 _ H1.out.rdr (by omega) (by omega)).mono ?_
          rintro e w3' ⟨⟨x2, rfl, _⟩, hp2⟩
          have H2 := Lib.hid (H1.out.pick (by omega) (by omega) (by omega) (by omega) hp2)
          have hba2 : Blk w3' ba 25 #[.int .i64 a.1, .slice (some ⟨b9, o9, none⟩) a.2.length c] := (H2.out.keep ba (by omega) (by omega) (by omega)).trans HBA7.out
          have y4 : w3'.cell? ⟨ba, 1, none⟩ = some (.slice (some ⟨b9, o9, none⟩) a.2.length c) := hba2.cell 1
          have y5 : w3'.cell? ⟨b9, o9 + k, none⟩ = some (.int .i64 a.2[k]) := by
            have h1 := (H2.out.old HA7.out (Nat.lt_succ_self g) (.inl (Nat.le_refl bf)) (by omega)).rd
            obtain ⟨_, _, e12, _, hxy⟩ := h1
            injection e12 with e12 _ _
            obtain ⟨b', o', e13, _, hxy⟩ := hxy (by omega)
            rw [e13] at e12
            injection e12 with e12
            injection e12 with e14 e15 _
            subst e14 e15
            exact hxy k hlt
          clear hp2 hba2
          by_cases hx2 : 0 < x2
          · have hxb2 : decide (0 < x2) = true := by simpa using hx2
            obtain ⟨wS, rfl⟩ : ∃ wS, wS = w3' := ⟨_, rfl⟩
            have a1 : wS.cell? ⟨bf, 1, none⟩ = some (.slice A4 zs.length c4) := H2.out.fact.cell 1
            go_wp2_with (at_builtin; refine wpList_append_lies _ rfl (.tmp 58) (.tmp 60) 23 rfl w7.heap.size 3 i0 (.int .i64 0) 1 8 Try.underlying23 hi0 hz0 hz1 hz2 rfl (by decide) (.slice A4 zs.length c4) zs.length (zs.map (Value.int .i64)) rfl ?c1 ⟨wS.heap.size, 0, none⟩ 1 1 [.int .i64 a.2[k]] rfl rfl (cell_one_new _ _ _) ?c2 (by omega) (by unfold maxLen; omega) (by omega) ?c3 _ rfl ?_)
            case c1 => exact (H2.out.alloc _).own
            case c2 => intro u hu; simp at hu; subst hu; rfl
            case c3 => exact (H2.out.alloc _).size
            intro g2 cap w9 hown hgr _ _
            have HST := Lib.hid (P2.push (H2.out.alloc _) (by omega) (by omega) (by omega) (by omega) hgr hown)
            have hkf := P2.keepFact (H2.out.alloc _) (by omega) hgr
            have e1 : w9.cell? ⟨bf, 1, none⟩ = some (.slice A4 zs.length c4) := hkf.cell 1
            have e2 := hkf.frozen 1
            clear hkf hown hgr
            go_wp2_with (fail)
            go_roundw
            case rel => exact ⟨k + 1, _, _, zs ++ [a.2[k]], q + 1 + 1, by omega, by go_num, by simp; exact HZL.out, by omega, by simpa using HST.out⟩
            case measure => simp [intOf]; omega
          · have hxb2 : decide (0 < x2) = false := by simpa using hx2
            obtain ⟨wS, rfl⟩ : ∃ wS, wS = w3' := ⟨_, rfl⟩
            have a1 : wS.cell? ⟨bf, 1, none⟩ = some (.slice A4 zs.length c4) := H2.out.fact.cell 1
            go_wp2_with (at_builtin; refine wpList_append_lies _ rfl (.tmp 58) (.tmp 60) 23 rfl w7.heap.size 3 i0 (.int .i64 0) 1 8 Try.underlying23 hi0 hz0 hz1 hz2 rfl (by decide) (.slice A4 zs.length c4) zs.length (zs.map (Value.int .i64)) rfl ?c1 ⟨wS.heap.size, 0, none⟩ 1 1 [.int .i64 x1] rfl rfl (cell_one_new _ _ _) ?c2 (by omega) (by unfold maxLen; omega) (by omega) ?c3 _ rfl ?_)
            case c1 => exact (H2.out.alloc _).own
            case c2 => intro u hu; simp at hu; subst hu; rfl
            case c3 => exact (H2.out.alloc _).size
            intro g2 cap w9 hown hgr _ _
            have HST := Lib.hid (P2.push (H2.out.alloc _) (by omega) (by omega) (by omega) (by omega) hgr hown)
            have hkf := P2.keepFact (H2.out.alloc _) (by omega) hgr
            have e1 : w9.cell? ⟨bf, 1, none⟩ = some (.slice A4 zs.length c4) := hkf.cell 1
            have e2 := hkf.frozen 1
            clear hkf hown hgr
            go_wp2_with (fail)
            go_roundw
            case rel => exact ⟨k + 1, _, _, zs ++ [x1], q + 1 + 1, by omega, by go_num, by simp; exact HZL.out, by omega, by simpa using HST.out⟩
            case measure => simp [intOf]; omega
        · have hab : decide (0 ≤ a.2[k]) = false := by simpa using ha0
          obtain ⟨wS, rfl⟩ : ∃ wS, wS = w2' := ⟨_, rfl⟩
          have a1 : wS.cell? ⟨bf, 1, none⟩ = some (.slice A4 zs.length c4) := H1.out.fact.cell 1
          go_wp2_with (at_builtin; refine wpList_append_lies _ rfl (.tmp 58) (.tmp 60) 23 rfl w7.heap.size 3 i0 (.int .i64 0) 1 8 Try.underlying23 hi0 hz0 hz1 hz2 rfl (by decide) (.slice A4 zs.length c4) zs.length (zs.map (Value.int .i64)) rfl ?c1 ⟨wS.heap.size, 0, none⟩ 1 1 [.int .i64 x1] rfl rfl (cell_one_new _ _ _) ?c2 (by omega) (by unfold maxLen; omega) (by omega) ?c3 _ rfl ?_)
          case c1 => exact (H1.out.alloc _).own
          case c2 => intro u hu; simp at hu; subst hu; rfl
          case c3 => exact (H1.out.alloc _).size
          intro g2 cap w9 hown hgr _ _
          have HST := Lib.hid (P2.push (H1.out.alloc _) (by omega) (by omega) (by omega) (by omega) hgr hown)
          have hkf := P2.keepFact (H1.out.alloc _) (by omega) hgr
          have e1 : w9.cell? ⟨bf, 1, none⟩ = some (.slice A4 zs.length c4) := hkf.cell 1
          have e2 := hkf.frozen 1
          clear hkf hown hgr
          go_wp2_with (fail)
          go_roundw
          case rel => exact ⟨k + 1, _, _, zs ++ [x1], q + 1, by omega, by go_num, by simp; exact HZL.out, by omega, by simpa using HST.out⟩
          case measure => simp [intOf]; omega
      · go_wp2_with (fail)
        refine (pick_any g bs q 2 _ HR.out.rdr (by omega) (by omega)).mono ?_
        rintro e w2' ⟨⟨x9, rfl, _⟩, hp1⟩
        have H1 := Lib.hid (HR.out.pick (by omega) (by omega) (by omega) (by omega) hp1)
        clear hp1 y1
        obtain ⟨f, hfe⟩ : ∃ f : LFact, f = (a.1, zs) := ⟨_, rfl⟩
        obtain ⟨A3, hA3⟩ : ∃ A3, A3 = A4 := ⟨_, rfl⟩
        obtain ⟨c3, hc3⟩ : ∃ c3, c3 = c4 := ⟨_, rfl⟩
        have hfl : f.2.length ≤ 2 := by rw [hfe]; exact hzl2
        have BAX := Lib.hid (show Blk w2' ba 25 #[.int .i64 a.1, .slice A a.2.length c] from (H1.out.keep ba (by omega) (by omega) (by omega)).trans HBA7.out)
        have BFX := Lib.hid (show Blk w2' bf 41 #[.int .i64 f.1, .slice A3 f.2.length c3] by rw [hfe, hA3, hc3]; exact H1.out.fact)
        have RAX := Lib.hid (show Blk w2' w.heap.size 25 #[.int .i64 0, .slice none 0 0] from (H1.out.keep _ (by omega) (by omega) (by omega)).trans HRA7.out)
        have RBX := Lib.hid (show Blk w2' (w.heap.size + 1) 41 #[.int .i64 0, .slice none 0 0] from (H1.out.keep _ (by omega) (by omega) (by omega)).trans HRB7.out)
        have hsx := H1.out.size
        have OAX := Lib.hid ((H1.out.old HA7.out (Nat.lt_succ_self g) (.inl (Nat.le_refl bf)) (by omega)).mono (Nat.le_refl (g + 1)) (show bf ≤ w2'.heap.size by omega))
        have OFX := Lib.hid (show OwnInts w2' (g + 1) w2'.heap.size (.slice A3 f.2.length c3) f.2 by rw [hfe, hA3, hc3]; exact H1.out.ints.mono (by omega) (Nat.le_refl _))
        have OBX := Lib.hid ((H1.out.old HY8.out (by omega) (.inr (by omega)) (by omega)).mono (show g + 1 ≤ wb.heap.size by omega) (show w6.heap.size ≤ w2'.heap.size by omega))
        clear hfe hA3 hc3
        by_cases hx9 : x9 = 0
        · have hxc : (x9 == 0) = true := by simp [hx9]
          clear hx9
          go_wp2_with (fail)
          refine (l3None_any _).mono ?_
          rintro e WW ⟨A5, c5, rfl, o5, b5⟩
          obtain ⟨ys, hys⟩ : ∃ ys, ys = noneB := ⟨_, rfl⟩
          have hyl : ys.length = 4 := by rw [hys]; rfl
          rw [← hys] at o5
          have hs5' := b5.size
          have BAW := BAX.out.below b5 BAX.out.lt
          have BFW := BFX.out.below b5 BFX.out.lt
          have RAW := RAX.out.below b5 RAX.out.lt
          have RBW := RBX.out.below b5 RBX.out.lt
          have BWW := bthen H1.out.below b5
          have OAW := (OAX.out.below b5 (Nat.le_refl _)).mono (Nat.le_refl (g + 1)) hs5'
          have OFW := (OFX.out.below b5 (Nat.le_refl _)).mono (Nat.le_refl (g + 1)) hs5'
          have OBW : OwnInts WW (g + 1) WW.heap.size (.slice A5 ys.length c5) ys := by rw [hyl]; exact o5.mono (by omega) (Nat.le_refl _)
          rw [show Value.slice A5 4 c5 = Value.slice A5 ys.length c5 by rw [hyl]]
          have hy6 : ys.length ≤ 4 := by omega
          clear hys hyl o5 b5
          have hwA : WW.cell? ⟨ba, 0, none⟩ = some (.int .i64 a.1) := BAW.cell 0
          have hwA1 : WW.cell? ⟨ba, 1, none⟩ = some (.slice A a.2.length c) := BAW.cell 1
          have hwF : WW.cell? ⟨bf, 0, none⟩ = some (.int .i64 f.1) := BFW.cell 0
          have hwF1 : WW.cell? ⟨bf, 1, none⟩ = some (.slice A3 f.2.length c3) := BFW.cell 1
          have r0 : WW.cell? ⟨w.heap.size, 0, none⟩ = some (.int .i64 0) := RAW.cell 0
          have r1 : WW.cell? ⟨w.heap.size, 1, none⟩ = some (.slice none 0 0) := RAW.cell 1
          have r2 : WW.cell? ⟨w.heap.size + 1, 0, none⟩ = some (.int .i64 0) := RBW.cell 0
          have r3 : WW.cell? ⟨w.heap.size + 1, 1, none⟩ = some (.slice none 0 0) := RBW.cell 1
          have t0 : WW.frozen? ⟨w.heap.size, 0, none⟩ = false := RAW.frozen 0
          have t1 : WW.frozen? ⟨w.heap.size, 1, none⟩ = false := RAW.frozen 1
          have t2 : WW.frozen? ⟨w.heap.size + 1, 0, none⟩ = false := RBW.frozen 0
          have t3 : WW.frozen? ⟨w.heap.size + 1, 1, none⟩ = false := RBW.frozen 1
          have dA : WW.drew.cell? ⟨ba, 0, none⟩ = some (.int .i64 a.1) := hwA
          have dA1 : WW.drew.cell? ⟨ba, 1, none⟩ = some (.slice A a.2.length c) := hwA1
          have dF : WW.drew.cell? ⟨bf, 0, none⟩ = some (.int .i64 f.1) := hwF
          have dF1 : WW.drew.cell? ⟨bf, 1, none⟩ = some (.slice A3 f.2.length c3) := hwF1
          have d0 : WW.drew.cell? ⟨w.heap.size, 0, none⟩ = some (.int .i64 0) := r0
          have d1 : WW.drew.cell? ⟨w.heap.size, 1, none⟩ = some (.slice none 0 0) := r1
          have d2 : WW.drew.cell? ⟨w.heap.size + 1, 0, none⟩ = some (.int .i64 0) := r2
          have d3 : WW.drew.cell? ⟨w.heap.size + 1, 1, none⟩ = some (.slice none 0 0) := r3
          have e0 : WW.drew.frozen? ⟨w.heap.size, 0, none⟩ = false := t0
          have e1 : WW.drew.frozen? ⟨w.heap.size, 1, none⟩ = false := t1
          have e2 : WW.drew.frozen? ⟨w.heap.size + 1, 0, none⟩ = false := t2
          have e3 : WW.drew.frozen? ⟨w.heap.size + 1, 1, none⟩ = false := t3
          have HD1 := Lib.hid (matchDone (a := a) (f := f) (ys := ys) (va := .slice A a.2.length c) (vf := .slice A3 f.2.length c3) (vb := .slice A5 ys.length c5) RAW RBW (by omega) BWW (Nat.le_refl _) (Nat.le_succ _) (by omega) (by omega) OAW OFW OBW (Nat.le_refl _) rfl)
          clear BAW BFW RAW RBW OAW OFW OBW BWW
          go_upto_region 17 with fail
          go_region_law (fail)
          all_goals
            obtain ⟨W, hW⟩ : ∃ W, W = (((WW.setCell ⟨w.heap.size, 0, none⟩ (.int .i64 a.1)).setCell ⟨w.heap.size, 1, none⟩ (.slice A a.2.length c)).setCell ⟨w.heap.size + 1, 0, none⟩ (.int .i64 f.1)).setCell ⟨w.heap.size + 1, 1, none⟩ (.slice A3 f.2.length c3) := ⟨_, rfl⟩
            rw [← hW] at HD1 ⊢
            obtain ⟨c0, c1, c4, c5', i1, i2, i3, bb⟩ := HD1.out
            have HE := Lib.hid (And.intro i1 (And.intro i2 (And.intro i3 bb)))
            clear HD1 hW i1 i2 i3 bb dA dA1 dF dF1 d0 d1 d2 d3 e0 e1 e2 e3 hwA hwA1 hwF hwF1 r0 r1 r2 r3 t0 t1 t2 t3
            go_wp2_with fail
            refine bodyPost_ret (v := .tuple #[.agg #[.int .i64 a.1, .slice A a.2.length c], .agg #[.int .i64 f.1, .slice A3 f.2.length c3], .slice A5 ys.length c5]) (by simp [results, Try.results35, go_sem, c0, c1, c4, c5']) rfl ?_
            exact ⟨a, f, ys, A, c, A3, c3, A5, c5, rfl, by omega, by omega, by omega, HE.out.1, HE.out.2.1, HE.out.2.2.1, HE.out.2.2.2.drew⟩

        · have hxc : (x9 == 0) = false := by simp [hx9]
          clear hx9
          obtain ⟨WW, rfl⟩ : ∃ WW, WW = w2' := ⟨_, rfl⟩
          have BAW := BAX.out
          have BFW := BFX.out
          have RAW := RAX.out
          have RBW := RBX.out
          have BWW := H1.out.below
          have OAW := OAX.out
          have OFW := OFX.out
          have OBW := OBX.out
          have hwA : WW.cell? ⟨ba, 0, none⟩ = some (.int .i64 a.1) := BAW.cell 0
          have hwA1 : WW.cell? ⟨ba, 1, none⟩ = some (.slice A a.2.length c) := BAW.cell 1
          have hwF : WW.cell? ⟨bf, 0, none⟩ = some (.int .i64 f.1) := BFW.cell 0
          have hwF1 : WW.cell? ⟨bf, 1, none⟩ = some (.slice A3 f.2.length c3) := BFW.cell 1
          have r0 : WW.cell? ⟨w.heap.size, 0, none⟩ = some (.int .i64 0) := RAW.cell 0
          have r1 : WW.cell? ⟨w.heap.size, 1, none⟩ = some (.slice none 0 0) := RAW.cell 1
          have r2 : WW.cell? ⟨w.heap.size + 1, 0, none⟩ = some (.int .i64 0) := RBW.cell 0
          have r3 : WW.cell? ⟨w.heap.size + 1, 1, none⟩ = some (.slice none 0 0) := RBW.cell 1
          have t0 : WW.frozen? ⟨w.heap.size, 0, none⟩ = false := RAW.frozen 0
          have t1 : WW.frozen? ⟨w.heap.size, 1, none⟩ = false := RAW.frozen 1
          have t2 : WW.frozen? ⟨w.heap.size + 1, 0, none⟩ = false := RBW.frozen 0
          have t3 : WW.frozen? ⟨w.heap.size + 1, 1, none⟩ = false := RBW.frozen 1
          have dA : WW.drew.cell? ⟨ba, 0, none⟩ = some (.int .i64 a.1) := hwA
          have dA1 : WW.drew.cell? ⟨ba, 1, none⟩ = some (.slice A a.2.length c) := hwA1
          have dF : WW.drew.cell? ⟨bf, 0, none⟩ = some (.int .i64 f.1) := hwF
          have dF1 : WW.drew.cell? ⟨bf, 1, none⟩ = some (.slice A3 f.2.length c3) := hwF1
          have d0 : WW.drew.cell? ⟨w.heap.size, 0, none⟩ = some (.int .i64 0) := r0
          have d1 : WW.drew.cell? ⟨w.heap.size, 1, none⟩ = some (.slice none 0 0) := r1
          have d2 : WW.drew.cell? ⟨w.heap.size + 1, 0, none⟩ = some (.int .i64 0) := r2
          have d3 : WW.drew.cell? ⟨w.heap.size + 1, 1, none⟩ = some (.slice none 0 0) := r3
          have e0 : WW.drew.frozen? ⟨w.heap.size, 0, none⟩ = false := t0
          have e1 : WW.drew.frozen? ⟨w.heap.size, 1, none⟩ = false := t1
          have e2 : WW.drew.frozen? ⟨w.heap.size + 1, 0, none⟩ = false := t2
          have e3 : WW.drew.frozen? ⟨w.heap.size + 1, 1, none⟩ = false := t3
          have HD1 := Lib.hid (matchDone (a := a) (f := f) (ys := ys) (va := .slice A a.2.length c) (vf := .slice A3 f.2.length c3) (vb := .slice A5 ys.length c5) RAW RBW (by omega) BWW (Nat.le_refl _) (Nat.le_succ _) (by omega) (by omega) OAW OFW OBW (Nat.le_refl _) rfl)
          clear BAW BFW RAW RBW OAW OFW OBW BWW
          go_upto_region 17 with fail
          go_region_law (fail)
          all_goals
            obtain ⟨W, hW⟩ : ∃ W, W = (((WW.setCell ⟨w.heap.size, 0, none⟩ (.int .i64 a.1)).setCell ⟨w.heap.size, 1, none⟩ (.slice A a.2.length c)).setCell ⟨w.heap.size + 1, 0, none⟩ (.int .i64 f.1)).setCell ⟨w.heap.size + 1, 1, none⟩ (.slice A3 f.2.length c3) := ⟨_, rfl⟩
            rw [← hW] at HD1 ⊢
            obtain ⟨c0, c1, c4, c5', i1, i2, i3, bb⟩ := HD1.out
            have HE := Lib.hid (And.intro i1 (And.intro i2 (And.intro i3 bb)))
            clear HD1 hW i1 i2 i3 bb dA dA1 dF dF1 d0 d1 d2 d3 e0 e1 e2 e3 hwA hwA1 hwF hwF1 r0 r1 r2 r3 t0 t1 t2 t3
            go_wp2_with fail
            refine bodyPost_ret (v := .tuple #[.agg #[.int .i64 a.1, .slice A a.2.length c], .agg #[.int .i64 f.1, .slice A3 f.2.length c3], .slice A5 ys.length c5]) (by simp [results, Try.results35, go_sem, c0, c1, c4, c5']) rfl ?_
            exact ⟨a, f, ys, A, c, A3, c3, A5, c5, rfl, by omega, by omega, by omega, HE.out.1, HE.out.2.1, HE.out.2.2.1, HE.out.2.2.2.drew⟩

  · have hxb : decide (0 < x7) = false := by simpa using hx7
    obtain ⟨WW, rfl⟩ : ∃ WW, WW = w7 := ⟨_, rfl⟩
    have BAW := HBA7.out
    have BFW := HBF7.out
    have RAW := HRA7.out
    have RBW := HRB7.out
    have BWW := HBW7.out
    have OAW := HA7.out.mono (Nat.le_refl (g + 1)) (show bf ≤ WW.heap.size by omega)
    have OFW := HF7.out.mono (Nat.le_refl (g + 1)) (show bf ≤ WW.heap.size by omega)
    have OBW := HY7.out.mono (Nat.le_refl (g + 1)) (show w6.heap.size ≤ WW.heap.size by omega)
    clear hx7 hae
    have hwA : WW.cell? ⟨ba, 0, none⟩ = some (.int .i64 a.1) := BAW.cell 0
    have hwA1 : WW.cell? ⟨ba, 1, none⟩ = some (.slice A a.2.length c) := BAW.cell 1
    have hwF : WW.cell? ⟨bf, 0, none⟩ = some (.int .i64 f.1) := BFW.cell 0
    have hwF1 : WW.cell? ⟨bf, 1, none⟩ = some (.slice A3 f.2.length c3) := BFW.cell 1
    have r0 : WW.cell? ⟨w.heap.size, 0, none⟩ = some (.int .i64 0) := RAW.cell 0
    have r1 : WW.cell? ⟨w.heap.size, 1, none⟩ = some (.slice none 0 0) := RAW.cell 1
    have r2 : WW.cell? ⟨w.heap.size + 1, 0, none⟩ = some (.int .i64 0) := RBW.cell 0
    have r3 : WW.cell? ⟨w.heap.size + 1, 1, none⟩ = some (.slice none 0 0) := RBW.cell 1
    have t0 : WW.frozen? ⟨w.heap.size, 0, none⟩ = false := RAW.frozen 0
    have t1 : WW.frozen? ⟨w.heap.size, 1, none⟩ = false := RAW.frozen 1
    have t2 : WW.frozen? ⟨w.heap.size + 1, 0, none⟩ = false := RBW.frozen 0
    have t3 : WW.frozen? ⟨w.heap.size + 1, 1, none⟩ = false := RBW.frozen 1
    have dA : WW.drew.cell? ⟨ba, 0, none⟩ = some (.int .i64 a.1) := hwA
    have dA1 : WW.drew.cell? ⟨ba, 1, none⟩ = some (.slice A a.2.length c) := hwA1
    have dF : WW.drew.cell? ⟨bf, 0, none⟩ = some (.int .i64 f.1) := hwF
    have dF1 : WW.drew.cell? ⟨bf, 1, none⟩ = some (.slice A3 f.2.length c3) := hwF1
    have d0 : WW.drew.cell? ⟨w.heap.size, 0, none⟩ = some (.int .i64 0) := r0
    have d1 : WW.drew.cell? ⟨w.heap.size, 1, none⟩ = some (.slice none 0 0) := r1
    have d2 : WW.drew.cell? ⟨w.heap.size + 1, 0, none⟩ = some (.int .i64 0) := r2
    have d3 : WW.drew.cell? ⟨w.heap.size + 1, 1, none⟩ = some (.slice none 0 0) := r3
    have e0 : WW.drew.frozen? ⟨w.heap.size, 0, none⟩ = false := t0
    have e1 : WW.drew.frozen? ⟨w.heap.size, 1, none⟩ = false := t1
    have e2 : WW.drew.frozen? ⟨w.heap.size + 1, 0, none⟩ = false := t2
    have e3 : WW.drew.frozen? ⟨w.heap.size + 1, 1, none⟩ = false := t3
    have HD1 := Lib.hid (matchDone (a := a) (f := f) (ys := ys) (va := .slice A a.2.length c) (vf := .slice A3 f.2.length c3) (vb := .slice A5 ys.length c5) RAW RBW (by omega) BWW (Nat.le_refl _) (Nat.le_succ _) (by omega) (by omega) OAW OFW OBW (Nat.le_refl _) rfl)
    clear BAW BFW RAW RBW OAW OFW OBW BWW
    go_upto_region 17 with fail
    go_region_law (fail)
    all_goals
      obtain ⟨W, hW⟩ : ∃ W, W = (((WW.setCell ⟨w.heap.size, 0, none⟩ (.int .i64 a.1)).setCell ⟨w.heap.size, 1, none⟩ (.slice A a.2.length c)).setCell ⟨w.heap.size + 1, 0, none⟩ (.int .i64 f.1)).setCell ⟨w.heap.size + 1, 1, none⟩ (.slice A3 f.2.length c3) := ⟨_, rfl⟩
      rw [← hW] at HD1 ⊢
      obtain ⟨c0, c1, c4, c5', i1, i2, i3, bb⟩ := HD1.out
      have HE := Lib.hid (And.intro i1 (And.intro i2 (And.intro i3 bb)))
      clear HD1 hW i1 i2 i3 bb dA dA1 dF dF1 d0 d1 d2 d3 e0 e1 e2 e3 hwA hwA1 hwF hwF1 r0 r1 r2 r3 t0 t1 t2 t3
      go_wp2_with fail
      refine bodyPost_ret (v := .tuple #[.agg #[.int .i64 a.1, .slice A a.2.length c], .agg #[.int .i64 f.1, .slice A3 f.2.length c3], .slice A5 ys.length c5]) (by simp [results, Try.results35, go_sem, c0, c1, c4, c5']) rfl ?_
      exact ⟨a, f, ys, A, c, A3, c3, A5, c5, rfl, by omega, by omega, by omega, HE.out.1, HE.out.2.1, HE.out.2.2.1, HE.out.2.2.2.drew⟩

end Go.Proofs.Ytfjmnjemmfmoaaa
