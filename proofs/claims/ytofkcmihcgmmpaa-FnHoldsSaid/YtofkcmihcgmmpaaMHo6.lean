/-
  Texts that the claim's last one imports, laid together: part 6 of 8. No condition of its own.
-/
import Derived.Test.YtofkcmihcgmmpaaMHo1
import Derived.Test.YtofkcmihcgmmpaaMHo3
import Derived.Test.YtofkcmihcgmmpaaMHo4
import Derived.Test.YtofkcmihcgmmpaaMHo5
/-
  The specification's l3Copy, l3Match.
-/
namespace Go.Proofs.Ytofkcmihcgmmpaa
open Go.RowKit

/-- A row of one's own that is not empty: its block, its cells. -/
theorem OwnInts.at_ {w : World} {lo hi c n : Nat} {A : Option Addr} {xs : List Int} (h : OwnInts w lo hi (.slice A n c) xs) (hn : 0 < xs.length) :
    ∃ g, A = some ⟨g, 0, none⟩ ∧ lo ≤ g ∧ g < hi ∧ g < w.heap.size ∧ (∀ k (hk : k < xs.length), w.cell? ⟨g, k, none⟩ = some (.int .i64 xs[k])) ∧ ∀ k, w.frozen? ⟨g, k, none⟩ = false := by
  obtain ⟨g, cap, e, _, _⟩ := h.1.form hn
  injection e with e1 e2 e3
  subst e1
  subst e2
  obtain ⟨l1, l2, l3⟩ := h.lt (g := g) rfl
  obtain ⟨A', c', e, _, hx⟩ := h.rd
  injection e with e1 _ _
  obtain ⟨b, o, e2, _, hx⟩ := hx hn
  rw [← e1] at e2
  injection e2 with e2
  injection e2 with e2 e3 _
  subst e2
  subst e3
  exact ⟨g, rfl, l1, l2, l3, fun k hk => by simpa using hx k hk, fun k => World.ownsRow.frozenAt h.1 k⟩

theorem OwnInts.atG {w : World} {lo hi c n g : Nat} {xs : List Int} (h : OwnInts w lo hi (.slice (some ⟨g, 0, none⟩) n c) xs) (hn : 0 < xs.length) :
    lo ≤ g ∧ g < hi ∧ g < w.heap.size ∧ (∀ k (hk : k < xs.length), w.cell? ⟨g, k, none⟩ = some (.int .i64 xs[k])) ∧ ∀ k, w.frozen? ⟨g, k, none⟩ = false := by
  obtain ⟨g', e, h'⟩ := h.at_ hn
  injection e with e
  injection e with e _ _
  subst e
  exact h'

set_option maxHeartbeats 1000000 in
set_option maxRecDepth 100000 in
theorem l3Copy_any (v : Value) (xs : List Int) (w : World) (h : RdInts w w.heap.size v xs) (hr : xs.length ≤ 1048576) :
    Calls Try.prog 33 #[v] w fun e w' => ∃ A' c', e = .returned (.slice A' xs.length c') ∧ OwnInts w' w.heap.size w'.heap.size (.slice A' xs.length c') xs ∧ Below w.heap.size w w' := by
  obtain ⟨i0, hi0, hz0, hz1, hz2⟩ := info_parts Try.infoInt
  have H := Lib.hid h
  obtain ⟨A, c, rfl, hc, _⟩ := h
  have C0 := Lib.hid (ColI.empty (Below.refl w.heap.size w))
  go_enter Try.func33, Try.ntmps33
  go_wp2_with (fail)
  go_loopw [3, 4] (fun o i wr => ∃ (k : Nat) (A' : Option Addr) (c' : Nat), k ≤ xs.length ∧ i = .int .i64 k ∧ o = .slice A' (xs.take k).length c' ∧ ColI w wr (xs.take k) A' c') (fun _ i _ => xs.length - (intOf i).toNat)
  case atStart => exact ⟨0, _, 0, Nat.zero_le _, rfl, rfl, C0.out⟩
  case round =>
    obtain ⟨k, A', c', hk, rfl, rfl, hr'⟩ := hrel
    have hln : (xs.take k).length ≤ k := by simp; omega
    by_cases hlt : k < xs.length
    · have hre := H.out.below hr'.below (Nat.le_refl _)
      obtain ⟨A3, c3, e3, _, hx⟩ := hre
      injection e3 with e3 _ e4
      subst e3 e4
      obtain ⟨b, o, rfl, hbB, hx⟩ := hx (by omega)
      have hck : wr.cell? ⟨b, o + k, none⟩ = some (.int .i64 xs[k]) := hx k hlt
      have HS := Lib.hid (take_snoc xs k hlt)
      have HP := Lib.hid hr'
      clear hx hr'
      obtain ⟨x, hx⟩ : ∃ x, x = xs[k] := ⟨_, rfl⟩
      rw [← hx] at hck HS
      clear hx
      obtain ⟨zs, hzs⟩ : ∃ zs, zs = xs.take k := ⟨_, rfl⟩
      have HZ := Lib.hid hzs
      rw [← hzs] at HP hln ⊢
      clear hzs
      go_wp2_with (at_builtin; refine wpList_append_lies _ rfl (.tmp 12) (.tmp 17) 24 rfl w.heap.size 3 i0 (.int .i64 0) 1 8 Try.underlying24 hi0 hz0 hz1 hz2 rfl (by decide) (.slice A' zs.length c') zs.length (zs.map (Value.int .i64)) rfl ?c1 ⟨_, 0, none⟩ 1 1 [.int .i64 x] rfl rfl (news1s _ _ _ _ (by simp)) ?c2 (by omega) (by unfold maxLen; omega) (by omega) ?c3 _ rfl ?_)
      case c1 => exact HP.out.own.1.alloc _
      case c2 => first | rfl | (intro u hu; simp at hu; subst hu; rfl)
      case c3 => have := HP.out.below.size; simp; omega
      intro g cap w4 hown hg _ _
      have hcol := HP.out.push (Below.refl _ _) hg hown
      rw [HZ.out, ← HS.out] at hcol
      have hlen : zs.length + 1 = (xs.take (k + 1)).length := by rw [HS.out, HZ.out]; simp
      rw [hlen]
      have HC := Lib.hid hcol
      clear hcol hlen hown hg
      go_wp2_with (fail)
      go_roundw
      case rel => exact ⟨k + 1, _, _, by omega, by go_num, rfl, HC.out⟩
      case measure => simp [intOf]; omega
    · have hkn : k = xs.length := by omega
      have HZ := Lib.hid (show xs.take k = xs by rw [hkn, List.take_length])
      have HO := Lib.hid hr'
      rw [HZ.out] at HO ⊢
      clear hkn hr'
      go_wp2_with (fail)
      go_ret
      exact ⟨_, _, rfl, HO.out.own, HO.out.below⟩

set_option maxHeartbeats 4000000 in
set_option maxRecDepth 100000 in
theorem l3Match_n (v v2 v3 : Value) (a f : LFact) (bs R : List Int) (ok : Bool) (hR : R = (matchL a f bs).getD []) (hok : ok = (matchL a f bs).isSome) (w : World) (hb : bindOk bs = true) (h : RdFact w w.heap.size v a) (h2 : RdFact w w.heap.size v2 f) (h3 : RdInts w w.heap.size v3 bs)
    (ht : a.2.all termOk = true) (hf : f.2.all constOk = true) (hr : a.2.length ≤ 1048576) (hr2 : f.2.length ≤ 1048576) :
    Calls Try.prog 16 #[v, v2, v3] w fun e w' => ∃ A' c', e = .returned (.tuple #[.slice A' R.length c', .bool ok]) ∧ OwnInts w' w.heap.size w'.heap.size (.slice A' R.length c') R ∧ Below w.heap.size w w' := by
  obtain ⟨pa, xs⟩ := a
  obtain ⟨pf, ys⟩ := f
  simp only at ht hf hr hr2
  have HO := Lib.hid (And.intro hR hok)
  clear hR hok
  have H3 := Lib.hid h3
  obtain ⟨A3, c3, rfl, hc3, _⟩ := h3
  obtain ⟨u, rfl, A, c, rfl, hc, hA⟩ := h
  obtain ⟨u, rfl, A2, c2, rfl, hc2, hA2⟩ := h2
  by_cases hp : pa = pf
  · have hpb : (pa != pf) = false := by simp [hp]
    by_cases hl : xs.length = ys.length
    · have hl1 : ((xs.length : Int) != (ys.length : Int)) = false := by simp [hl]
      have HL := Lib.hid hl
      have HP := Lib.hid hp
      have HB := Lib.hid hb
      have HB4 := Lib.hid (bindOk_len hb)
      clear hl hp hb
      have x0 := (Blk.new w 26 #[.int .i64 pa, .slice A xs.length c]).alloc (Obj.cells #[.int .i64 pf, .slice A2 ys.length c2] 34)
      have x1 : Blk ((w.alloc (Obj.cells #[.int .i64 pa, .slice A xs.length c] 26)).alloc (Obj.cells #[.int .i64 pf, .slice A2 ys.length c2] 34)) (w.heap.size + 1) 34 #[.int .i64 pf, .slice A2 ys.length c2] := by simpa using Blk.new (w.alloc (Obj.cells #[.int .i64 pa, .slice A xs.length c] 26)) 34 #[.int .i64 pf, .slice A2 ys.length c2]
      go_enter Try.func16, Try.ntmps16
      go_wp2_with (fail)
      obtain ⟨w2, hw2⟩ : ∃ w2, w2 = ((w.alloc (Obj.cells #[Value.int IntKind.i64 pa, Value.slice A xs.length c] 26)).alloc (Obj.cells #[Value.int IntKind.i64 pf, Value.slice A2 ys.length c2] 34)) := ⟨_, rfl⟩
      have B2 : Below w.heap.size w w2 := by rw [hw2]; exact below2 _ _ _
      rw [← hw2] at x0 x1 ⊢
      clear hw2
      have l1 := x1.lt
      refine (l3Copy_any _ bs _ (H3.out.on B2) (by have := HB4.out; omega)).mono ?_
      rintro e w3 ⟨A', c', rfl, ho, hb3⟩
      obtain ⟨g, rfl, hg1, hg2, hg3, _, _⟩ := ho.at_ (by have := HB4.out; omega)
      have R0 : OwnInts w3 w2.heap.size w3.heap.size (.slice (some ⟨g, 0, none⟩) bs.length c') bs ∧ Below w.heap.size w w3 ∧ Blk w3 w.heap.size 26 #[.int .i64 pa, .slice A xs.length c] ∧ Blk w3 (w.heap.size + 1) 34 #[.int .i64 pf, .slice A2 ys.length c2] := ⟨ho, bthen B2 hb3, x0.below hb3 x0.lt, x1.below hb3 x1.lt⟩
      rw [HB4.out] at R0 ⊢
      clear ho hb3 x0 x1 hg3 hg2
      go_wp2_with (fail)
      go_loopw [9, 10] (fun i _ wr => ∃ (k : Nat) (cur : List Int), k ≤ xs.length ∧ i = .int .i64 k ∧ bindOk cur = true ∧ matchTo bs xs ys k = some cur ∧ OwnInts wr w2.heap.size wr.heap.size (.slice (some ⟨g, 0, none⟩) 4 c') cur ∧ Below w.heap.size w wr ∧ Blk wr w.heap.size 26 #[.int .i64 pa, .slice A xs.length c] ∧ Blk wr (w.heap.size + 1) 34 #[.int .i64 pf, .slice A2 ys.length c2]) (fun i _ _ => xs.length - (intOf i).toNat)
      case atStart => exact ⟨0, bs, Nat.zero_le _, rfl, HB.out, rfl, R0.1, R0.2.1, R0.2.2.1, R0.2.2.2⟩
      case round =>
        obtain ⟨k, cur, hk, rfl, hcb, hmt, ho, hbe, y0, y1⟩ := hrel
        have q01 : wr.cell? ⟨w.heap.size, 1, none⟩ = some (.slice A xs.length c) := y0.cell 1
        have q11 : wr.cell? ⟨w.heap.size + 1, 1, none⟩ = some (.slice A2 ys.length c2) := y1.cell 1
        have hcl := bindOk_len hcb
        have HP2 := Lib.hid (And.intro ho (And.intro hbe (And.intro y0 y1)))
        by_cases hlt : k < xs.length
        · have hlt2 : k < ys.length := by have := HL.out; omega
          obtain ⟨b, o, rfl, hbB, hx⟩ := hA (by omega)
          obtain ⟨b2, o2, rfl, hbB2, hx2⟩ := hA2 (by omega)
          have hck : wr.cell? ⟨b, o + k, none⟩ = some (.int .i64 xs[k]) := (hbe.cell (p := ⟨b, o + k, none⟩) hbB).trans (hx k hlt)
          have hck2 : wr.cell? ⟨b2, o2 + k, none⟩ = some (.int .i64 ys[k]) := (hbe.cell (p := ⟨b2, o2 + k, none⟩) hbB2).trans (hx2 k hlt2)
          have htk : termOk xs[k] = true := List.all_eq_true.1 ht _ (List.getElem_mem hlt)
          have hfk : 0 ≤ ys[k] ∧ ys[k] ≤ 5 := by simpa [constOk] using List.all_eq_true.1 hf _ (List.getElem_mem hlt2)
          have hst := matchTo_step hmt hlt hlt2
          have htb := termOk_at htk
          obtain ⟨hg1', _, hg3, hcc, hcf⟩ := ho.atG (by omega)
          clear hx hx2 hA hA2
          obtain ⟨t, htv⟩ : ∃ t, t = xs[k] := ⟨_, rfl⟩
          obtain ⟨y, hyv⟩ : ∃ y, y = ys[k] := ⟨_, rfl⟩
          rw [← htv] at htk hck hst htb
          rw [← hyv] at hfk hck2 hst
          clear htv hyv
          by_cases e2 : termVal cur t = -1
          · -- the variable gets it
            obtain ⟨q1, q2, q3⟩ := termVal_free htk e2
            obtain ⟨j, hj4, rfl⟩ : ∃ j : Nat, j < 4 ∧ t = -1 - (j : Int) := ⟨(-1 - t).toNat, by omega, by omega⟩
            have hjt : (-1 - (-1 - (j : Int))).toNat = j := by omega
            have hje : -1 - (-1 - (j : Int)) = (j : Int) := by omega
            rw [hjt] at q3
            have hjl : j < cur.length := by omega
            have hjI : (j : Int) < 4 := by omega
            have hcj : wr.cell? ⟨g, j, none⟩ = some (.int .i64 (-1)) := by
              have hh := hcc j hjl
              rwa [show cur[j] = -1 by simpa [hjl] using q3] at hh
            have hfj := hcf j
            have hoo := OwnInts.store (A := some ⟨g, 0, none⟩) (c := c') (g := g) (xs := cur) (by rw [hcl]; exact ho) rfl hjl y
            obtain ⟨ws, hws⟩ : ∃ ws, ws = wr.setCell ⟨g, j, none⟩ (.int .i64 y) := ⟨_, rfl⟩
            have z0 := y0.far (p := ⟨g, j, none⟩) (by show w.heap.size ≠ g; omega) (.int .i64 y)
            have z1 := y1.far (p := ⟨g, j, none⟩) (by show w.heap.size + 1 ≠ g; omega) (.int .i64 y)
            have zb : Below w.heap.size w ws := by rw [hws]; exact hbe.setCell (by show w.heap.size ≤ g; omega) _
            have hsz : ws.heap.size = wr.heap.size := by rw [hws]; simp
            rw [← hws] at hoo z0 z1
            rw [hcl] at hoo
            have HCS := Lib.hid (show bindOk (cur.set j y) = true from bindOk_set hcb (by omega) _)
            have hsl : (cur.set j y).length = 4 := by rw [List.length_set]; exact hcl
            have HMS := Lib.hid (show matchTo bs xs ys (k + 1) = some (cur.set j y) by rw [hst, stepM_new e2 (by omega), hjt])
            have HTV := Lib.hid (show termVal (cur.set j y) (-1 - (j : Int)) = y by
              rw [termVal_var (by omega), hjt]
              simp [hjl])
            have hck2s : ws.cell? ⟨b2, o2 + k, none⟩ = some (.int .i64 y) := by
              rw [hws, World.cell?_setCell_other _ _ _ _ (by intro e; injection e with e1 _ _; omega)]
              exact hck2
            have q11s : ws.cell? ⟨w.heap.size + 1, 1, none⟩ = some (.slice (some ⟨b2, o2, none⟩) ys.length c2) := z1.cell 1
            have HT := Lib.hid (fun n => quiet_left (l3Term_any (.slice (some ⟨g, 0, none⟩) 4 c') (cur.set j y) (-1 - (j : Int)) ws.heap.size (ws.drewN n) (by
              have := (hoo.rd.more (B' := ws.heap.size) (by omega)).below (bdrewN (Below.refl ws.heap.size ws) n) (Nat.le_refl _)
              exact this) hsl htk))
            have HQ := Lib.hid (And.intro (show OwnInts ws w2.heap.size ws.heap.size (.slice (some ⟨g, 0, none⟩) 4 c') (cur.set j y) by rw [hsz]; exact hoo) (And.intro zb (And.intro z0 z1)))
            have HW := Lib.hid hws
            have HE2 := Lib.hid (And.intro e2 (And.intro q3 (And.intro hst hmt)))
            clear hoo z0 z1 zb hws hst hmt e2 q3 hcc hcf ho y0 y1
            rw [HTV.out] at HT
            go_wp2_with (fail)
            rw [← HW.out]
            go_quiet ((go_at_call 27; exact HT.out _))
            go_wp2_with (fail)
            go_roundw
            case rel =>
              obtain ⟨a1, a2, a3, a4⟩ := HQ.out
              exact ⟨k + 1, _, by omega, by go_num, HCS.out, HMS.out, a1.below (bdrewN (Below.refl _ _) _) (Nat.le_refl _), bdrewN a2 _, a3.drewN _, a4.drewN _⟩
            case measure => simp [intOf]; omega
          · have HT := Lib.hid (fun n => quiet_left (l3Term_any (.slice (some ⟨g, 0, none⟩) 4 c') cur t wr.heap.size (wr.drewN n) (by
              have h' : OwnInts wr w2.heap.size wr.heap.size (.slice (some ⟨g, 0, none⟩) cur.length c') cur := by rw [hcl]; exact ho
              have := h'.rd.below (bdrewN (Below.refl wr.heap.size wr) n) (Nat.le_refl _)
              rw [hcl] at this
              exact this) hcl htk))
            -- no store: a constant, or a variable that has one
            have hns : 0 ≤ t ∨ ∃ j : Nat, ∃ hj : j < cur.length, t = -1 - (j : Int) ∧ 0 ≤ cur[j] := by
              rcases Int.lt_or_le t 0 with h0 | h0
              · right
                have hj : (-1 - t).toNat < cur.length := by omega
                refine ⟨(-1 - t).toNat, hj, by omega, ?_⟩
                rw [termVal_var h0] at e2
                have e3 : cur[(-1 - t).toNat] ≠ -1 := by simpa [hj] using e2
                have := bindOk_at hcb hj
                omega
              · exact .inl h0
            have HV := Lib.hid (And.intro e2 (And.intro hst hmt))
            clear e2 hst hmt y0 y1
            by_cases e1 : termVal cur t = y
            · have hd1 : (y != y) = false := by simp
              have HMS := Lib.hid (show matchTo bs xs ys (k + 1) = some cur by rw [HV.out.2.1, stepM_same e1])
              rw [e1] at HT
              clear e1
              rcases hns with h0 | ⟨j, hj, rfl, hj0⟩
              · have hd0 : decide (t < 0) = false := by simp; omega
                clear ho hcc hcf
                go_wp2_with (fail)
                go_quiet ((go_at_call 27; exact HT.out _))
                go_wp2_with (fail)
                go_roundw
                case rel =>
                  obtain ⟨a1, a2, a3, a4⟩ := HP2.out
                  exact ⟨k + 1, _, by omega, by go_num, hcb, HMS.out, a1.below (bdrewN (Below.refl _ _) _) (Nat.le_refl _), bdrewN a2 _, a3.drewN _, a4.drewN _⟩
                case measure => simp [intOf]; omega
              · have hje : -1 - (-1 - (j : Int)) = (j : Int) := by omega
                have hjI : (j : Int) < 4 := by omega
                have hcj : wr.cell? ⟨g, j, none⟩ = some (.int .i64 cur[j]) := hcc j hj
                have hdj : decide (cur[j] < 0) = false := by simp; omega
                clear ho hcc hcf
                go_wp2_with (fail)
                go_quiet ((go_at_call 27; exact HT.out _))
                go_wp2_with (fail)
                go_roundw
                case rel =>
                  obtain ⟨a1, a2, a3, a4⟩ := HP2.out
                  exact ⟨k + 1, _, by omega, by go_num, hcb, HMS.out, a1.below (bdrewN (Below.refl _ _) _) (Nat.le_refl _), bdrewN a2 _, a3.drewN _, a4.drewN _⟩
                case measure => simp [intOf]; omega
            · have hd1 : (termVal cur t != y) = true := by simpa using e1
              have HN := Lib.hid (show matchL (pa, xs) (pf, ys) bs = none from matchL_stop HP.out HL.out hlt (by rw [HV.out.2.1, stepM_no e1 HV.out.1]))
              have HZ := Lib.hid (show R = [] ∧ ok = false from ⟨by rw [HO.out.1, HN.out]; rfl, by rw [HO.out.2, HN.out]; rfl⟩)
              clear e1
              rcases hns with h0 | ⟨j, hj, rfl, hj0⟩
              · have hd0 : decide (t < 0) = false := by simp; omega
                clear ho hcc hcf
                go_wp2_with (fail)
                go_quiet ((go_at_call 27; exact HT.out _))
                go_wp2_with (fail)
                go_ret2
                rw [HZ.out.1, HZ.out.2]
                exact ⟨none, 0, rfl, zeroI _ _ _, bdrewN hbe _⟩
              · have hje : -1 - (-1 - (j : Int)) = (j : Int) := by omega
                have hjI : (j : Int) < 4 := by omega
                have hcj : wr.cell? ⟨g, j, none⟩ = some (.int .i64 cur[j]) := hcc j hj
                have hdj : decide (cur[j] < 0) = false := by simp; omega
                clear ho hcc hcf
                go_wp2_with (fail)
                go_quiet ((go_at_call 27; exact HT.out _))
                go_wp2_with (fail)
                go_ret2
                rw [HZ.out.1, HZ.out.2]
                exact ⟨none, 0, rfl, zeroI _ _ _, bdrewN hbe _⟩
        · have hkn : k = xs.length := by omega
          have HN := Lib.hid (show matchL (pa, xs) (pf, ys) bs = some cur by rw [matchL_eq HP.out HL.out, ← hmt, hkn])
          have HZ := Lib.hid (show R = cur ∧ ok = true from ⟨by rw [HO.out.1, HN.out]; rfl, by rw [HO.out.2, HN.out]; rfl⟩)
          have HCL := Lib.hid hcl
          clear hkn hmt hA hA2 ho y0 y1 hcl
          go_wp2_with (fail)
          go_ret2
          rw [HZ.out.1, HZ.out.2, HCL.out]
          exact ⟨_, _, rfl, HP2.out.1.mono (by omega) (Nat.le_refl _), hbe⟩
    · have hl1 : ((xs.length : Int) != (ys.length : Int)) = true := by simp; omega
      have HN := Lib.hid (show matchL (pa, xs) (pf, ys) bs = none from matchL_len hl)
      have HZ := Lib.hid (show R = [] ∧ ok = false from ⟨by rw [HO.out.1, HN.out]; rfl, by rw [HO.out.2, HN.out]; rfl⟩)
      clear hA hA2 hl
      go_enter Try.func16, Try.ntmps16
      go_wp2_with (fail)
      go_ret2
      rw [HZ.out.1, HZ.out.2]
      exact ⟨none, 0, rfl, zeroI _ _ _, below2 _ _ _⟩
  · have hpb : (pa != pf) = true := by simp [hp]
    have HN := Lib.hid (show matchL (pa, xs) (pf, ys) bs = none from matchL_pred hp)
    have HZ := Lib.hid (show R = [] ∧ ok = false from ⟨by rw [HO.out.1, HN.out]; rfl, by rw [HO.out.2, HN.out]; rfl⟩)
    clear hA hA2 hp
    go_enter Try.func16, Try.ntmps16
    go_wp2_with (fail)
    go_ret2
    rw [HZ.out.1, HZ.out.2]
    exact ⟨none, 0, rfl, zeroI _ _ _, below2 _ _ _⟩

end Go.Proofs.Ytofkcmihcgmmpaa
/-
  A program and facts of it drawn: the walk of l3Case.
-/
namespace Go.Proofs.Ytofkcmihcgmmpaa
open Go.RowKit

theorem l6Least_any (a b : Int) (w : World) : Calls Try.prog 34 #[.int .i64 a, .int .i64 b] w fun e w' => e = .returned (.int .i64 (if b < a then b else a)) ∧ w = w' := by
  go_enter Try.func34, Try.ntmps34
  by_cases h : b < a
  · have hb : decide (b < a) = true := by simpa using h
    go_wp2_with (fail)
    go_ret
    exact ⟨ret_int rfl, rfl⟩
  · have hb : decide (b < a) = false := by simpa using h
    go_wp2_with (fail)
    go_ret
    exact ⟨ret_int rfl, rfl⟩

section
variable {w wr w' w1 : World} {D g q B : Nat} {bs : List Nat} {A Ar : Option Addr} {c cr : Nat} {ar : List Int} {es : List Ent}
theorem Pg4.go (h : Pg4 w wr D B g bs q A c ar Ar cr es) (hg : g < w.heap.size) {q' : Nat} (hr : Rdr w' g bs q') (ho : Only g (g + 1) wr w') : Pg4 w w' D B g bs q' A c ar Ar cr es :=
  ⟨h.res.only ho (.inr (by omega)), h.prg.only ho (.inr (by have := h.low; have := h.high; omega)), h.own.only ho (.inr (by omega)), h.rules.only ho (by have := h.low; omega), h.low, h.high, hr, h.only.trans ho⟩
theorem Pg4.start (hg : g < w.heap.size) (hB : w.heap.size + 1 ≤ B) (hB2 : B ≤ w1.heap.size) (hw : w' = w1.alloc (.cells #[.slice A ar.length c, .slice Ar es.length cr] 44))
    (h1 : OwnInts w1 (w.heap.size + 1) B (.slice A ar.length c) ar) (h2 : RowR B w1 es Ar cr) (h3 : Rdr w1 g bs q) (h4 : Only g (g + 1) (w.alloc (.cells #[.slice none 0 0, .slice none 0 0] 44)) w1) : Pg4 w w' w1.heap.size B g bs q A c ar Ar cr es := by
  have hb : Below w1.heap.size w1 w' := by rw [hw]; exact below1 _ _
  refine ⟨((Blk.new w 44 #[.slice none 0 0, .slice none 0 0]).only h4 (.inr (by omega))).below hb (by omega), by rw [hw]; exact Blk.new _ _ _, h1.below hb hB2, h2.below hb, hB, hB2, h3.below hb h3.lt, ((Only.of_below (below1 w _)).trans h4).trans (Only.of_below hb)⟩
end
theorem OwnInts.capLe {w : World} {lo hi c : Nat} {A : Option Addr} {xs : List Int} (h : OwnInts w lo hi (.slice A xs.length c) xs) : xs.length ≤ c := by
  rcases h.1.2 with ⟨e, h0⟩ | ⟨g, cq, cur, e, hb, hgg, hn, _⟩
  · injection e with _ _ e
    omega
  · injection e with _ _ e
    omega
/-- A row's first elements. -/
theorem OwnInts.front {w : World} {lo hi c n : Nat} {A : Option Addr} {xs : List Int} (h : OwnInts w lo hi (.slice A xs.length c) xs) (hn : n ≤ xs.length) (h0 : 0 < xs.length) : OwnInts w lo hi (.slice A n c) (xs.take n) := by
  obtain ⟨⟨hl, h⟩, hlt⟩ := h
  rcases h with ⟨e, h1⟩ | ⟨g, cap, cur, e, hb, hg, h1, h2, h3, h4⟩
  · omega
  · injection e with e1 e2 e3
    subst e1 e3
    have hlen : (xs.take n).length = n := by simp; omega
    refine ⟨⟨by rw [List.length_map, hlen]; omega, .inr ⟨g, c, cur, by rw [hlen], hb, hg, by omega, h2, h3, ?_⟩⟩, fun g' hg' => hlt g' hg'⟩
    rw [hlen, List.map_take, ← h4, List.take_take]
    congr 1
    omega

/-- The arity of the facts: a copy, no place over two; wd is the world that it was laid in. -/
def CapAt (wc wx : World) (g : Nat) (bs : List Nat) (q : Nat) (lo hi : Nat) (s : Value) : Prop :=
  ∃ (A4 : Option Addr) (c4 : Nat) (zs : List Int), s = .slice A4 zs.length c4 ∧ zs.length ≤ 5 ∧ (∀ x ∈ zs, 0 ≤ x ∧ x ≤ 2) ∧ OwnInts wx lo hi (.slice A4 zs.length c4) zs ∧ hi ≤ wx.heap.size ∧ Rdr wx g bs q ∧ Only g (g + 1) wc wx

/-- The same, ahead of the cut, with a flag. -/
def CapF (wc wx : World) (g : Nat) (bs : List Nat) (q : Nat) (lo hi : Nat) (A4 : Option Addr) (c4 : Nat) (zs : List Int) (s : Value) : Prop :=
  ∃ fl : Bool, s = .bool fl ∧ OwnInts wx lo hi (.slice A4 zs.length c4) zs ∧ hi ≤ wx.heap.size ∧ Rdr wx g bs q ∧ Only g (g + 1) wc wx

set_option maxHeartbeats 4000000 in
set_option maxRecDepth 100000 in
theorem l3Case_any (g : Nat) (bs : List Nat) (p most : Nat) (no : Int) (w : World) (h : Rdr w g bs p) (hp : p ≤ 50000) (hm : most ≤ 64) :
    Calls Try.prog 13 #[.pointer (some ⟨g, 0, none⟩), .int .i64 no, .int .i64 most] w fun e w' => ∃ (A Ar Af : Option Addr) (c cr cf B q : Nat) (ar : List Int) (es : List Ent) (fs : List LFact), e = .returned (.tuple #[.agg #[.slice A ar.length c, .slice Ar es.length cr], .slice Af fs.length cf]) ∧ AnyOk ar es ∧ fs.length ≤ most ∧ tot fs ≤ 3 * most ∧ q ≤ p + 1710 + 24 * most ∧
      w.heap.size ≤ B ∧ B ≤ w'.heap.size ∧ OwnInts w' w.heap.size B (.slice A ar.length c) ar ∧ RowR B w' es Ar cr ∧ OwnFacts w' B w'.heap.size (.slice Af fs.length cf) fs ∧ Rdr w' g bs q ∧ Only g (g + 1) w w' := by
  have hgl := h.lt
  have H := Lib.hid h
  clear h
  go_enter Try.func13, Try.ntmps13
  go_wp2_with (fail)
  refine (l2Any_any g bs p no _ (H.out.below (below1 w (.cells #[.slice none 0 0, .slice none 0 0] 44)) H.out.lt) (by omega)).mono ?_
  rintro e w1 ⟨A, Ar, c, cr, B, q, ar, es, rfl, hok, hq, hB, hB2, h1, h2, h3, h4⟩
  have HOK := Lib.hid hok
  simp only [World.size_alloc] at hB h1
  have HQ := Lib.hid (And.intro hB (And.intro hB2 (And.intro h1 (And.intro h2 (And.intro h3 h4)))))
  have hal4 := hok.1
  have hal5 := hok.2.1
  clear hok hB hB2 h1 h2 h3 h4
  go_upto_region 2 with (fail)
  obtain ⟨wc, hwc⟩ : ∃ wS, wS = w1.alloc (.cells #[.slice A ar.length c, .slice Ar es.length cr] 44) := ⟨_, rfl⟩
  have H1 := Lib.hid (Pg4.start hgl HQ.out.1 HQ.out.2.1 hwc HQ.out.2.2.1 HQ.out.2.2.2.1 HQ.out.2.2.2.2.1 HQ.out.2.2.2.2.2)
  rw [← hwc]
  clear hwc HQ
  obtain ⟨D, hD⟩ : ∃ D, D = w1.heap.size := ⟨_, rfl⟩
  rw [← hD] at H1 ⊢
  clear hD
  have k0 : wc.cell? ⟨D, 0, none⟩ = some (.slice A ar.length c) := H1.out.prg.cell 0
  have hgc : g < wc.heap.size := H1.out.rdr.lt
  have HSZ := Lib.hid H1.out.only.size
  have hDc := H1.out.prg.lt
  go_wp2_with (fail)
  refine (l3Copy_any (.slice A ar.length c) ar wc (H1.out.own.rd.more (by have := H1.out.high; omega)) (by omega)).mono ?_
  rintro e w2 ⟨A4, c4, rfl, o4, b4⟩
  have HI := Lib.hid o4
  have HO2 := Lib.hid (Only.of_below (lo := g) (hi := g + 1) b4)
  have HR2 := Lib.hid (H1.out.rdr.below b4 hgc)
  have hs2 := b4.size
  clear o4 b4 k0
  go_wp2_with (fail)
  go_loopw [10] (fun i wr => ∃ (k : Nat) (zs : List Int), k ≤ ar.length ∧ i = .int .i64 k ∧ zs.length = ar.length ∧ (∀ x ∈ zs, 0 ≤ x ∧ x ≤ 3) ∧ (∀ j (h : j < zs.length), j < k → zs[j] ≤ 2) ∧ OwnInts wr wc.heap.size w2.heap.size (.slice A4 ar.length c4) zs ∧ Rdr wr g bs q ∧ Only g (g + 1) wc wr ∧ wr.heap.size = w2.heap.size) (fun i _ => ar.length - (intOf i).toNat)
  case atStart => exact ⟨0, ar, Nat.zero_le _, rfl, rfl, HOK.out.2.2.1, fun j _ h => absurd h (Nat.not_lt_zero _), HI.out, HR2.out, HO2.out, rfl⟩
  case round =>
    obtain ⟨k, zs, hk, rfl, hzl, hz3, hz2, hzo, hrr, hor, hsr⟩ := hrel
    have HZL := Lib.hid hzl
    have HZ := Lib.hid (And.intro hz3 (And.intro hz2 (And.intro hzo (And.intro hrr (And.intro hor hsr)))))
    by_cases hlt : k < ar.length
    · have hlz : k < zs.length := by omega
      obtain ⟨g4, hg4⟩ : ∃ g4, A4 = some ⟨g4, 0, none⟩ := by
        obtain ⟨g2, cap, e, _⟩ := hzo.1.form (by omega)
        injection e with e1 _ _
        exact ⟨g2, e1⟩
      subst hg4
      rw [← hzl] at hzo
      have HST := Lib.hid (fun x => hzo.store (j := k) rfl hlz x)
      have r0 := hzo.1.cellAt k (by omega)
      have r1 := hzo.1.frozenAt k
      have hg4l := hzo.lt (g := g4) rfl
      have hg4w : wc.heap.size ≤ g4 := hg4l.1
      rw [show (zs.map (Value.int .i64))[k]? = some (.int .i64 zs[k]) by simp [hlz]] at r0
      have hkb : decide ((k : Int) < (ar.length : Int)) = true := by rw [decide_eq_true_eq]; omega
      clear hzl hz3 hz2 hzo hrr hor hsr hg4l
      go_wp2_with (go_at_call 34; refine (l6Least_any zs[k] 2 wr).mono ?_; rintro e wn ⟨rfl, rfl⟩)
      go_roundw
      case rel =>
        obtain ⟨z3, z2, zo, rr, orr, sr⟩ := HZ.out
        obtain ⟨x, hx⟩ : ∃ x, x = (if (2 : Int) < zs[k] then 2 else zs[k]) := ⟨_, rfl⟩
        have hxr : 0 ≤ x ∧ x ≤ 2 := by
          have := z3 _ (List.getElem_mem hlz)
          rw [hx]
          split <;> omega
        rw [← hx]
        refine ⟨k + 1, zs.set k x, by omega, by go_num, by rw [List.length_set]; exact HZL.out, fun y hy => ?_, fun j hj hjk => ?_, ?_, rr.same fun k' hk' => Below.heap_setCell _ _ _ k' (by show k' ≠ g4; omega), orr.setNew (p := ⟨g4, k, none⟩) hg4w _, by simpa using sr⟩
        · rcases List.mem_or_eq_of_mem_set hy with h | h
          · exact z3 y h
          · omega
        · by_cases e : k = j
          · subst e
            rw [List.getElem_set_self]
            exact hxr.2
          · rw [List.getElem_set_ne e]
            exact z2 j (by simpa using hj) (by omega)
        · have := HST.out x
          rw [HZL.out] at this
          exact this
      case measure => simp [intOf]; omega
    · have hkb : decide ((k : Int) < (ar.length : Int)) = false := by rw [decide_eq_false_iff_not]; omega
      have hz2' : ∀ x ∈ zs, 0 ≤ x ∧ x ≤ 2 := fun x hx => by
        obtain ⟨j, hj, rfl⟩ := List.getElem_of_mem hx
        exact ⟨(hz3 _ (List.getElem_mem hj)).1, hz2 j hj (by omega)⟩
      have HZ2 := Lib.hid (And.intro hz2' (And.intro hzo (And.intro hrr (And.intro hor hsr))))
      have hgr : g < wr.heap.size := hrr.lt
      clear hzl hz3 hz2 hz2' hzo hrr hor hsr HZ HI HR2 HO2
      go_upto_region 7 with (fail)
      obtain ⟨wl, rfl⟩ : ∃ wl, wl = wr := ⟨_, rfl⟩
      go_cut [38] (fun s38 wx => CapF wc wx g bs (q + 1) wc.heap.size w2.heap.size A4 c4 zs s38)
      case first =>
        go_wp2_with (fail)
        refine (pick_any g bs q 5 _ HZ2.out.2.2.1 (by omega) (by omega)).mono ?_
        rintro e w4 ⟨⟨x, rfl, _⟩, hp4⟩
        have H4 := Lib.hid (show OwnInts w4 wc.heap.size w2.heap.size (.slice A4 zs.length c4) zs ∧ w2.heap.size ≤ w4.heap.size ∧ Rdr w4 g bs (q + 1) ∧ Only g (g + 1) wc w4 from ⟨by rw [HZL.out]; exact HZ2.out.2.1.only hp4.2 (.inr hgc), by have := hp4.2.size; have := HZ2.out.2.2.2.2; omega, hp4.1, HZ2.out.2.2.2.1.trans hp4.2⟩)
        clear hp4
        by_cases hx : 0 < x
        · have hxb : decide (0 < x) = true := by simpa using hx
          have hlb : decide (2 < (ar.length : Int)) = true := by rw [decide_eq_true_eq]; omega
          go_wp2_with (fail)
          go_meet
          exact ⟨true, rfl, H4.out⟩
        · have hxb : decide (0 < x) = false := by simpa using hx
          go_wp2_with (fail)
          go_meet
          exact ⟨false, rfl, H4.out⟩
      case rest =>
      obtain ⟨fl, rfl, hcf⟩ := hcut
      rename World => w4
      have H4 := Lib.hid hcf
      clear hcf
      go_upto_if 38 with (fail)
      go_cut [9] (fun s9 wx => CapAt wc wx g bs (q + 1) wc.heap.size w2.heap.size s9)
      case first =>
        cases fl
        · go_wp2_with (fail)
          go_meet
          exact ⟨A4, c4, zs, by rw [HZL.out], by rw [HZL.out]; exact hal5, HZ2.out.1, H4.out⟩
        · have HFR := Lib.hid (H4.out.1.front (n := 2) (by rw [HZL.out]; omega) (by rw [HZL.out]; omega))
          obtain ⟨g4, hg4⟩ : ∃ g4, A4 = some ⟨g4, 0, none⟩ := by
            obtain ⟨g2, cap, e, _⟩ := H4.out.1.1.form (by rw [HZL.out]; omega)
            injection e with e1 _ _
            exact ⟨g2, e1⟩
          subst hg4
          have hc4 : ar.length ≤ c4 := by rw [← HZL.out]; exact H4.out.1.capLe
          go_wp2_with (fail)
          go_meet
          exact ⟨some ⟨g4, 0, none⟩, c4, zs.take 2, by simp [HZL.out]; omega, by simp; omega, fun x hx => HZ2.out.1 x (List.mem_of_mem_take hx), by
            have e : (zs.take 2).length = 2 := by simp [HZL.out]; omega
            rw [e]
            exact HFR.out, H4.out.2⟩
      case rest =>
      obtain ⟨A9, c9, zs9, rfl, hz9, hz9r, ho9, hh9, hr9, hO9⟩ := hcut
      rename World => w5
      have HZ9 := Lib.hid hz9r
      have H5 := Lib.hid (And.intro ho9 (And.intro hh9 (And.intro hr9 hO9)))
      clear ho9 hh9 hr9 hO9 hz9r H4
      obtain ⟨wy, hwy⟩ : ∃ wy, wy = w5.drew := ⟨_, rfl⟩
      have Hy := Lib.hid (show OwnInts wy wc.heap.size w2.heap.size (.slice A9 zs9.length c9) zs9 ∧ w2.heap.size ≤ wy.heap.size ∧ Rdr wy g bs (q + 1) ∧ Only g (g + 1) wc wy by rw [hwy]; exact ⟨H5.out.1.below (Below.refl _ _).drew H5.out.2.1, H5.out.2.1, H5.out.2.2.1.below (Below.refl _ _).drew H5.out.2.2.1.lt, H5.out.2.2.2.trans (Only.of_below (Below.refl _ _).drew)⟩)
      have HPy := Lib.hid (H1.out.go hgl Hy.out.2.2.1 Hy.out.2.2.2)
      obtain ⟨SS, hSS⟩ : ∃ SS : World → Prop, SS = (fun W => W.cell? ⟨D, 0, none⟩ = some (.slice A ar.length c) ∧ W.cell? ⟨D, 1, none⟩ = some (.slice Ar es.length cr)) := ⟨_, rfl⟩
      have HB := Lib.hid (show ∀ W, SS W → W.cell? ⟨D, 0, none⟩ = some (.slice A ar.length c) ∧ W.cell? ⟨D, 1, none⟩ = some (.slice Ar es.length cr) from by rw [hSS]; exact fun W hW => hW)
      have HC := Lib.hid (show ∀ W, W.cell? ⟨D, 0, none⟩ = some (.slice A ar.length c) → W.cell? ⟨D, 1, none⟩ = some (.slice Ar es.length cr) → SS W from by rw [hSS]; exact fun W h1 h2 => ⟨h1, h2⟩)
      clear hSS
      have SB := HC.out _ (HPy.out.prg.cell 0) (HPy.out.prg.cell 1)
      go_upto_region 9 with (fail)
      refine wp_region_rel SS 5 7 (by kernel_rfl) rfl ?_
      rw [← hwy]
      clear hwy
      refine wpAnyR_pure (i := 1) (oi := _) ?vk1 rfl rfl (by kernel_rfl) (by decide) (fun _ _ _ h => h) rfl ?hyk1 (fun _ => SB) ?restk1
      case hyk1 => (intro W; go_simp; (try with_reducible rfl))
      try simp only [List.setIfInBounds_toArray, List.set_cons_zero, List.set_cons_succ]
      refine wpAnyR_pure (i := 2) (oi := _) ?vk2 rfl rfl (by kernel_rfl) (by decide) (fun _ _ _ h => h) rfl ?hyk2 (fun _ => SB) ?restk2
      case hyk2 => (intro W; go_simp; (try with_reducible rfl))
      try simp only [List.setIfInBounds_toArray, List.set_cons_zero, List.set_cons_succ]
      refine wpAnyR_pure (i := 3) (oi := _) ?vk3 rfl rfl (by kernel_rfl) (by decide) (fun _ _ _ h => h) rfl ?hyk3 (fun _ => SB) ?restk3
      case hyk3 => (intro W; go_simp; (try with_reducible rfl))
      try simp only [List.setIfInBounds_toArray, List.set_cons_zero, List.set_cons_succ]
      refine wpAnyR_take (i := 0) (oi := _) ?vk0 rfl rfl (by kernel_rfl) (fun _ _ _ h => h) rfl ?hyk0 SB ?restk0
      case hyk0 => (intro W hW; obtain ⟨E0, E1⟩ := HB.out W hW; go_simp; (try with_reducible rfl))
      try simp only [List.setIfInBounds_toArray, List.set_cons_zero, List.set_cons_succ]
      refine wpAnyR_one (i := 4) (by kernel_rfl) rfl (fun K hK => ?_)
      try rw [if_pos (show Region.wanted _ _ = true from rfl)]
      go_simp
      refine (l1Some_any g bs (q + 1) most wc.heap.size w2.heap.size (.slice A9 zs9.length c9) zs9 wy Hy.out.2.2.1 (by omega) Hy.out.1 hgc Hy.out.2.1 HZ9.out (by omega) hm).mono ?_
      rintro e wn ⟨Af, cf, fs, qn, rfl, hfl, hft, hqn, ofs, hrn, hon⟩
      have HN := Lib.hid (And.intro ofs (And.intro hrn (Hy.out.2.2.2.trans hon)))
      have hsn := hon.size
      have H4n := Lib.hid (H1.out.go hgl hrn (Hy.out.2.2.2.trans hon))
      have j0 : wn.cell? ⟨w.heap.size, 0, none⟩ = some (.slice none 0 0) := H4n.out.res.cell 0
      have j1 : wn.cell? ⟨w.heap.size, 1, none⟩ = some (.slice none 0 0) := H4n.out.res.cell 1
      have l0 := H4n.out.res.frozen 0
      have l1 := H4n.out.res.frozen 1
      have SN := HC.out _ (H4n.out.prg.cell 0) (H4n.out.prg.cell 1)
      clear ofs hrn hon
      refine hK.out _ _ (fun _ => SN) ?_
      clear hK K
      try simp only [List.setIfInBounds_toArray, List.set_cons_zero, List.set_cons_succ, Act.put]
      refine wpAnyR_one (i := 5) (by kernel_rfl) rfl (fun K hK => ?_)
      try rw [if_pos (show Region.wanted _ _ = true from rfl)]
      go_simp
      refine hK.out _ _ (fun hf => absurd hf (by decide)) ?_
      clear hK K
      try simp only [List.setIfInBounds_toArray, List.set_cons_zero, List.set_cons_succ, Act.put]
      refine wpAnyR_one (i := 6) (by kernel_rfl) rfl (fun K hK => ?_)
      go_simp
      refine hK.out _ _ (fun hf => absurd hf (by decide)) ?_
      clear hK K
      refine wpAnyR_done (by kernel_rfl) ?_
      go_wp2_with (fail)
      obtain ⟨W, hW⟩ : ∃ W, W = (wn.setCell ⟨w.heap.size, 0, none⟩ (.slice A ar.length c)).setCell ⟨w.heap.size, 1, none⟩ (.slice Ar es.length cr) := ⟨_, rfl⟩
      rw [← hW]
      have hbk := (H4n.out.res.set_ 0 (.slice A ar.length c)).set_ 1 (.slice Ar es.length cr)
      rw [← hW] at hbk
      have d0 : W.cell? ⟨w.heap.size, 0, none⟩ = some (.slice A ar.length c) := by rw [hbk.cell 0]; simp
      have d1 : W.cell? ⟨w.heap.size, 1, none⟩ = some (.slice Ar es.length cr) := by rw [hbk.cell 1]; simp
      have hB := H4n.out.low
      have hH := H4n.out.high
      have hyB := HPy.out.prg.lt
      have hDn := H4n.out.prg.lt
      have hk : ∀ k, k ≠ w.heap.size → W.heap[k]? = wn.heap[k]? := fun k hk => by
        rw [hW]
        exact (Below.heap_setCell _ _ _ k hk).trans (Below.heap_setCell _ _ _ k hk)
      have hsz : W.heap.size = wn.heap.size := by rw [hW]; simp
      have hO := H4n.out.only
      refine bodyPost_ret (v := .tuple #[.agg #[.slice A ar.length c, .slice Ar es.length cr], .slice Af fs.length cf]) (by simp [results, Try.results13, go_sem, d0, d1]) rfl ?_
      refine ⟨A, Ar, Af, c, cr, cf, B, qn, ar, es, fs, rfl, HOK.out, hfl, hft, by omega, by omega, by omega, (H4n.out.own.keep fun k k1 k2 => hk k (by omega)).mono (by omega) (Nat.le_refl _), H4n.out.rules.keep (by rw [hsz]; exact Nat.le_refl _) (fun k k1 _ => hk k (by omega)), ?_, H4n.out.rdr.same fun k hk' => hk k (by omega), ⟨?_, ?_, ?_, by rw [hsz]; exact hO.size, fun k hk' hn => (hk k (by omega)).trans (hO.block k hk' hn)⟩⟩
      · rw [hsz]
        have ho2 : Only w.heap.size (w.heap.size + 1) wn W := by
          rw [hW]
          exact ((Only.refl w.heap.size (w.heap.size + 1) wn).setCell (p := ⟨w.heap.size, 0, none⟩) ⟨Nat.le_refl _, Nat.lt_succ_self _⟩ _).setCell (p := ⟨w.heap.size, 1, none⟩) ⟨Nat.le_refl _, Nat.lt_succ_self _⟩ _
        exact (HN.out.1.only ho2 (.inr (by omega))).mono (by omega) (Nat.le_refl _)
      · rw [hW]; exact hO.os
      · rw [hW]; exact hO.tape
      · rw [hW]; exact hO.output

end Go.Proofs.Ytofkcmihcgmmpaa
/-
  Rows of slices of integers: one that is read, one of the call's own; the relation of a loop that collects them.
-/
namespace Go.Proofs.Ytofkcmihcgmmpaa
open Go.RowKit

theorem Try.infoIntS : (Try.prog.info? 24).map (fun i => (i.zero, i.size, i.bytes)) = some (some (.slice none 0 0), 1, 24) := by kernel_rfl

/-- A row of slices of integers that is read. -/
def RdRows (w : World) (B : Nat) (v : Value) (xss : List (List Int)) : Prop :=
  ∃ A c, v = .slice A xss.length c ∧ xss.length ≤ c ∧ (0 < xss.length → ∃ b o, A = some ⟨b, o, none⟩ ∧ b < B ∧ ∀ k (h : k < xss.length), ∃ u, w.cell? ⟨b, o + k, none⟩ = some u ∧ RdInts w B u xss[k])
/-- A row of slices of integers in blocks from lo on and below hi; weak: two of them may share a block. -/
def WkRows (w : World) (lo hi : Nat) (v : Value) (xss : List (List Int)) : Prop :=
  ∃ av : List Value, (av.length = xss.length ∧ ∀ i (h : i < xss.length) (h' : i < av.length), OwnInts w lo hi av[i] xss[i]) ∧ w.ownsRow lo 24 1 v xss.length av ∧ ∀ g, v.ownBlock = some g → g < hi
/-- And no two share one. -/
def OwnRows (w : World) (lo hi : Nat) (v : Value) (xss : List (List Int)) : Prop :=
  ∃ av, OwnArgs w lo hi av xss ∧ w.ownsRow lo 24 1 v xss.length av ∧ ∀ g, v.ownBlock = some g → g < hi

section
variable {w w' : World} {lo hi lo' hi' B B' : Nat} {v : Value} {xss : List (List Int)}
theorem RdRows.below (h : RdRows w B v xss) (hb : Below B' w w') (hB : B ≤ B') : RdRows w' B v xss := by
  obtain ⟨A, c, rfl, hc, h⟩ := h
  refine ⟨A, c, rfl, hc, fun hn => ?_⟩
  obtain ⟨b, o, rfl, hlt, hk⟩ := h hn
  refine ⟨b, o, rfl, hlt, fun k hkl => ?_⟩
  obtain ⟨u, h1, h2⟩ := hk k hkl
  exact ⟨u, (hb.cell (p := ⟨b, o + k, none⟩) (by show b < B'; omega)).trans h1, h2.below hb hB⟩
theorem RdRows.more (h : RdRows w B v xss) (hB : B ≤ B') : RdRows w B' v xss := by
  obtain ⟨A, c, rfl, hc, h⟩ := h
  refine ⟨A, c, rfl, hc, fun hn => ?_⟩
  obtain ⟨b, o, rfl, hlt, hk⟩ := h hn
  refine ⟨b, o, rfl, by omega, fun k hkl => ?_⟩
  obtain ⟨u, h1, h2⟩ := hk k hkl
  exact ⟨u, h1, h2.more hB⟩
theorem RdRows.on (h : RdRows w w.heap.size v xss) (hb : Below w.heap.size w w') : RdRows w' w'.heap.size v xss := (h.below hb (Nat.le_refl _)).more hb.size
theorem RdRows.get {A : Option Addr} {c : Nat} (h : RdRows w B (.slice A xss.length c) xss) {k : Nat} (hk : k < xss.length) :
    ∃ b o A2 c2, A = some ⟨b, o, none⟩ ∧ b < B ∧ w.cell? ⟨b, o + k, none⟩ = some (.slice A2 xss[k].length c2) ∧ RdInts w B (.slice A2 xss[k].length c2) xss[k] := by
  obtain ⟨A', c', e, _, h⟩ := h
  injection e with e1 _ _
  subst e1
  obtain ⟨b, o, rfl, hb, hx⟩ := h (by omega)
  obtain ⟨u, h1, h2⟩ := hx k hk
  have h3 := h2
  obtain ⟨A2, c2, rfl, _⟩ := h2
  exact ⟨b, o, A2, c2, rfl, hb, h1, h3⟩
theorem OwnRows.weak (h : OwnRows w lo hi v xss) : WkRows w lo hi v xss := by
  obtain ⟨av, h1, h2, h3⟩ := h
  exact ⟨av, ⟨h1.len, h1.own⟩, h2, h3⟩
theorem WkRows.form (h : WkRows w lo hi v xss) : ∃ A c, v = .slice A xss.length c := by
  obtain ⟨_, _, h, _⟩ := h
  rcases h.2 with ⟨rfl, h0⟩ | ⟨g, cap, _, rfl, _⟩
  · exact ⟨none, 0, by rw [h0]⟩
  · exact ⟨_, _, rfl⟩
theorem WkRows.below (h : WkRows w lo hi v xss) (hb : Below B w w') (hB : hi ≤ B) : WkRows w' lo hi v xss := by
  obtain ⟨av, ⟨h0, h1⟩, h2, h3⟩ := h
  exact ⟨av, ⟨h0, fun i a b => (h1 i a b).below hb hB⟩, ownsRow_below h2 h3 hb hB, h3⟩
theorem WkRows.mono (h : WkRows w lo hi v xss) (h1 : lo' ≤ lo) (h2 : hi ≤ hi') : WkRows w lo' hi' v xss := by
  obtain ⟨av, ⟨h0, ha⟩, hr, hlt⟩ := h
  exact ⟨av, ⟨h0, fun i a b => (ha i a b).mono h1 h2⟩, ownsRow_mono hr h1, fun g hg => by have := hlt g hg; omega⟩
theorem WkRows.only (h : WkRows w lo hi v xss) (ho : Only lo' hi' w w') (hd : hi ≤ lo' ∨ hi' ≤ lo) : WkRows w' lo hi v xss := by
  obtain ⟨av, ⟨h0, ha⟩, hr, hlt⟩ := h
  exact ⟨av, ⟨h0, fun i a b => (ha i a b).only ho hd⟩, ownsRow_only hr fun g hg => ho.block g (hr.lt g hg).2 (by have := hr.lt g hg; have := hlt g hg; omega), hlt⟩
theorem WkRows.rd (h : WkRows w lo hi v xss) : RdRows w hi v xss := by
  obtain ⟨av, ⟨h0, ha⟩, hr, hlt⟩ := h
  have hcells := @World.ownsRow.cells w lo 24 1 v xss.length av hr
  obtain ⟨hlen, hr⟩ := hr
  rcases hr with ⟨rfl, e0⟩ | ⟨g, cap, cur, rfl, hb, hg, hn, hm, hs, ht⟩
  · have : xss = [] := List.eq_nil_of_length_eq_zero e0
    subst this
    exact ⟨none, 0, rfl, by simp, fun h => absurd h (by simp)⟩
  · refine ⟨_, cap, rfl, hn, fun _ => ⟨g, 0, rfl, hlt g rfl, fun k hk => ⟨av[k]'(by omega), ?_, (ha k hk (by omega)).rd⟩⟩⟩
    have := hcells (g := g) rfl k (av[k]'(by omega)) (by simp [show k < av.length by omega])
    rwa [Go.WideShapes.add_plain] at this
theorem OwnRows.below (h : OwnRows w lo hi v xss) (hb : Below B w w') (hB : hi ≤ B) : OwnRows w' lo hi v xss := by
  obtain ⟨av, h1, h2, h3⟩ := h
  exact ⟨av, h1.below hb hB, ownsRow_below h2 h3 hb hB, h3⟩
theorem OwnRows.mono (h : OwnRows w lo hi v xss) (h1 : lo' ≤ lo) (h2 : hi ≤ hi') : OwnRows w lo' hi' v xss := by
  obtain ⟨av, ha, hr, hlt⟩ := h
  exact ⟨av, ha.mono h1 h2, ownsRow_mono hr h1, fun g hg => by have := hlt g hg; omega⟩
theorem OwnRows.only (h : OwnRows w lo hi v xss) (ho : Only lo' hi' w w') (hd : hi ≤ lo' ∨ hi' ≤ lo) : OwnRows w' lo hi v xss := by
  obtain ⟨av, ha, hr, hlt⟩ := h
  exact ⟨av, ⟨ha.len, fun i a b => (ha.own i a b).only ho hd, ha.apart⟩, ownsRow_only hr fun g hg => ho.block g (hr.lt g hg).2 (by have := hr.lt g hg; have := hlt g hg; omega), hlt⟩
theorem OwnRows.rd (h : OwnRows w lo hi v xss) : RdRows w hi v xss := h.weak.rd
theorem OwnRows.form (h : OwnRows w lo hi v xss) : ∃ A c, v = .slice A xss.length c := h.weak.form
end

/-- The block of a row of integers is no block of a row of slices. -/
theorem rowsI_ne {w : World} {lo hi lo' g : Nat} {n : Nat} {v a : Value} {zs : List Value} {xs : List Int} (hr : w.ownsRow lo' 24 1 v n zs) (hv : v.ownBlock = some g) (ha : OwnInts w lo hi a xs) : a.ownBlock ≠ some g := by
  rcases hr.2 with ⟨rfl, _⟩ | ⟨g1, c1, cur1, rfl, _, h1, _⟩
  · cases hv
  · have e : g1 = g := by simpa [Value.ownBlock] using hv
    subst e
    exact blk_ne_row ha.1 (show Blk w g1 24 cur1 from h1) (by decide)

theorem WkRows.get {w : World} {lo hi c : Nat} {A : Option Addr} {xss : List (List Int)} (h : WkRows w lo hi (.slice A xss.length c) xss) {k : Nat} (hk : k < xss.length) :
    ∃ g A2 c2, A = some ⟨g, 0, none⟩ ∧ g < w.heap.size ∧ w.cell? ⟨g, k, none⟩ = some (.slice A2 xss[k].length c2) ∧ OwnInts w lo hi (.slice A2 xss[k].length c2) xss[k] := by
  obtain ⟨av, ⟨h0, ha⟩, hr, hlt⟩ := h
  have hcells := @World.ownsRow.cells w lo 24 1 _ xss.length av hr
  obtain ⟨hlen, hr2⟩ := hr
  rcases hr2 with ⟨e, e0⟩ | ⟨g, cap, cur, e, hb, hg, _⟩
  · omega
  · injection e with e1 _ _
    subst e1
    have h1 := ha k hk (by omega)
    obtain ⟨A2, c2, e2⟩ := h1.form
    have := hcells (g := g) rfl k (av[k]'(by omega)) (by simp [show k < av.length by omega])
    rw [Go.WideShapes.add_plain, Nat.zero_add, e2] at this
    exact ⟨g, A2, c2, rfl, Blk.lt hg, this, e2 ▸ h1⟩

/-- The relation of a loop that collects slices of integers: these lie from lo on, the row is new. -/
structure ColS (lo : Nat) (w wr : World) (xss : List (List Int)) (A : Option Addr) (c : Nat) (av : List Value) : Prop where
  below : Below w.heap.size w wr
  len : av.length = xss.length
  inn : ∀ i (h : i < xss.length) (h' : i < av.length), OwnInts wr lo wr.heap.size av[i] xss[i]
  row : wr.ownsRow w.heap.size 24 1 (.slice A xss.length c) xss.length av
theorem ColS.empty {lo : Nat} {w wr : World} (hb : Below w.heap.size w wr) : ColS lo w (wr.alloc (.cells #[] 24)) [] (some ⟨wr.heap.size, 0, none⟩) 0 [] :=
  ⟨hb.alloc hb.size _, rfl, fun i h => absurd h (by simp), World.ownsRow_made wr #[] 0 hb.size (by decide) rfl⟩
theorem ColS.on {lo : Nat} {w wr w2 : World} {xss : List (List Int)} {A : Option Addr} {c : Nat} {av : List Value} (h : ColS lo w wr xss A c av) (hb : Below wr.heap.size wr w2) : ColS lo w w2 xss A c av :=
  ⟨bthen h.below hb, h.len, fun i a b => ((h.inn i a b).below hb (Nat.le_refl _)).mono (Nat.le_refl _) hb.size, ownsRow_below h.row (fun g hg => (h.row.lt g hg).2) hb (Nat.le_refl _)⟩
theorem ColS.rows {lo : Nat} {w wr : World} {xss : List (List Int)} {A : Option Addr} {c : Nat} {av : List Value} (h : ColS lo w wr xss A c av) (hl : lo ≤ w.heap.size) : WkRows wr lo wr.heap.size (.slice A xss.length c) xss :=
  ⟨av, ⟨h.len, h.inn⟩, ownsRow_mono h.row hl, fun g hg => (h.row.lt g hg).2⟩
theorem ColS.push {lo : Nat} {w wr w2 w4 : World} {xss xss' : List (List Int)} {A : Option Addr} {c g cap : Nat} {xs : List Int} {u : Value} {o : Obj} {av : List Value} (h : ColS lo w wr xss A c av) (e : xss' = xss ++ [xs]) (hb : Below wr.heap.size wr w2) (hu : OwnInts w2 lo w2.heap.size u xs)
    (hg : (w2.alloc o).grownBy w4 (Value.slice A xss.length c).ownBlock) (hown : w4.ownsRow w.heap.size 24 1 (.slice (some ⟨g, 0, none⟩) (xss.length + 1) cap) (xss.length + 1) (av ++ [u])) :
    ColS lo w w4 xss' (some ⟨g, 0, none⟩) cap (av ++ [u]) ∧ xss.length + 1 = xss'.length := by
  subst e
  have h2 := h.on hb
  have hg' := grown_from_alloc hg
  have hl : (xss ++ [xs]).length = xss.length + 1 := by simp
  refine ⟨⟨(h2.below.alloc h2.below.size _).grown hg (by have := h2.below.size; simp; omega) (fun k hk => (h2.row.lt k hk).1), by simp [h.len], fun i h1 h3 => ?_, by rw [hl]; exact hown⟩, hl.symm⟩
  have keep : ∀ {a : Value} {ys : List Int}, OwnInts w2 lo w2.heap.size a ys → OwnInts w4 lo w4.heap.size a ys := fun {a ys} h0 =>
    (h0.kept fun b hbk => hg'.block b (h0.lt hbk).2.2 (fun e => rowsI_ne h2.row e.symm h0 hbk)).mono (Nat.le_refl _) hg'.size
  by_cases e : i < xss.length
  · rw [List.getElem_append_left (by rw [h.len]; exact e), List.getElem_append_left e]
    exact keep (h2.inn i e (by rw [h.len]; exact e))
  · have e2 : i = xss.length := by simp at h1; omega
    subst e2
    have := h.len
    simp [← this]
    exact keep hu

end Go.Proofs.Ytofkcmihcgmmpaa
/-
  The program's HeadOf.
-/
namespace Go.Proofs.Ytofkcmihcgmmpaa
open Go.RowKit

theorem areConstants_is {xs : List Int} {b : Bool} (e : xs.all constOk = b) (v : Value) (B : Nat) (w : World) (h : RdInts w B v xs) (hr : xs.length ≤ 1048576) :
    Calls Try.prog 24 #[v] w fun e w' => e = .returned (.bool b) ∧ w = w' := e ▸ areConstants_any v xs B w h hr

set_option maxHeartbeats 2000000 in
set_option maxRecDepth 100000 in
theorem implHeadOf_any (v v2 : Value) (a : LFact) (bs : List Int) (w : World) (h : RdFact w w.heap.size v a) (h2 : RdInts w w.heap.size v2 bs) (hr : a.2.length ≤ 1048576) (hr2 : bs.length ≤ 1048576) :
    Calls Try.prog 7 #[v, v2] w fun e w' => ∃ A' c', e = .returned (.tuple #[.agg #[.int .i64 (headOf a bs).1, .slice A' (headOf a bs).2.length c'], .bool (headOk a bs)]) ∧ OwnInts w' w.heap.size w'.heap.size (.slice A' (headOf a bs).2.length c') (headOf a bs).2 ∧ Below w.heap.size w w' := by
  obtain ⟨u, rfl, h⟩ := h
  have H := Lib.hid h
  have H2 := Lib.hid h2
  obtain ⟨A, c, rfl, hc, _⟩ := h
  obtain ⟨A2, c2, rfl, hc2, _⟩ := h2
  obtain ⟨F, hF⟩ : ∃ F, F = headOf a bs := ⟨_, rfl⟩
  obtain ⟨ok, hok⟩ : ∃ ok, ok = headOk a bs := ⟨_, rfl⟩
  rw [← hF, ← hok]
  have HF := Lib.hid hF
  have HK := Lib.hid hok
  clear hF hok
  have x0 := (Blk.new w 26 #[.int .i64 a.1, .slice A a.2.length c]).alloc (Obj.cells #[.int .i64 0, .slice none 0 0] 34)
  have x1 : Blk ((w.alloc (Obj.cells #[.int .i64 a.1, .slice A a.2.length c] 26)).alloc (Obj.cells #[.int .i64 0, .slice none 0 0] 34)) (w.heap.size + 1) 34 #[.int .i64 0, .slice none 0 0] := by simpa using Blk.new (w.alloc (Obj.cells #[.int .i64 a.1, .slice A a.2.length c] 26)) 34 #[.int .i64 0, .slice none 0 0]
  obtain ⟨w2, hw2⟩ : ∃ w2, w2 = ((w.alloc (Obj.cells #[Value.int IntKind.i64 a.1, Value.slice A a.2.length c] 26)).alloc (Obj.cells #[Value.int IntKind.i64 0, Value.slice none 0 0] 34)) := ⟨_, rfl⟩
  have B2 : Below w.heap.size w w2 := by rw [hw2]; exact below2 _ _ _
  have HW := Lib.hid hw2
  rw [← hw2] at x0 x1
  have q00 : w2.cell? ⟨w.heap.size, 0, none⟩ = some (.int .i64 a.1) := x0.cell 0
  have q01 : w2.cell? ⟨w.heap.size, 1, none⟩ = some (.slice A a.2.length c) := x0.cell 1
  have c10 : w2.cell? ⟨w.heap.size + 1, 0, none⟩ = some (.int .i64 0) := x1.cell 0
  have c11 : w2.cell? ⟨w.heap.size + 1, 1, none⟩ = some (.slice none 0 0) := x1.cell 1
  have f10 := x1.frozen 0
  have f11 := x1.frozen 1
  clear hw2
  by_cases hb : bindOk bs = true
  · have L1 := Lib.hid (bindingOf_yes hb (.slice A2 bs.length c2) w2.heap.size w2 (H2.out.on B2))
    by_cases ht : a.2.all termOk = true
    · have L2 := Lib.hid (areTerms_is ht (.slice A a.2.length c) w2.heap.size w2 (H.out.on B2) hr)
      have L3 := Lib.hid (values_any (.slice A a.2.length c) bs a.2 hb ht w2 (H.out.on B2) hr)
      obtain ⟨ys, hys⟩ : ∃ ys, ys = a.2.map (termVal bs) := ⟨_, rfl⟩
      have HYL := Lib.hid (show ys.length = a.2.length by rw [hys]; simp)
      rw [← hys] at L3
      have HY := Lib.hid (And.intro hys (And.intro hb ht))
      clear hys hb ht
      generalize encB bs = m at L1 L3
      go_enter Try.func7, Try.ntmps7
      go_wp2_with (fail)
      rw [← HW.out]
      refine L1.out.mono ?_
      rintro e w' ⟨rfl, rfl⟩
      go_wp2_with (fail)
      refine L2.out.mono ?_
      rintro e w' ⟨rfl, rfl⟩
      go_wp2_with (fail)
      refine L3.out.mono ?_
      rintro e w3 ⟨A', c', rfl, ho, hb3⟩
      rw [← HYL.out] at ho ⊢
      have ho' := ho
      have x0' := x0.below hb3 x0.lt
      have x1' := x1.below hb3 x1.lt
      have l1 := x1.lt
      have B3 := bthen B2 hb3
      clear q00 q01 c10 c11 f10 f11 x0 x1
      have q00 : w3.cell? ⟨w.heap.size, 0, none⟩ = some (.int .i64 a.1) := x0'.cell 0
      have q01 : w3.cell? ⟨w.heap.size, 1, none⟩ = some (.slice A a.2.length c) := x0'.cell 1
      have c10 : w3.cell? ⟨w.heap.size + 1, 0, none⟩ = some (.int .i64 0) := x1'.cell 0
      have c11 : w3.cell? ⟨w.heap.size + 1, 1, none⟩ = some (.slice none 0 0) := x1'.cell 1
      have f10 := x1'.frozen 0
      have f11 := x1'.frozen 1
      have HO := Lib.hid ho
      have hyr : ys.length ≤ 1048576 := by rw [HYL.out]; exact hr
      clear ho ho' x0' x1'
      by_cases hcst : ys.all constOk = true
      · have HN := Lib.hid (show ok = true ∧ F = (a.1, ys) by
          obtain ⟨e1, e2, e3⟩ := HY.out
          have hyes : headOk a bs = true := headOk_yes e2 e3 (by rw [← e1]; exact hcst)
          exact ⟨by rw [HK.out, hyes], by rw [HF.out, headOf_yes hyes, e1]⟩)
        have L4 := Lib.hid (areConstants_is hcst (.slice A' ys.length c') w3.heap.size w3 HO.out.rd hyr)
        clear hcst
        go_wp2_with (go_at_call 24; refine L4.out.mono ?_; rintro e w' ⟨rfl, rfl⟩)
        refine bodyPost_ret (v := .tuple #[.agg #[.int .i64 a.1, .slice A' ys.length c'], .bool true]) (by simp [results, Try.results7, go_sem, c10, c11]) rfl ?_
        rw [HN.out.1, HN.out.2]
        refine ⟨A', c', rfl, ?_, (B3.setCell (by simp) _).setCell (by simp) _⟩
        exact ((HO.out.set (p := ⟨w.heap.size + 1, 0, none⟩) (.inl (by show w.heap.size + 1 < w2.heap.size; omega)) _).set (p := ⟨w.heap.size + 1, 1, none⟩) (.inl (by show w.heap.size + 1 < w2.heap.size; omega)) _).mono (by omega) (by simp)
      · have hcst' : ys.all constOk = false := by simpa using hcst
        have HN := Lib.hid (show ok = false ∧ F = (0, []) by
          obtain ⟨e1, e2, e3⟩ := HY.out
          have hno : headOk a bs = false := headOk_vals (by rw [← e1]; exact hcst')
          exact ⟨by rw [HK.out, hno], by rw [HF.out, headOf_no hno]⟩)
        have L4 := Lib.hid (areConstants_is hcst' (.slice A' ys.length c') w3.heap.size w3 HO.out.rd hyr)
        clear hcst hcst'
        go_wp2_with (go_at_call 24; refine L4.out.mono ?_; rintro e w' ⟨rfl, rfl⟩)
        refine bodyPost_ret (v := .tuple #[.agg #[.int .i64 0, .slice none 0 0], .bool false]) (by simp [results, Try.results7, go_sem, c10, c11]) rfl ?_
        rw [HN.out.1, HN.out.2]
        exact ⟨none, 0, rfl, zeroI _ _ _, (B3.setCell (by simp) _).setCell (by simp) _⟩
    · have ht' : a.2.all termOk = false := by simpa using ht
      have L2 := Lib.hid (areTerms_is ht' (.slice A a.2.length c) w2.heap.size w2 (H.out.on B2) hr)
      have HN := Lib.hid (show ok = false ∧ F = (0, []) from ⟨by rw [HK.out, headOk_terms ht'], by rw [HF.out, headOf_no (headOk_terms ht')]⟩)
      clear hb ht ht'
      generalize encB bs = m at L1
      go_enter Try.func7, Try.ntmps7
      go_wp2_with (fail)
      rw [← HW.out]
      refine L1.out.mono ?_
      rintro e w' ⟨rfl, rfl⟩
      go_wp2_with (fail)
      refine L2.out.mono ?_
      rintro e w' ⟨rfl, rfl⟩
      go_wp2_with (fail)
      refine bodyPost_ret (v := .tuple #[.agg #[.int .i64 0, .slice none 0 0], .bool false]) (by simp [results, Try.results7, go_sem, c10, c11]) rfl ?_
      rw [HN.out.1, HN.out.2]
      exact ⟨none, 0, rfl, zeroI _ _ _, (B2.setCell (by simp) _).setCell (by simp) _⟩
  · have hb' : bindOk bs = false := by simpa using hb
    have L1 := Lib.hid (bindingOf_no hb' (.slice A2 bs.length c2) w2.heap.size w2 (H2.out.on B2) hr2)
    have HN := Lib.hid (show ok = false ∧ F = (0, []) from ⟨by rw [HK.out, headOk_bind hb'], by rw [HF.out, headOf_no (headOk_bind hb')]⟩)
    clear hb hb'
    go_enter Try.func7, Try.ntmps7
    go_wp2_with (fail)
    rw [← HW.out]
    refine L1.out.mono ?_
    rintro e w' ⟨rfl, rfl⟩
    go_wp2_with (fail)
    refine bodyPost_ret (v := .tuple #[.agg #[.int .i64 0, .slice none 0 0], .bool false]) (by simp [results, Try.results7, go_sem, c10, c11]) rfl ?_
    rw [HN.out.1, HN.out.2]
    exact ⟨none, 0, rfl, zeroI _ _ _, (B2.setCell (by simp) _).setCell (by simp) _⟩

end Go.Proofs.Ytofkcmihcgmmpaa
/-
  Both Holds.
-/
namespace Go.Proofs.Ytofkcmihcgmmpaa
open Go.RowKit

/-- LitSame, LitLess: both have constants, and are the same, or the first is less. -/
def cmpB (k a b : Int) : Bool := (decide (0 ≤ a) && decide (0 ≤ b)) && (if k = 2 then decide (a = b) else decide (a < b))
def litHolds (fs : List LFact) (l : LLit) (bs : List Int) : Bool :=
  if l.1 = 2 ∨ l.1 = 3 then decide (l.2.2.length = 2) && cmpB l.1 (termVal bs (l.2.2.getD 0 0)) (termVal bs (l.2.2.getD 1 0))
  else (headOk l.2 bs && decide (0 ≤ l.1 ∧ l.1 ≤ 1)) && (factsHas fs (headOf l.2 bs) == decide (l.1 = 0))
def holdsB (fs : List LFact) (l : LLit) (bs : List Int) : Bool := (bindOk bs && l.2.2.all termOk) && litHolds fs l bs

theorem cmpB_neg {k a b : Int} (h : a < 0) : cmpB k a b = false := by unfold cmpB; rw [decide_eq_false (show ¬ 0 ≤ a by omega)]; rfl
theorem cmpB_neg2 {k a b : Int} (h : b < 0) : cmpB k a b = false := by unfold cmpB; rw [decide_eq_false (show ¬ 0 ≤ b by omega), Bool.and_false]; rfl
theorem cmpB_same {a b : Int} (h : 0 ≤ a) (h2 : 0 ≤ b) : cmpB 2 a b = decide (a = b) := by unfold cmpB; rw [decide_eq_true h, decide_eq_true h2]; simp
theorem cmpB_less {a b : Int} (h : 0 ≤ a) (h2 : 0 ≤ b) : cmpB 3 a b = decide (a < b) := by unfold cmpB; rw [decide_eq_true h, decide_eq_true h2]; simp

theorem comparison_any (k a b : Int) (hk : k = 2 ∨ k = 3) (w : World) :
    Calls Try.prog 19 #[.int .i64 k, .int .i64 a, .int .i64 b] w fun e w' => e = .returned (.bool (cmpB k a b)) ∧ w = w' := by
  by_cases h1 : a < 0
  · have HE := Lib.hid (cmpB_neg (k := k) (b := b) h1)
    go_enter Try.func19, Try.ntmps19
    go_wp2_with (fail)
    go_ret
    exact ⟨ret_bool HE.out.symm, rfl⟩
  · have hd1 : decide (a < 0) = false := by simpa using h1
    by_cases h2 : b < 0
    · have HE := Lib.hid (cmpB_neg2 (k := k) (a := a) h2)
      go_enter Try.func19, Try.ntmps19
      go_wp2_with (fail)
      go_ret
      exact ⟨ret_bool HE.out.symm, rfl⟩
    · have hd2 : decide (b < 0) = false := by simpa using h2
      rcases hk with rfl | rfl
      · by_cases h3 : a = b
        · have HE := Lib.hid (show cmpB 2 a b = true by rw [cmpB_same (by omega) (by omega)]; exact decide_eq_true h3)
          have hd3 : (a == b) = true := by simpa using h3
          clear h3
          go_enter Try.func19, Try.ntmps19
          go_wp2_with (fail)
          go_ret
          exact ⟨ret_bool HE.out.symm, rfl⟩
        · have HE := Lib.hid (show cmpB 2 a b = false by rw [cmpB_same (by omega) (by omega)]; exact decide_eq_false h3)
          have hd3 : (a == b) = false := by simpa using h3
          clear h3
          go_enter Try.func19, Try.ntmps19
          go_wp2_with (fail)
          go_ret
          exact ⟨ret_bool HE.out.symm, rfl⟩
      · by_cases h3 : a < b
        · have HE := Lib.hid (show cmpB 3 a b = true by rw [cmpB_less (by omega) (by omega)]; exact decide_eq_true h3)
          go_enter Try.func19, Try.ntmps19
          go_wp2_with (fail)
          go_ret
          exact ⟨ret_bool HE.out.symm, rfl⟩
        · have HE := Lib.hid (show cmpB 3 a b = false by rw [cmpB_less (by omega) (by omega)]; exact decide_eq_false h3)
          have hd3 : decide (a < b) = false := by simpa using h3
          go_enter Try.func19, Try.ntmps19
          go_wp2_with (fail)
          go_ret
          exact ⟨ret_bool HE.out.symm, rfl⟩

/-- Two values, and what a comparison of them answers. -/
theorem cmpB_cases (k a b : Int) (hk : k = 2 ∨ k = 3) : (a < 0 ∧ cmpB k a b = false) ∨ (0 ≤ a ∧ b < 0 ∧ cmpB k a b = false) ∨ (0 ≤ a ∧ 0 ≤ b ∧ cmpB k a b = (if k = 2 then a == b else decide (a < b))) := by
  rcases Int.lt_or_le a 0 with h | h
  · exact .inl ⟨h, cmpB_neg h⟩
  · rcases Int.lt_or_le b 0 with h2 | h2
    · exact .inr (.inl ⟨h, h2, cmpB_neg2 h2⟩)
    · refine .inr (.inr ⟨h, h2, ?_⟩)
      rcases hk with rfl | rfl
      · rw [cmpB_same h h2]
        rfl
      · rw [cmpB_less h h2]
        rfl

set_option maxHeartbeats 2000000 in
set_option maxRecDepth 100000 in
theorem l3HoldsCmp_any (v v3 : Value) (l : LLit) (bs : List Int) (v0 : Value) (w : World) (hkd : l.1 = 2 ∨ l.1 = 3) (h2 : RdLit w w.heap.size v l) (h3 : RdInts w w.heap.size v3 bs) (hb : bs.length = 4) (ht : l.2.2.all termOk = true) :
    Calls Try.prog 28 #[v0, v, v3] w fun e w' => e = .returned (.bool (decide (l.2.2.length = 2) && cmpB l.1 (termVal bs (l.2.2.getD 0 0)) (termVal bs (l.2.2.getD 1 0)))) ∧ Below w.heap.size w w' := by
  obtain ⟨kd, p, xs⟩ := l
  obtain ⟨u, rfl, A, c, rfl, hc, hx⟩ := h2
  simp only at hkd hx hc ht
  have H3 := Lib.hid h3
  obtain ⟨A3, c3, rfl, hc3, _⟩ := h3
  have HB := Lib.hid hb
  clear hb
  have y0 := Blk.new w 28 #[.int .i64 kd, .int .i64 p, .slice A xs.length c]
  by_cases hl : xs.length = 2
  · obtain ⟨s, t, rfl⟩ : ∃ s t, xs = [s, t] := by
      match xs, hl with
      | [s, t], _ => exact ⟨s, t, rfl⟩
    obtain ⟨b, o, rfl, hbB, hx⟩ := hx (by simp)
    have hs := List.all_eq_true.1 ht s (by simp)
    have htt := List.all_eq_true.1 ht t (by simp)
    have c0 : ∀ O, (w.alloc O).cell? ⟨b, o, none⟩ = some (.int .i64 s) := fun O => (World.cell?_alloc_lt w O ⟨b, o, none⟩ hbB).trans (hx 0 (by simp))
    have c1 : ∀ O, (w.alloc O).cell? ⟨b, o + 1, none⟩ = some (.int .i64 t) := fun O => (World.cell?_alloc_lt w O ⟨b, o + 1, none⟩ hbB).trans (hx 1 (by simp))
    have T1 := Lib.hid (fun O => l3Term_any (.slice A3 bs.length c3) bs s _ (w.alloc O) (H3.out.on (below1 w O)) HB.out hs)
    have T2 := Lib.hid (fun O => l3Term_any (.slice A3 bs.length c3) bs t _ (w.alloc O) (H3.out.on (below1 w O)) HB.out htt)
    obtain ⟨R, hR⟩ : ∃ R, R = cmpB kd (termVal bs s) (termVal bs t) := ⟨_, rfl⟩
    have HR := Lib.hid hR
    have HX := Lib.hid (cmpB_cases kd (termVal bs s) (termVal bs t) hkd)
    rw [← hR] at HX
    obtain ⟨av, hav⟩ : ∃ av, av = termVal bs s := ⟨_, rfl⟩
    obtain ⟨bv, hbv⟩ : ∃ bv, bv = termVal bs t := ⟨_, rfl⟩
    rw [← hav] at T1 HX
    rw [← hbv] at T2 HX
    have HG := Lib.hid (show (decide ([s, t].length = 2) && cmpB kd (termVal bs ([s, t].getD 0 0)) (termVal bs ([s, t].getD 1 0))) = R by rw [hR]; rfl)
    show Calls _ _ _ _ fun e w' => e = .returned (.bool (decide ([s, t].length = 2) && cmpB kd (termVal bs ([s, t].getD 0 0)) (termVal bs ([s, t].getD 1 0)))) ∧ _
    rw [HG.out]
    clear hR hav hbv hs htt ht hx hl HR
    have q0 := y0.cell 0
    have q1 := y0.cell 1
    have q2 := y0.cell 2
    simp only [List.length_cons, List.length_nil] at q2
    rcases hkd with rfl | rfl
    · rcases HX.out with ⟨h1, e⟩ | ⟨h1, h2, e⟩ | ⟨h1, h2, e⟩
      · have hd1 : decide (0 ≤ av) = false := by simp; omega
        have HE := Lib.hid e
        clear e
        go_enter Try.func28, Try.ntmps28
        go_wp2_with (fail)
        refine (T1.out _).mono ?_
        rintro e w' ⟨rfl, rfl⟩
        go_wp2_with (fail)
        refine (T2.out _).mono ?_
        rintro e w' ⟨rfl, rfl⟩
        go_wp2_with (fail)
        go_ret
        exact ⟨ret_bool HE.out.symm, below1 _ _⟩
      · have hd2 : decide (0 ≤ bv) = false := by simp; omega
        have HE := Lib.hid e
        clear e
        go_enter Try.func28, Try.ntmps28
        go_wp2_with (fail)
        refine (T1.out _).mono ?_
        rintro e w' ⟨rfl, rfl⟩
        go_wp2_with (fail)
        refine (T2.out _).mono ?_
        rintro e w' ⟨rfl, rfl⟩
        go_wp2_with (fail)
        go_ret
        exact ⟨ret_bool HE.out.symm, below1 _ _⟩
      · have e' : R = (av == bv) := e
        clear e
        by_cases h3 : av = bv
        · have hd3 : (av == bv) = true := by simpa using h3
          have HE := Lib.hid (show R = true by rw [e', hd3])
          clear e' h3
          go_enter Try.func28, Try.ntmps28
          go_wp2_with (fail)
          refine (T1.out _).mono ?_
          rintro e w' ⟨rfl, rfl⟩
          go_wp2_with (fail)
          refine (T2.out _).mono ?_
          rintro e w' ⟨rfl, rfl⟩
          go_wp2_with (fail)
          go_ret
          exact ⟨ret_bool HE.out.symm, below1 _ _⟩
        · have hd3 : (av == bv) = false := by simpa using h3
          have HE := Lib.hid (show R = false by rw [e', hd3])
          clear e' h3
          go_enter Try.func28, Try.ntmps28
          go_wp2_with (fail)
          refine (T1.out _).mono ?_
          rintro e w' ⟨rfl, rfl⟩
          go_wp2_with (fail)
          refine (T2.out _).mono ?_
          rintro e w' ⟨rfl, rfl⟩
          go_wp2_with (fail)
          go_ret
          exact ⟨ret_bool HE.out.symm, below1 _ _⟩
    · rcases HX.out with ⟨h1, e⟩ | ⟨h1, h2, e⟩ | ⟨h1, h2, e⟩
      · have hd1 : decide (0 ≤ av) = false := by simp; omega
        have HE := Lib.hid e
        clear e
        go_enter Try.func28, Try.ntmps28
        go_wp2_with (fail)
        refine (T1.out _).mono ?_
        rintro e w' ⟨rfl, rfl⟩
        go_wp2_with (fail)
        refine (T2.out _).mono ?_
        rintro e w' ⟨rfl, rfl⟩
        go_wp2_with (fail)
        go_ret
        exact ⟨ret_bool HE.out.symm, below1 _ _⟩
      · have hd2 : decide (0 ≤ bv) = false := by simp; omega
        have HE := Lib.hid e
        clear e
        go_enter Try.func28, Try.ntmps28
        go_wp2_with (fail)
        refine (T1.out _).mono ?_
        rintro e w' ⟨rfl, rfl⟩
        go_wp2_with (fail)
        refine (T2.out _).mono ?_
        rintro e w' ⟨rfl, rfl⟩
        go_wp2_with (fail)
        go_ret
        exact ⟨ret_bool HE.out.symm, below1 _ _⟩
      · have e' : R = decide (av < bv) := e
        clear e
        by_cases h3 : av < bv
        · have HE := Lib.hid (show R = true by rw [e']; exact decide_eq_true h3)
          clear e'
          go_enter Try.func28, Try.ntmps28
          go_wp2_with (fail)
          refine (T1.out _).mono ?_
          rintro e w' ⟨rfl, rfl⟩
          go_wp2_with (fail)
          refine (T2.out _).mono ?_
          rintro e w' ⟨rfl, rfl⟩
          go_wp2_with (fail)
          go_ret
          exact ⟨ret_bool HE.out.symm, below1 _ _⟩
        · have hd3 : decide (av < bv) = false := by simpa using h3
          have HE := Lib.hid (show R = false by rw [e', hd3])
          clear e'
          go_enter Try.func28, Try.ntmps28
          go_wp2_with (fail)
          refine (T1.out _).mono ?_
          rintro e w' ⟨rfl, rfl⟩
          go_wp2_with (fail)
          refine (T2.out _).mono ?_
          rintro e w' ⟨rfl, rfl⟩
          go_wp2_with (fail)
          go_ret
          exact ⟨ret_bool HE.out.symm, below1 _ _⟩
  · have hl1 : ((xs.length : Int) != 2) = true := by simp; omega
    have HG := Lib.hid (show (decide (xs.length = 2) && cmpB kd (termVal bs (xs.getD 0 0)) (termVal bs (xs.getD 1 0))) = false by rw [decide_eq_false hl]; rfl)
    show Calls _ _ _ _ fun e w' => e = .returned (.bool (decide (xs.length = 2) && cmpB kd (termVal bs (xs.getD 0 0)) (termVal bs (xs.getD 1 0)))) ∧ _
    rw [HG.out]
    clear hx hl
    have q0 := y0.cell 0
    have q2 := y0.cell 2
    rcases hkd with rfl | rfl
    all_goals
      go_enter Try.func28, Try.ntmps28
      go_wp2_with (fail)
      go_ret
      exact ⟨rfl, below1 _ _⟩

end Go.Proofs.Ytofkcmihcgmmpaa
/-
  Both Holds: literals that an atom holds, or does not.
-/
namespace Go.Proofs.Ytofkcmihcgmmpaa
open Go.RowKit

theorem l1In_is {n lo hi : Int} {b : Bool} (h : decide (lo ≤ n ∧ n ≤ hi) = b) (w : World) : Calls Try.prog 43 #[.int .i64 n, .int .i64 lo, .int .i64 hi] w fun e w' => e = .returned (.bool b) ∧ w = w' := h ▸ l1In_any n lo hi w

set_option maxHeartbeats 2000000 in
set_option maxRecDepth 100000 in
theorem l3HoldsAsk_any (v0 v v3 : Value) (fs : List LFact) (l : LLit) (bs : List Int) (w : World) (hkd : ¬ (l.1 = 2 ∨ l.1 = 3)) (h1 : RdFacts w w.heap.size v0 fs) (h2 : RdLit w w.heap.size v l) (h3 : RdInts w w.heap.size v3 bs)
    (hn : fs.length ≤ 1048576) (htt : tot fs ≤ 1048576) (hr : l.2.2.length ≤ 1048576) (hr2 : bs.length ≤ 1048576) :
    Calls Try.prog 28 #[v0, v, v3] w fun e w' => e = .returned (.bool ((headOk l.2 bs && decide (0 ≤ l.1 ∧ l.1 ≤ 1)) && (factsHas fs (headOf l.2 bs) == decide (l.1 = 0)))) ∧ Below w.heap.size w w' := by
  obtain ⟨kd, a⟩ := l
  obtain ⟨u, rfl, h2⟩ := h2
  have H1 := Lib.hid h1
  have H2 := Lib.hid h2
  have H3 := Lib.hid h3
  obtain ⟨A1, c1, rfl, hc1, _⟩ := h1
  obtain ⟨A, c, rfl, hc, _⟩ := h2
  obtain ⟨A3, c3, rfl, hc3, _⟩ := h3
  simp only at hkd hc hr
  obtain ⟨F, hF⟩ : ∃ F, F = headOf a bs := ⟨_, rfl⟩
  obtain ⟨ok, hok⟩ : ∃ ok, ok = headOk a bs := ⟨_, rfl⟩
  obtain ⟨hs, hhs⟩ : ∃ hs, hs = factsHas fs F := ⟨_, rfl⟩
  obtain ⟨R, hR⟩ : ∃ R, R = ((ok && decide (0 ≤ kd ∧ kd ≤ 1)) && (hs == decide (kd = 0))) := ⟨_, rfl⟩
  show Calls _ _ _ _ fun e w' => e = .returned (.bool ((headOk a bs && decide (0 ≤ kd ∧ kd ≤ 1)) && (factsHas fs (headOf a bs) == decide (kd = 0)))) ∧ _
  rw [← hF, ← hok, ← hhs, ← hR]
  have HR := Lib.hid hR
  have HF := Lib.hid (And.intro hF hok)
  have HFL := Lib.hid (show F.2.length ≤ 1048576 by have := headOf_length a bs; rw [hF]; omega)
  have HH := Lib.hid hhs
  clear hR hF hok hhs
  have k2 : (kd == 2) = false := by have h : kd ≠ 2 := fun e => hkd (.inl e); simpa using h
  have k3 : (kd == 3) = false := by have h : kd ≠ 3 := fun e => hkd (.inr e); simpa using h
  have y0 := Blk.new w 28 #[.int .i64 kd, .int .i64 a.1, .slice A a.2.length c]
  have q0 := y0.cell 0
  have q1 := y0.cell 1
  have q2 := y0.cell 2
  go_enter Try.func28, Try.ntmps28
  go_wp2_with (fail)
  obtain ⟨w1, hw1⟩ : ∃ w1, w1 = w.alloc (Obj.cells #[Value.int IntKind.i64 kd, Value.int IntKind.i64 a.1, Value.slice A a.2.length c] 28) := ⟨_, rfl⟩
  have B1 : Below w.heap.size w w1 := by rw [hw1]; exact below1 _ _
  rw [← hw1] at y0 ⊢
  clear hw1 q0 q1 q2
  refine (specHeadOf_any _ _ a bs _ ⟨_, rfl, H2.out.on B1⟩ (H3.out.on B1) hr hr2).mono ?_
  rw [← HF.out.1, ← HF.out.2]
  rintro e w2 ⟨A', c', rfl, ho, hb2⟩
  have B2 := bthen B1 hb2
  have y2 := y0.below hb2 y0.lt
  have HO := Lib.hid ho
  clear ho y0
  go_wp2_with (fail)
  obtain ⟨w3, hw3⟩ : ∃ w3, w3 = w2.alloc (Obj.cells #[Value.int IntKind.i64 F.1, Value.slice A' F.2.length c'] 34) := ⟨_, rfl⟩
  have B23 : Below w2.heap.size w2 w3 := by rw [hw3]; exact below1 _ _
  have f3 : Blk w3 w2.heap.size 34 #[.int .i64 F.1, .slice A' F.2.length c'] := by rw [hw3]; exact Blk.new _ _ _
  rw [← hw3]
  clear hw3
  have y3 := y2.below B23 y2.lt
  have B3 := bthen B2 B23
  have RF := Lib.hid (show RdFact w3 w3.heap.size (.agg #[.int .i64 F.1, .slice A' F.2.length c']) F from ⟨_, rfl, HO.out.rd.on B23⟩)
  have L0 := later_cell (y3.cell 0 : w3.cell? ⟨w.heap.size, 0, none⟩ = some (.int .i64 kd))
  have L1 := later_cell (f3.cell 0 : w3.cell? ⟨w2.heap.size, 0, none⟩ = some (.int .i64 F.1))
  have L2 := later_cell (f3.cell 1 : w3.cell? ⟨w2.heap.size, 1, none⟩ = some (.slice A' F.2.length c'))
  have CF := Lib.hid (fun x : Later w3 => (specFactsHas_any _ _ fs F x.val ((H1.out.on B3).on x.2) (RF.out.on x.2) hn htt HFL.out))
  rw [← HH.out] at CF
  clear y2 y3 f3
  cases ok
  · have HE := Lib.hid (show R = false by rw [HR.out]; rfl)
    refine wp_region_later (by kernel_rfl) (by kernel_rfl) ?_
    repeat (go_big_quiet_step (fail))
    refine wpQuiet_nil ?_
    rintro _ ⟨xq, rfl⟩
    go_wp2_with (fail)
    go_ret
    exact ⟨ret_bool HE.out.symm, bthen B3 xq.2⟩
  · by_cases hin : 0 ≤ kd ∧ kd ≤ 1
    · have CI := Lib.hid (fun W => l1In_yes hin W)
      have HD := Lib.hid (show R = (hs == decide (kd = 0)) by rw [HR.out, decide_eq_true hin]; rfl)
      by_cases h0 : kd = 0
      · have k0 : (kd == 0) = true := by simpa using h0
        have HE := Lib.hid (show R = (hs == true) by rw [HD.out, decide_eq_true h0])
        clear h0 hin
        cases hs
        all_goals
          refine wp_region_later (by kernel_rfl) (by kernel_rfl) ?_
          repeat (go_big_quiet_step (first | (go_at_call 43; exact later_same (CI.out _)) | (go_at_call 44; exact later_of (CF.out _))))
          refine wpQuiet_nil ?_
          rintro _ ⟨xq, rfl⟩
          go_wp2_with (fail)
          go_ret
          exact ⟨ret_bool (by rw [HE.out]; rfl), bthen B3 xq.2⟩
      · have k0 : (kd == 0) = false := by simpa using h0
        have HE := Lib.hid (show R = (hs == false) by rw [HD.out, decide_eq_false h0])
        clear h0 hin
        cases hs
        all_goals
          refine wp_region_later (by kernel_rfl) (by kernel_rfl) ?_
          repeat (go_big_quiet_step (first | (go_at_call 43; exact later_same (CI.out _)) | (go_at_call 44; exact later_of (CF.out _))))
          refine wpQuiet_nil ?_
          rintro _ ⟨xq, rfl⟩
          go_wp2_with (fail)
          go_ret
          exact ⟨ret_bool (by rw [HE.out]; rfl), bthen B3 xq.2⟩
    · have CI := Lib.hid (fun W => l1In_no hin W)
      have HE := Lib.hid (show R = false by rw [HR.out, decide_eq_false hin]; rfl)
      clear hin
      refine wp_region_later (by kernel_rfl) (by kernel_rfl) ?_
      repeat (go_big_quiet_step (first | (go_at_call 43; exact later_same (CI.out _))))
      refine wpQuiet_nil ?_
      rintro _ ⟨xq, rfl⟩
      go_wp2_with (fail)
      go_ret
      exact ⟨ret_bool HE.out.symm, bthen B3 xq.2⟩

theorem l3Holds_any (v0 v v3 : Value) (fs : List LFact) (l : LLit) (bs : List Int) (w : World) (h1 : RdFacts w w.heap.size v0 fs) (h2 : RdLit w w.heap.size v l) (h3 : RdInts w w.heap.size v3 bs)
    (hb : bs.length = 4) (ht : l.2.2.all termOk = true) (hn : fs.length ≤ 1048576) (htt : tot fs ≤ 1048576) (hr : l.2.2.length ≤ 1048576) :
    Calls Try.prog 28 #[v0, v, v3] w fun e w' => e = .returned (.bool (litHolds fs l bs)) ∧ Below w.heap.size w w' := by
  by_cases h : l.1 = 2 ∨ l.1 = 3
  · have := l3HoldsCmp_any v v3 l bs v0 w h h2 h3 hb ht
    unfold litHolds
    rw [if_pos h]
    exact this
  · have := l3HoldsAsk_any v0 v v3 fs l bs w h h1 h2 h3 hn htt hr (by omega)
    unfold litHolds
    rw [if_neg h]
    exact this

set_option maxHeartbeats 2000000 in
set_option maxRecDepth 100000 in
theorem specHolds_any (v0 v v3 : Value) (fs : List LFact) (l : LLit) (bs : List Int) (w : World) (h1 : RdFacts w w.heap.size v0 fs) (h2 : RdLit w w.heap.size v l) (h3 : RdInts w w.heap.size v3 bs)
    (hn : fs.length ≤ 1048576) (htt : tot fs ≤ 1048576) (hr : l.2.2.length ≤ 1048576) (hr2 : bs.length ≤ 1048576) :
    Calls Try.prog 9 #[v0, v, v3] w fun e w' => e = .returned (.bool (holdsB fs l bs)) ∧ Below w.heap.size w w' := by
  obtain ⟨u, rfl, h2⟩ := h2
  have H1 := Lib.hid h1
  have H2 := Lib.hid h2
  have H3 := Lib.hid h3
  obtain ⟨A1, c1, rfl, hc1, _⟩ := h1
  obtain ⟨A, c, rfl, hc, _⟩ := h2
  obtain ⟨A3, c3, rfl, hc3, _⟩ := h3
  obtain ⟨R, hR⟩ : ∃ R, R = holdsB fs l bs := ⟨_, rfl⟩
  rw [← hR]
  have HR := Lib.hid hR
  clear hR
  have y0 := Blk.new w 28 #[.int .i64 l.1, .int .i64 l.2.1, .slice A l.2.2.length c]
  have q0 := y0.cell 0
  have q1 := y0.cell 1
  have q2 := y0.cell 2
  by_cases hb : bindOk bs = true
  · have L1 := Lib.hid (fun O => l3Bind_is hb (.slice A3 bs.length c3) _ (w.alloc O) (H3.out.on (below1 w O)) hr2)
    by_cases ht : l.2.2.all termOk = true
    · have L2 := Lib.hid (fun O => l2Terms_is ht (.slice A l.2.2.length c) _ (w.alloc O) (H2.out.on (below1 w O)) hr)
      have L3 := Lib.hid (fun O => l3Holds_any (.slice A1 fs.length c1) (.agg #[.int .i64 l.1, .int .i64 l.2.1, .slice A l.2.2.length c]) (.slice A3 bs.length c3) fs l bs (w.alloc O) (H1.out.on (below1 w O)) ⟨_, rfl, H2.out.on (below1 w O)⟩ (H3.out.on (below1 w O)) (bindOk_len hb) ht hn htt hr)
      obtain ⟨S, hS⟩ : ∃ S, S = litHolds fs l bs := ⟨_, rfl⟩
      rw [← hS] at L3
      have HE := Lib.hid (show R = S by rw [HR.out, hS]; unfold holdsB; rw [hb, ht]; rfl)
      clear hb ht hS
      go_enter Try.func9, Try.ntmps9
      go_wp2_with (fail)
      refine (L1.out _).mono ?_
      rintro e w' ⟨rfl, rfl⟩
      go_wp2_with (fail)
      refine (L2.out _).mono ?_
      rintro e w' ⟨rfl, rfl⟩
      go_wp2_with (fail)
      refine (L3.out _).mono ?_
      rintro e w2 ⟨rfl, hb2⟩
      have B2 := bthen (below1 _ _) hb2
      clear hb2
      go_wp2_with (fail)
      go_ret
      exact ⟨ret_bool HE.out.symm, B2⟩
    · have ht' : l.2.2.all termOk = false := by simpa using ht
      have L2 := Lib.hid (fun O => l2Terms_is ht' (.slice A l.2.2.length c) _ (w.alloc O) (H2.out.on (below1 w O)) hr)
      have HE := Lib.hid (show R = false by rw [HR.out]; unfold holdsB; rw [ht', Bool.and_false]; rfl)
      clear hb ht ht'
      go_enter Try.func9, Try.ntmps9
      go_wp2_with (fail)
      refine (L1.out _).mono ?_
      rintro e w' ⟨rfl, rfl⟩
      go_wp2_with (fail)
      refine (L2.out _).mono ?_
      rintro e w' ⟨rfl, rfl⟩
      go_wp2_with (fail)
      go_ret
      exact ⟨ret_bool HE.out.symm, below1 _ _⟩
  · have hb' : bindOk bs = false := by simpa using hb
    have L1 := Lib.hid (fun O => l3Bind_is hb' (.slice A3 bs.length c3) _ (w.alloc O) (H3.out.on (below1 w O)) hr2)
    have HE := Lib.hid (show R = false by rw [HR.out]; unfold holdsB; rw [hb']; rfl)
    clear hb hb'
    go_enter Try.func9, Try.ntmps9
    go_wp2_with (fail)
    refine (L1.out _).mono ?_
    rintro e w' ⟨rfl, rfl⟩
    go_wp2_with (fail)
    go_ret
    exact ⟨ret_bool HE.out.symm, below1 _ _⟩

set_option maxHeartbeats 2000000 in
set_option maxRecDepth 100000 in
theorem implHolds_any (v0 v v3 : Value) (fs : List LFact) (l : LLit) (bs : List Int) (w : World) (h1 : RdFacts w w.heap.size v0 fs) (h2 : RdLit w w.heap.size v l) (h3 : RdInts w w.heap.size v3 bs)
    (hn : fs.length ≤ 1048576) (htt : tot fs ≤ 1048576) (hr : l.2.2.length ≤ 1048576) (hr2 : bs.length ≤ 1048576) :
    Calls Try.prog 5 #[v0, v, v3] w fun e w' => e = .returned (.bool (holdsB fs l bs)) ∧ Below w.heap.size w w' := by
  obtain ⟨kd, a⟩ := l
  obtain ⟨u, rfl, h2⟩ := h2
  have H1 := Lib.hid h1
  have H2 := Lib.hid h2
  have H3 := Lib.hid h3
  obtain ⟨A1, c1, rfl, hc1, _⟩ := h1
  obtain ⟨A, c, rfl, hc, _⟩ := h2
  obtain ⟨A3, c3, rfl, hc3, _⟩ := h3
  simp only at hc hr
  obtain ⟨R, hR⟩ : ∃ R, R = holdsB fs (kd, a) bs := ⟨_, rfl⟩
  rw [← hR]
  have HR := Lib.hid hR
  clear hR
  have y0 := Blk.new w 28 #[.int .i64 kd, .int .i64 a.1, .slice A a.2.length c]
  have q0 := y0.cell 0
  have q1 := y0.cell 1
  have q2 := y0.cell 2
  have HW := Lib.hid (show ∀ W1, W1 = w.alloc (Obj.cells #[Value.int IntKind.i64 kd, Value.int IntKind.i64 a.1, Value.slice A a.2.length c] 28) → Below w.heap.size w W1 ∧ Blk W1 w.heap.size 28 #[.int .i64 kd, .int .i64 a.1, .slice A a.2.length c] from fun W1 e => ⟨by rw [e]; exact below1 _ _, by rw [e]; exact y0⟩)
  by_cases hk : kd = 0 ∨ kd = 1
  · -- an atom that holds, or does not
    have HHd := Lib.hid (show headOk a bs = true → bindOk bs = true ∧ a.2.all termOk = true from fun e => by
      unfold headOk at e
      simp only [Bool.and_eq_true] at e
      exact e.1)
    obtain ⟨F, hF⟩ : ∃ F, F = headOf a bs := ⟨_, rfl⟩
    obtain ⟨ok, hok⟩ : ∃ ok, ok = headOk a bs := ⟨_, rfl⟩
    obtain ⟨hs, hhs⟩ : ∃ hs, hs = factsHas fs F := ⟨_, rfl⟩
    have HD := Lib.hid (show R = (ok && (hs == decide (kd = 0))) by
      rw [HR.out, hhs, hF, hok]
      show (bindOk bs && a.2.all termOk && litHolds fs (kd, a) bs) = _
      unfold litHolds
      rw [if_neg (show ¬ ((kd, a).1 = 2 ∨ (kd, a).1 = 3) by show ¬ (kd = 2 ∨ kd = 3); omega), decide_eq_true (show 0 ≤ (kd, a).1 ∧ (kd, a).1 ≤ 1 by show 0 ≤ kd ∧ kd ≤ 1; omega)]
      show (bindOk bs && a.2.all termOk && (headOk a bs && true && (factsHas fs (headOf a bs) == decide (kd = 0)))) = _
      rw [Bool.and_true]
      cases he : headOk a bs with
      | false => simp
      | true =>
        obtain ⟨e1, e2⟩ := HHd.out he
        rw [e1, e2]
        rfl)
    have HF := Lib.hid (And.intro hF hok)
    have HFL := Lib.hid (show F.2.length ≤ 1048576 by have := headOf_length a bs; rw [hF]; omega)
    have HH := Lib.hid hhs
    clear hF hok hhs
    have k01 : ((kd == 0) = true ∧ decide (kd = 0) = true) ∨ ((kd == 0) = false ∧ (kd == 1) = true ∧ decide (kd = 0) = false) := by
      rcases hk with rfl | rfl
      · exact .inl ⟨rfl, rfl⟩
      · exact .inr ⟨rfl, rfl, rfl⟩
    clear hk
    rcases k01 with ⟨k0, kq⟩ | ⟨k0, k1, kq⟩
    all_goals
      have HKQ := Lib.hid kq
      clear kq
      go_enter Try.func5, Try.ntmps5
      go_wp2_with (fail)
      obtain ⟨w1, hw1⟩ : ∃ w1, w1 = w.alloc (Obj.cells #[Value.int IntKind.i64 kd, Value.int IntKind.i64 a.1, Value.slice A a.2.length c] 28) := ⟨_, rfl⟩
      obtain ⟨B1, y1⟩ := HW.out w1 hw1
      rw [← hw1]
      clear hw1 q0 q1 q2 y0
      refine (implHeadOf_any _ _ a bs _ ⟨_, rfl, H2.out.on B1⟩ (H3.out.on B1) hr hr2).mono ?_
      rw [← HF.out.1, ← HF.out.2]
      rintro e w2 ⟨A', c', rfl, ho, hb2⟩
      have B2 := bthen B1 hb2
      have y2 := y1.below hb2 y1.lt
      have HO := Lib.hid ho
      clear ho y1
      go_wp2_with (fail)
      obtain ⟨w3, hw3⟩ : ∃ w3, w3 = w2.alloc (Obj.cells #[Value.int IntKind.i64 F.1, Value.slice A' F.2.length c'] 34) := ⟨_, rfl⟩
      have B23 : Below w2.heap.size w2 w3 := by rw [hw3]; exact below1 _ _
      have f3 : Blk w3 w2.heap.size 34 #[.int .i64 F.1, .slice A' F.2.length c'] := by rw [hw3]; exact Blk.new _ _ _
      rw [← hw3]
      clear hw3
      have y3 := y2.below B23 y2.lt
      have B3 := bthen B2 B23
      have RF := Lib.hid (show RdFact w3 w3.heap.size (.agg #[.int .i64 F.1, .slice A' F.2.length c']) F from ⟨_, rfl, HO.out.rd.on B23⟩)
      have L0 := later_cell (y3.cell 0 : w3.cell? ⟨w.heap.size, 0, none⟩ = some (.int .i64 kd))
      have L1 := later_cell (f3.cell 0 : w3.cell? ⟨w2.heap.size, 0, none⟩ = some (.int .i64 F.1))
      have L2 := later_cell (f3.cell 1 : w3.cell? ⟨w2.heap.size, 1, none⟩ = some (.slice A' F.2.length c'))
      have CF := Lib.hid (fun x : Later w3 => (implFactsHas_any _ _ fs F x.val ((H1.out.on B3).on x.2) (RF.out.on x.2) hn htt HFL.out))
      rw [← HH.out] at CF
      clear y2 y3 f3
      cases ok
      · have HE := Lib.hid (show R = false by rw [HD.out]; rfl)
        refine wp_region_later (by kernel_rfl) (by kernel_rfl) ?_
        repeat (go_big_quiet_step (fail))
        refine wpQuiet_nil ?_
        rintro _ ⟨xq, rfl⟩
        go_wp2_with (fail)
        go_ret
        exact ⟨ret_bool HE.out.symm, bthen B3 xq.2⟩
      · have HE := Lib.hid (show R = (hs == decide (kd = 0)) by rw [HD.out]; rfl)
        rw [HKQ.out] at HE
        cases hs
        all_goals
          refine wp_region_later (by kernel_rfl) (by kernel_rfl) ?_
          repeat (go_big_quiet_step (first | (go_at_call 11; exact later_of (CF.out _))))
          refine wpQuiet_nil ?_
          rintro _ ⟨xq, rfl⟩
          go_wp2_with (fail)
          go_ret
          exact ⟨ret_bool (by rw [HE.out]; rfl), bthen B3 xq.2⟩
  · by_cases hk2 : kd = 2 ∨ kd = 3
    · -- two terms that are compared
      obtain ⟨V, hV⟩ : ∃ V, V = boundL a.2 bs := ⟨_, rfl⟩
      have HV := Lib.hid hV
      have hVl : V.length ≤ a.2.length := by rw [hV]; exact boundL_length _ _
      have HD := Lib.hid (show R = (decide (V.length = 2) && cmpB kd (V.getD 0 0) (V.getD 1 0)) by
        rw [HR.out, hV]
        show (bindOk bs && a.2.all termOk && litHolds fs (kd, a) bs) = _
        unfold litHolds
        rw [if_pos (show (kd, a).1 = 2 ∨ (kd, a).1 = 3 from hk2)]
        show (bindOk bs && a.2.all termOk && (decide (a.2.length = 2) && cmpB kd (termVal bs (a.2.getD 0 0)) (termVal bs (a.2.getD 1 0)))) = _
        unfold boundL
        cases he : (bindOk bs && a.2.all termOk) with
        | false => simp
        | true =>
          simp only [Bool.true_and, if_true, List.length_map]
          by_cases hl : a.2.length = 2
          · obtain ⟨s, t, e⟩ : ∃ s t, a.2 = [s, t] := by
              match a.2, hl with
              | [s, t], _ => exact ⟨s, t, rfl⟩
            rw [e]
            rfl
          · rw [decide_eq_false hl]
            rfl)
      have k0 : (kd == 0) = false := by simp; omega
      have k1 : (kd == 1) = false := by simp; omega
      have k23 : (kd == 2) = true ∨ ((kd == 2) = false ∧ (kd == 3) = true) := by
        rcases hk2 with rfl | rfl
        · exact .inl rfl
        · exact .inr ⟨rfl, rfl⟩
      have HK2 := Lib.hid hk2
      clear hV hk hk2
      rcases k23 with k2 | ⟨k2, k3⟩
      all_goals
        go_enter Try.func5, Try.ntmps5
        go_wp2_with (fail)
        obtain ⟨w1, hw1⟩ : ∃ w1, w1 = w.alloc (Obj.cells #[Value.int IntKind.i64 kd, Value.int IntKind.i64 a.1, Value.slice A a.2.length c] 28) := ⟨_, rfl⟩
        obtain ⟨B1, y1⟩ := HW.out w1 hw1
        rw [← hw1]
        clear hw1 q0 q1 q2 y0
        refine (implBound_any _ _ a.2 bs _ (H2.out.on B1) (H3.out.on B1) hr hr2).mono ?_
        rw [← HV.out]
        rintro e w2 ⟨A', c', rfl, ho, hb2⟩
        have B2 := bthen B1 hb2
        have y2 := y1.below hb2 y1.lt
        have L0 := later_cell (y2.cell 0 : w2.cell? ⟨w.heap.size, 0, none⟩ = some (.int .i64 kd))
        by_cases hl : V.length = 2
        · obtain ⟨s, t, rfl⟩ : ∃ s t, V = [s, t] := by
            match V, hl with
            | [s, t], _ => exact ⟨s, t, rfl⟩
          obtain ⟨g, rfl, _, _, _, hcc, _⟩ := ho.at_ (by simp)
          have L1 := later_cell (hcc 0 (by simp) : w2.cell? ⟨g, 0, none⟩ = some (.int .i64 s))
          have L2 := later_cell (hcc 1 (by simp) : w2.cell? ⟨g, 1, none⟩ = some (.int .i64 t))
          have CC := Lib.hid (fun W => comparison_any kd s t HK2.out W)
          have HE := Lib.hid (show R = cmpB kd s t by rw [HD.out]; rfl)
          generalize cmpB kd s t = T at CC HE
          clear y1 y2 ho hcc hl hVl
          go_wp2_with (fail)
          refine wp_region_later (by kernel_rfl) (by kernel_rfl) ?_
          repeat (go_big_quiet_step (first | (go_at_call 19; exact later_same (CC.out _))))
          refine wpQuiet_nil ?_
          rintro _ ⟨xq, rfl⟩
          go_wp2_with (fail)
          go_ret
          exact ⟨ret_bool HE.out.symm, bthen B2 xq.2⟩
        · have hl1 : ((V.length : Int) == 2) = false := by simp; omega
          have HE := Lib.hid (show R = false by rw [HD.out, decide_eq_false hl]; rfl)
          clear y1 y2 ho hl
          go_wp2_with (fail)
          refine wp_region_later (by kernel_rfl) (by kernel_rfl) ?_
          repeat (go_big_quiet_step (fail))
          refine wpQuiet_nil ?_
          rintro _ ⟨xq, rfl⟩
          go_wp2_with (fail)
          go_ret
          exact ⟨ret_bool HE.out.symm, bthen B2 xq.2⟩
    · -- no kind
      have HE := Lib.hid (show R = false by
        rw [HR.out]
        show (bindOk bs && a.2.all termOk && litHolds fs (kd, a) bs) = false
        unfold litHolds
        rw [if_neg (show ¬ ((kd, a).1 = 2 ∨ (kd, a).1 = 3) from hk2), decide_eq_false (show ¬ (0 ≤ (kd, a).1 ∧ (kd, a).1 ≤ 1) by show ¬ (0 ≤ kd ∧ kd ≤ 1); omega), Bool.and_false, Bool.false_and, Bool.and_false])
      have k0 : (kd == 0) = false := by simp; omega
      have k1 : (kd == 1) = false := by simp; omega
      have k2 : (kd == 2) = false := by simp; omega
      have k3 : (kd == 3) = false := by simp; omega
      clear hk hk2
      go_enter Try.func5, Try.ntmps5
      go_wp2_with (fail)
      go_ret
      exact ⟨ret_bool HE.out.symm, below1 _ _⟩

end Go.Proofs.Ytofkcmihcgmmpaa
/-
  The specification's l3Row, l3None, l3Try.
-/
namespace Go.Proofs.Ytofkcmihcgmmpaa
open Go.RowKit

set_option maxHeartbeats 1000000 in
set_option maxRecDepth 100000 in
theorem l3None_any (w : World) :
    Calls Try.prog 17 #[] w fun e w' => ∃ A' c', e = .returned (.slice A' 4 c') ∧ OwnInts w' w.heap.size w'.heap.size (.slice A' 4 c') noneB ∧ Below w.heap.size w w' := by
  obtain ⟨i0, hi0, hz0, hz1, hz2⟩ := info_parts Try.infoInt
  have C0 := Lib.hid (ColI.empty (Below.refl w.heap.size w))
  go_enter Try.func17, Try.ntmps17
  go_wp2_with (fail)
  go_loopw [1, 2] (fun o i wr => ∃ (k : Nat) (A' : Option Addr) (c' : Nat), k ≤ 4 ∧ i = .int .i64 k ∧ o = .slice A' (List.replicate k (-1 : Int)).length c' ∧ ColI w wr (List.replicate k (-1)) A' c') (fun _ i _ => 4 - (intOf i).toNat)
  case atStart => exact ⟨0, _, 0, Nat.zero_le _, rfl, rfl, C0.out⟩
  case round =>
    obtain ⟨k, A', c', hk, rfl, rfl, hr'⟩ := hrel
    by_cases hlt : k < 4
    · have HS := Lib.hid (show List.replicate (k + 1) (-1 : Int) = List.replicate k (-1) ++ [-1] from List.replicate_succ')
      have HP := Lib.hid hr'
      clear hr'
      obtain ⟨zs, hzs⟩ : ∃ zs, zs = List.replicate k (-1 : Int) := ⟨_, rfl⟩
      have hln : zs.length ≤ 4 := by rw [hzs]; simp; omega
      have HZ := Lib.hid hzs
      rw [← hzs] at HP ⊢
      clear hzs
      go_wp2_with (at_builtin; refine wpList_append_lies _ rfl (.tmp 8) (.tmp 9) 24 rfl w.heap.size 3 i0 (.int .i64 0) 1 8 Try.underlying24 hi0 hz0 hz1 hz2 rfl (by decide) (.slice A' zs.length c') zs.length (zs.map (Value.int .i64)) rfl ?c1 ⟨_, 0, none⟩ 1 1 [.int .i64 (-1)] rfl rfl (news1s _ _ _ _ (by simp)) ?c2 (by omega) (by unfold maxLen; omega) (by omega) ?c3 _ rfl ?_)
      case c1 => exact HP.out.own.1.alloc _
      case c2 => first | rfl | (intro u hu; simp at hu; subst hu; rfl)
      case c3 => have := HP.out.below.size; simp; omega
      intro g cap w4 hown hg _ _
      have hcol := HP.out.push (Below.refl _ _) hg hown
      rw [HZ.out, ← HS.out] at hcol
      have hlen : zs.length + 1 = (List.replicate (k + 1) (-1 : Int)).length := by rw [HZ.out]; simp
      rw [hlen]
      have HC := Lib.hid hcol
      clear hcol hlen hown hg
      go_wp2_with (fail)
      go_roundw
      case rel => exact ⟨k + 1, _, _, by omega, by go_num, rfl, HC.out⟩
      case measure => simp [intOf]; omega
    · have hkn : k = 4 := by omega
      subst hkn
      have HP := Lib.hid hr'
      clear hr'
      go_wp2_with (fail)
      go_ret
      exact ⟨_, _, rfl, HP.out.own, HP.out.below⟩

end Go.Proofs.Ytofkcmihcgmmpaa
