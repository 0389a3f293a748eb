/-
  Texts that the claim's last one imports, laid together: part 7 of 13. No condition of its own.
-/
import Derived.Deep.RegionLaw
import Derived.Deep.DeepCutAuto
import Derived.Shelf.SlSortCmp.WholeK
import Derived.Shelf.Spec.SlicesGrow
import Derived.Shelf.LaySoft
import Derived.Shelf.Lay
import Derived.Test.YtokmmloakahkhaaGreatDoorChecked
import Derived.Lib.AppendZerosOnto
import Derived.Shelf.RegionOpenPlain
import Derived.Sort.Grow
import Derived.Laws.IdiomCopy
import Derived.Test.YtokmmloakahkhaaGreatDoorMCs1
import Derived.Test.YtokmmloakahkhaaGreatDoorMCs2
import Derived.Test.YtokmmloakahkhaaGreatDoorMCs3
import Derived.Test.YtokmmloakahkhaaGreatDoorMCs6
/-
  The specification's l3Copy, l3Match.
-/
namespace Go.Proofs.YtokmmloakahkhaaGreatDoor
open Go.RowKit

/-- A row of one's own that is not empty: its block, its cells. -/
theorem OwnInts.at_ {w : World} {lo hi c n : Nat} {A : Option Addr} {xs : List Int} (h : OwnInts w lo hi (.slice A n c) xs) (hn : 0 < xs.length) :
    ∃ g, A = some ⟨g, 0, none⟩ ∧ lo ≤ g ∧ g < hi ∧ g < w.heap.size ∧ (∀ k (hk : k < xs.length), w.cell? ⟨g, k, none⟩ = some (.int .i64 xs[k])) ∧ ∀ k, w.frozen? ⟨g, k, none⟩ = false := by
  obtain ⟨g, cap, e, _, _⟩ := h.1.form hn
  injection e with e1 e2 e3
  subst e1
  subst e2
  obtain ⟨l1, l2, l3⟩ := h.lt (g := g) rfl
  obtain ⟨A', c', e, _, hx⟩ := h.rd
  injection e with e1 _ _
  obtain ⟨b, o, e2, _, hx⟩ := hx hn
  rw [← e1] at e2
  injection e2 with e2
  injection e2 with e2 e3 _
  subst e2
  subst e3
  exact ⟨g, rfl, l1, l2, l3, fun k hk => by simpa using hx k hk, fun k => World.ownsRow.frozenAt h.1 k⟩

theorem OwnInts.atG {w : World} {lo hi c n g : Nat} {xs : List Int} (h : OwnInts w lo hi (.slice (some ⟨g, 0, none⟩) n c) xs) (hn : 0 < xs.length) :
    lo ≤ g ∧ g < hi ∧ g < w.heap.size ∧ (∀ k (hk : k < xs.length), w.cell? ⟨g, k, none⟩ = some (.int .i64 xs[k])) ∧ ∀ k, w.frozen? ⟨g, k, none⟩ = false := by
  obtain ⟨g', e, h'⟩ := h.at_ hn
  injection e with e
  injection e with e _ _
  subst e
  exact h'

set_option maxHeartbeats 1000000 in
set_option maxRecDepth 100000 in
theorem l3Copy_any (v : Value) (xs : List Int) (w : World) (h : RdInts w w.heap.size v xs) (hr : xs.length ≤ 1048576) :
    Calls Tryz.prog 118 #[v] w fun e w' => ∃ A' c', e = .returned (.slice A' xs.length c') ∧ OwnInts w' w.heap.size w'.heap.size (.slice A' xs.length c') xs ∧ Below w.heap.size w w' := by
  obtain ⟨i0, hi0, hz0, hz1, hz2⟩ := info_parts Tryz.infoInt
  have H := Lib.hid h
  obtain ⟨A, c, rfl, hc, _⟩ := h
  have C0 := Lib.hid (ColI.empty (Below.refl w.heap.size w))
  go_enter Tryz.func118, Tryz.ntmps118
  go_wp2_with (fail)
  go_loopw [3, 4] (fun o i wr => ∃ (k : Nat) (A' : Option Addr) (c' : Nat), k ≤ xs.length ∧ i = .int .i64 k ∧ o = .slice A' (xs.take k).length c' ∧ ColI w wr (xs.take k) A' c') (fun _ i _ => xs.length - (intOf i).toNat)
  case atStart => exact ⟨0, _, 0, Nat.zero_le _, rfl, rfl, C0.out⟩
  case round =>
    obtain ⟨k, A', c', hk, rfl, rfl, hr'⟩ := hrel
    have hln : (xs.take k).length ≤ k := by simp; omega
    by_cases hlt : k < xs.length
    · have hre := H.out.below hr'.below (Nat.le_refl _)
      obtain ⟨A3, c3, e3, _, hx⟩ := hre
      injection e3 with e3 _ e4
      subst e3 e4
      obtain ⟨b, o, rfl, hbB, hx⟩ := hx (by omega)
      have hck : wr.cell? ⟨b, o + k, none⟩ = some (.int .i64 xs[k]) := hx k hlt
      have HS := Lib.hid (take_snoc xs k hlt)
      have HP := Lib.hid hr'
      clear hx hr'
      obtain ⟨x, hx⟩ : ∃ x, x = xs[k] := ⟨_, rfl⟩
      rw [← hx] at hck HS
      clear hx
      obtain ⟨zs, hzs⟩ : ∃ zs, zs = xs.take k := ⟨_, rfl⟩
      have HZ := Lib.hid hzs
      rw [← hzs] at HP hln ⊢
      clear hzs
      go_wp2_with (at_builtin; refine wpList_append_lies _ rfl (.tmp 12) (.tmp 17) 23 rfl w.heap.size 3 i0 (.int .i64 0) 1 8 Tryz.underlying23 hi0 hz0 hz1 hz2 rfl (by decide) (.slice A' zs.length c') zs.length (zs.map (Value.int .i64)) rfl ?c1 ⟨_, 0, none⟩ 1 1 [.int .i64 x] rfl rfl (news1s _ _ _ _ (by simp)) ?c2 (by omega) (by unfold maxLen; omega) (by omega) ?c3 _ rfl ?_)
      case c1 => exact HP.out.own.1.alloc _
      case c2 => first | rfl | (intro u hu; simp at hu; subst hu; rfl)
      case c3 => have := HP.out.below.size; simp; omega
      intro g cap w4 hown hg _ _
      have hcol := HP.out.push (Below.refl _ _) hg hown
      rw [HZ.out, ← HS.out] at hcol
      have hlen : zs.length + 1 = (xs.take (k + 1)).length := by rw [HS.out, HZ.out]; simp
      rw [hlen]
      have HC := Lib.hid hcol
      clear hcol hlen hown hg
      go_wp2_with (fail)
      go_roundw
      case rel => exact ⟨k + 1, _, _, by omega, by go_num, rfl, HC.out⟩
      case measure => simp [intOf]; omega
    · have hkn : k = xs.length := by omega
      have HZ := Lib.hid (show xs.take k = xs by rw [hkn, List.take_length])
      have HO := Lib.hid hr'
      rw [HZ.out] at HO ⊢
      clear hkn hr'
      go_wp2_with (fail)
      go_ret
      exact ⟨_, _, rfl, HO.out.own, HO.out.below⟩

set_option maxHeartbeats 4000000 in
set_option maxRecDepth 100000 in
theorem l3Match_n (v v2 v3 : Value) (a f : LFact) (bs R : List Int) (ok : Bool) (hR : R = (matchL a f bs).getD []) (hok : ok = (matchL a f bs).isSome) (w : World) (hb : bindOk bs = true) (h : RdFact w w.heap.size v a) (h2 : RdFact w w.heap.size v2 f) (h3 : RdInts w w.heap.size v3 bs)
    (ht : a.2.all termOk = true) (hf : f.2.all constOk = true) (hr : a.2.length ≤ 1048576) (hr2 : f.2.length ≤ 1048576) :
    Calls Tryz.prog 160 #[v, v2, v3] w fun e w' => ∃ A' c', e = .returned (.tuple #[.slice A' R.length c', .bool ok]) ∧ OwnInts w' w.heap.size w'.heap.size (.slice A' R.length c') R ∧ Below w.heap.size w w' := by
  obtain ⟨pa, xs⟩ := a
  obtain ⟨pf, ys⟩ := f
  simp only at ht hf hr hr2
  have HO := Lib.hid (And.intro hR hok)
  clear hR hok
  have H3 := Lib.hid h3
  obtain ⟨A3, c3, rfl, hc3, _⟩ := h3
  obtain ⟨u, rfl, A, c, rfl, hc, hA⟩ := h
  obtain ⟨u, rfl, A2, c2, rfl, hc2, hA2⟩ := h2
  by_cases hp : pa = pf
  · have hpb : (pa != pf) = false := by simp [hp]
    by_cases hl : xs.length = ys.length
    · have hl1 : ((xs.length : Int) != (ys.length : Int)) = false := by simp [hl]
      have HL := Lib.hid hl
      have HP := Lib.hid hp
      have HB := Lib.hid hb
      have HB4 := Lib.hid (bindOk_len hb)
      clear hl hp hb
      have x0 := (Blk.new w 35 #[.int .i64 pa, .slice A xs.length c]).alloc (Obj.cells #[.int .i64 pf, .slice A2 ys.length c2] 41)
      have x1 : Blk ((w.alloc (Obj.cells #[.int .i64 pa, .slice A xs.length c] 35)).alloc (Obj.cells #[.int .i64 pf, .slice A2 ys.length c2] 41)) (w.heap.size + 1) 41 #[.int .i64 pf, .slice A2 ys.length c2] := by simpa using Blk.new (w.alloc (Obj.cells #[.int .i64 pa, .slice A xs.length c] 35)) 41 #[.int .i64 pf, .slice A2 ys.length c2]
      go_enter Tryz.func160, Tryz.ntmps160
      go_wp2_with (fail)
      obtain ⟨w2, hw2⟩ : ∃ w2, w2 = ((w.alloc (Obj.cells #[Value.int IntKind.i64 pa, Value.slice A xs.length c] 35)).alloc (Obj.cells #[Value.int IntKind.i64 pf, Value.slice A2 ys.length c2] 41)) := ⟨_, rfl⟩
      have B2 : Below w.heap.size w w2 := by rw [hw2]; exact below2 _ _ _
      rw [← hw2] at x0 x1 ⊢
      clear hw2
      have l1 := x1.lt
      refine (l3Copy_any _ bs _ (H3.out.on B2) (by have := HB4.out; omega)).mono ?_
      rintro e w3 ⟨A', c', rfl, ho, hb3⟩
      obtain ⟨g, rfl, hg1, hg2, hg3, _, _⟩ := ho.at_ (by have := HB4.out; omega)
      have R0 : OwnInts w3 w2.heap.size w3.heap.size (.slice (some ⟨g, 0, none⟩) bs.length c') bs ∧ Below w.heap.size w w3 ∧ Blk w3 w.heap.size 35 #[.int .i64 pa, .slice A xs.length c] ∧ Blk w3 (w.heap.size + 1) 41 #[.int .i64 pf, .slice A2 ys.length c2] := ⟨ho, bthen B2 hb3, x0.below hb3 x0.lt, x1.below hb3 x1.lt⟩
      rw [HB4.out] at R0 ⊢
      clear ho hb3 x0 x1 hg3 hg2
      go_wp2_with (fail)
      go_loopw [9, 10] (fun i _ wr => ∃ (k : Nat) (cur : List Int), k ≤ xs.length ∧ i = .int .i64 k ∧ bindOk cur = true ∧ matchTo bs xs ys k = some cur ∧ OwnInts wr w2.heap.size wr.heap.size (.slice (some ⟨g, 0, none⟩) 4 c') cur ∧ Below w.heap.size w wr ∧ Blk wr w.heap.size 35 #[.int .i64 pa, .slice A xs.length c] ∧ Blk wr (w.heap.size + 1) 41 #[.int .i64 pf, .slice A2 ys.length c2]) (fun i _ _ => xs.length - (intOf i).toNat)
      case atStart => exact ⟨0, bs, Nat.zero_le _, rfl, HB.out, rfl, R0.1, R0.2.1, R0.2.2.1, R0.2.2.2⟩
      case round =>
        obtain ⟨k, cur, hk, rfl, hcb, hmt, ho, hbe, y0, y1⟩ := hrel
        have q01 : wr.cell? ⟨w.heap.size, 1, none⟩ = some (.slice A xs.length c) := y0.cell 1
        have q11 : wr.cell? ⟨w.heap.size + 1, 1, none⟩ = some (.slice A2 ys.length c2) := y1.cell 1
        have hcl := bindOk_len hcb
        have HP2 := Lib.hid (And.intro ho (And.intro hbe (And.intro y0 y1)))
        by_cases hlt : k < xs.length
        · have hlt2 : k < ys.length := by have := HL.out; omega
          obtain ⟨b, o, rfl, hbB, hx⟩ := hA (by omega)
          obtain ⟨b2, o2, rfl, hbB2, hx2⟩ := hA2 (by omega)
          have hck : wr.cell? ⟨b, o + k, none⟩ = some (.int .i64 xs[k]) := (hbe.cell (p := ⟨b, o + k, none⟩) hbB).trans (hx k hlt)
          have hck2 : wr.cell? ⟨b2, o2 + k, none⟩ = some (.int .i64 ys[k]) := (hbe.cell (p := ⟨b2, o2 + k, none⟩) hbB2).trans (hx2 k hlt2)
          have htk : termOk xs[k] = true := List.all_eq_true.1 ht _ (List.getElem_mem hlt)
          have hfk : 0 ≤ ys[k] ∧ ys[k] ≤ 5 := by simpa [constOk] using List.all_eq_true.1 hf _ (List.getElem_mem hlt2)
          have hst := matchTo_step hmt hlt hlt2
          have htb := termOk_at htk
          obtain ⟨hg1', _, hg3, hcc, hcf⟩ := ho.atG (by omega)
          clear hx hx2 hA hA2
          obtain ⟨t, htv⟩ : ∃ t, t = xs[k] := ⟨_, rfl⟩
          obtain ⟨y, hyv⟩ : ∃ y, y = ys[k] := ⟨_, rfl⟩
          rw [← htv] at htk hck hst htb
          rw [← hyv] at hfk hck2 hst
          clear htv hyv
          by_cases e2 : termVal cur t = -1
          · -- the variable gets it
            obtain ⟨q1, q2, q3⟩ := termVal_free htk e2
            obtain ⟨j, hj4, rfl⟩ : ∃ j : Nat, j < 4 ∧ t = -1 - (j : Int) := ⟨(-1 - t).toNat, by omega, by omega⟩
            have hjt : (-1 - (-1 - (j : Int))).toNat = j := by omega
            have hje : -1 - (-1 - (j : Int)) = (j : Int) := by omega
            rw [hjt] at q3
            have hjl : j < cur.length := by omega
            have hjI : (j : Int) < 4 := by omega
            have hcj : wr.cell? ⟨g, j, none⟩ = some (.int .i64 (-1)) := by
              have hh := hcc j hjl
              rwa [show cur[j] = -1 by simpa [hjl] using q3] at hh
            have hfj := hcf j
            have hoo := OwnInts.store (A := some ⟨g, 0, none⟩) (c := c') (g := g) (xs := cur) (by rw [hcl]; exact ho) rfl hjl y
            obtain ⟨ws, hws⟩ : ∃ ws, ws = wr.setCell ⟨g, j, none⟩ (.int .i64 y) := ⟨_, rfl⟩
            have z0 := y0.far (p := ⟨g, j, none⟩) (by show w.heap.size ≠ g; omega) (.int .i64 y)
            have z1 := y1.far (p := ⟨g, j, none⟩) (by show w.heap.size + 1 ≠ g; omega) (.int .i64 y)
            have zb : Below w.heap.size w ws := by rw [hws]; exact hbe.setCell (by show w.heap.size ≤ g; omega) _
            have hsz : ws.heap.size = wr.heap.size := by rw [hws]; simp
            rw [← hws] at hoo z0 z1
            rw [hcl] at hoo
            have HCS := Lib.hid (show bindOk (cur.set j y) = true from bindOk_set hcb (by omega) _)
            have hsl : (cur.set j y).length = 4 := by rw [List.length_set]; exact hcl
            have HMS := Lib.hid (show matchTo bs xs ys (k + 1) = some (cur.set j y) by rw [hst, stepM_new e2 (by omega), hjt])
            have HTV := Lib.hid (show termVal (cur.set j y) (-1 - (j : Int)) = y by
              rw [termVal_var (by omega), hjt]
              simp [hjl])
            have hck2s : ws.cell? ⟨b2, o2 + k, none⟩ = some (.int .i64 y) := by
              rw [hws, World.cell?_setCell_other _ _ _ _ (by intro e; injection e with e1 _ _; omega)]
              exact hck2
            have q11s : ws.cell? ⟨w.heap.size + 1, 1, none⟩ = some (.slice (some ⟨b2, o2, none⟩) ys.length c2) := z1.cell 1
            have HT := Lib.hid (fun n => quiet_left (l3Term_any (.slice (some ⟨g, 0, none⟩) 4 c') (cur.set j y) (-1 - (j : Int)) ws.heap.size (ws.drewN n) (by
              have := (hoo.rd.more (B' := ws.heap.size) (by omega)).below (bdrewN (Below.refl ws.heap.size ws) n) (Nat.le_refl _)
              exact this) hsl htk))
            have HQ := Lib.hid (And.intro (show OwnInts ws w2.heap.size ws.heap.size (.slice (some ⟨g, 0, none⟩) 4 c') (cur.set j y) by rw [hsz]; exact hoo) (And.intro zb (And.intro z0 z1)))
            have HW := Lib.hid hws
            have HE2 := Lib.hid (And.intro e2 (And.intro q3 (And.intro hst hmt)))
            clear hoo z0 z1 zb hws hst hmt e2 q3 hcc hcf ho y0 y1
            rw [HTV.out] at HT
            go_wp2_with (fail)
            rw [← HW.out]
            go_quiet ((go_at_call 163; exact HT.out _))
            go_wp2_with (fail)
            go_roundw
            case rel =>
              obtain ⟨a1, a2, a3, a4⟩ := HQ.out
              exact ⟨k + 1, _, by omega, by go_num, HCS.out, HMS.out, a1.below (bdrewN (Below.refl _ _) _) (Nat.le_refl _), bdrewN a2 _, a3.drewN _, a4.drewN _⟩
            case measure => simp [intOf]; omega
          · have HT := Lib.hid (fun n => quiet_left (l3Term_any (.slice (some ⟨g, 0, none⟩) 4 c') cur t wr.heap.size (wr.drewN n) (by
              have h' : OwnInts wr w2.heap.size wr.heap.size (.slice (some ⟨g, 0, none⟩) cur.length c') cur := by rw [hcl]; exact ho
              have := h'.rd.below (bdrewN (Below.refl wr.heap.size wr) n) (Nat.le_refl _)
              rw [hcl] at this
              exact this) hcl htk))
            -- no store: a constant, or a variable that has one
            have hns : 0 ≤ t ∨ ∃ j : Nat, ∃ hj : j < cur.length, t = -1 - (j : Int) ∧ 0 ≤ cur[j] := by
              rcases Int.lt_or_le t 0 with h0 | h0
              · right
                have hj : (-1 - t).toNat < cur.length := by omega
                refine ⟨(-1 - t).toNat, hj, by omega, ?_⟩
                rw [termVal_var h0] at e2
                have e3 : cur[(-1 - t).toNat] ≠ -1 := by simpa [hj] using e2
                have := bindOk_at hcb hj
                omega
              · exact .inl h0
            have HV := Lib.hid (And.intro e2 (And.intro hst hmt))
            clear e2 hst hmt y0 y1
            by_cases e1 : termVal cur t = y
            · have hd1 : (y != y) = false := by simp
              have HMS := Lib.hid (show matchTo bs xs ys (k + 1) = some cur by rw [HV.out.2.1, stepM_same e1])
              rw [e1] at HT
              clear e1
              rcases hns with h0 | ⟨j, hj, rfl, hj0⟩
              · have hd0 : decide (t < 0) = false := by simp; omega
                clear ho hcc hcf
                go_wp2_with (fail)
                go_quiet ((go_at_call 163; exact HT.out _))
                go_wp2_with (fail)
                go_roundw
                case rel =>
                  obtain ⟨a1, a2, a3, a4⟩ := HP2.out
                  exact ⟨k + 1, _, by omega, by go_num, hcb, HMS.out, a1.below (bdrewN (Below.refl _ _) _) (Nat.le_refl _), bdrewN a2 _, a3.drewN _, a4.drewN _⟩
                case measure => simp [intOf]; omega
              · have hje : -1 - (-1 - (j : Int)) = (j : Int) := by omega
                have hjI : (j : Int) < 4 := by omega
                have hcj : wr.cell? ⟨g, j, none⟩ = some (.int .i64 cur[j]) := hcc j hj
                have hdj : decide (cur[j] < 0) = false := by simp; omega
                clear ho hcc hcf
                go_wp2_with (fail)
                go_quiet ((go_at_call 163; exact HT.out _))
                go_wp2_with (fail)
                go_roundw
                case rel =>
                  obtain ⟨a1, a2, a3, a4⟩ := HP2.out
                  exact ⟨k + 1, _, by omega, by go_num, hcb, HMS.out, a1.below (bdrewN (Below.refl _ _) _) (Nat.le_refl _), bdrewN a2 _, a3.drewN _, a4.drewN _⟩
                case measure => simp [intOf]; omega
            · have hd1 : (termVal cur t != y) = true := by simpa using e1
              have HN := Lib.hid (show matchL (pa, xs) (pf, ys) bs = none from matchL_stop HP.out HL.out hlt (by rw [HV.out.2.1, stepM_no e1 HV.out.1]))
              have HZ := Lib.hid (show R = [] ∧ ok = false from ⟨by rw [HO.out.1, HN.out]; rfl, by rw [HO.out.2, HN.out]; rfl⟩)
              clear e1
              rcases hns with h0 | ⟨j, hj, rfl, hj0⟩
              · have hd0 : decide (t < 0) = false := by simp; omega
                clear ho hcc hcf
                go_wp2_with (fail)
                go_quiet ((go_at_call 163; exact HT.out _))
                go_wp2_with (fail)
                go_ret2
                rw [HZ.out.1, HZ.out.2]
                exact ⟨none, 0, rfl, zeroI _ _ _, bdrewN hbe _⟩
              · have hje : -1 - (-1 - (j : Int)) = (j : Int) := by omega
                have hjI : (j : Int) < 4 := by omega
                have hcj : wr.cell? ⟨g, j, none⟩ = some (.int .i64 cur[j]) := hcc j hj
                have hdj : decide (cur[j] < 0) = false := by simp; omega
                clear ho hcc hcf
                go_wp2_with (fail)
                go_quiet ((go_at_call 163; exact HT.out _))
                go_wp2_with (fail)
                go_ret2
                rw [HZ.out.1, HZ.out.2]
                exact ⟨none, 0, rfl, zeroI _ _ _, bdrewN hbe _⟩
        · have hkn : k = xs.length := by omega
          have HN := Lib.hid (show matchL (pa, xs) (pf, ys) bs = some cur by rw [matchL_eq HP.out HL.out, ← hmt, hkn])
          have HZ := Lib.hid (show R = cur ∧ ok = true from ⟨by rw [HO.out.1, HN.out]; rfl, by rw [HO.out.2, HN.out]; rfl⟩)
          have HCL := Lib.hid hcl
          clear hkn hmt hA hA2 ho y0 y1 hcl
          go_wp2_with (fail)
          go_ret2
          rw [HZ.out.1, HZ.out.2, HCL.out]
          exact ⟨_, _, rfl, HP2.out.1.mono (by omega) (Nat.le_refl _), hbe⟩
    · have hl1 : ((xs.length : Int) != (ys.length : Int)) = true := by simp; omega
      have HN := Lib.hid (show matchL (pa, xs) (pf, ys) bs = none from matchL_len hl)
      have HZ := Lib.hid (show R = [] ∧ ok = false from ⟨by rw [HO.out.1, HN.out]; rfl, by rw [HO.out.2, HN.out]; rfl⟩)
      clear hA hA2 hl
      go_enter Tryz.func160, Tryz.ntmps160
      go_wp2_with (fail)
      go_ret2
      rw [HZ.out.1, HZ.out.2]
      exact ⟨none, 0, rfl, zeroI _ _ _, below2 _ _ _⟩
  · have hpb : (pa != pf) = true := by simp [hp]
    have HN := Lib.hid (show matchL (pa, xs) (pf, ys) bs = none from matchL_pred hp)
    have HZ := Lib.hid (show R = [] ∧ ok = false from ⟨by rw [HO.out.1, HN.out]; rfl, by rw [HO.out.2, HN.out]; rfl⟩)
    clear hA hA2 hp
    go_enter Tryz.func160, Tryz.ntmps160
    go_wp2_with (fail)
    go_ret2
    rw [HZ.out.1, HZ.out.2]
    exact ⟨none, 0, rfl, zeroI _ _ _, below2 _ _ _⟩

end Go.Proofs.YtokmmloakahkhaaGreatDoor
/-
  Both Holds.
-/
namespace Go.Proofs.YtokmmloakahkhaaGreatDoor
open Go.RowKit

/-- LitSame, LitLess: both have constants, and are the same, or the first is less. -/
def cmpB (k a b : Int) : Bool := (decide (0 ≤ a) && decide (0 ≤ b)) && (if k = 2 then decide (a = b) else decide (a < b))
def litHolds (fs : List LFact) (l : LLit) (bs : List Int) : Bool :=
  if l.1 = 2 ∨ l.1 = 3 then decide (l.2.2.length = 2) && cmpB l.1 (termVal bs (l.2.2.getD 0 0)) (termVal bs (l.2.2.getD 1 0))
  else (headOk l.2 bs && decide (0 ≤ l.1 ∧ l.1 ≤ 1)) && (factsHas fs (headOf l.2 bs) == decide (l.1 = 0))
def holdsB (fs : List LFact) (l : LLit) (bs : List Int) : Bool := (bindOk bs && l.2.2.all termOk) && litHolds fs l bs

theorem cmpB_neg {k a b : Int} (h : a < 0) : cmpB k a b = false := by unfold cmpB; rw [decide_eq_false (show ¬ 0 ≤ a by omega)]; rfl
theorem cmpB_neg2 {k a b : Int} (h : b < 0) : cmpB k a b = false := by unfold cmpB; rw [decide_eq_false (show ¬ 0 ≤ b by omega), Bool.and_false]; rfl
theorem cmpB_same {a b : Int} (h : 0 ≤ a) (h2 : 0 ≤ b) : cmpB 2 a b = decide (a = b) := by unfold cmpB; rw [decide_eq_true h, decide_eq_true h2]; simp
theorem cmpB_less {a b : Int} (h : 0 ≤ a) (h2 : 0 ≤ b) : cmpB 3 a b = decide (a < b) := by unfold cmpB; rw [decide_eq_true h, decide_eq_true h2]; simp

theorem comparison_any (k a b : Int) (hk : k = 2 ∨ k = 3) (w : World) :
    Calls Tryz.prog 146 #[.int .i64 k, .int .i64 a, .int .i64 b] w fun e w' => e = .returned (.bool (cmpB k a b)) ∧ w = w' := by
  by_cases h1 : a < 0
  · have HE := Lib.hid (cmpB_neg (k := k) (b := b) h1)
    go_enter Tryz.func146, Tryz.ntmps146
    go_wp2_with (fail)
    go_ret
    exact ⟨ret_bool HE.out.symm, rfl⟩
  · have hd1 : decide (a < 0) = false := by simpa using h1
    by_cases h2 : b < 0
    · have HE := Lib.hid (cmpB_neg2 (k := k) (a := a) h2)
      go_enter Tryz.func146, Tryz.ntmps146
      go_wp2_with (fail)
      go_ret
      exact ⟨ret_bool HE.out.symm, rfl⟩
    · have hd2 : decide (b < 0) = false := by simpa using h2
      rcases hk with rfl | rfl
      · by_cases h3 : a = b
        · have HE := Lib.hid (show cmpB 2 a b = true by rw [cmpB_same (by omega) (by omega)]; exact decide_eq_true h3)
          have hd3 : (a == b) = true := by simpa using h3
          clear h3
          go_enter Tryz.func146, Tryz.ntmps146
          go_wp2_with (fail)
          go_ret
          exact ⟨ret_bool HE.out.symm, rfl⟩
        · have HE := Lib.hid (show cmpB 2 a b = false by rw [cmpB_same (by omega) (by omega)]; exact decide_eq_false h3)
          have hd3 : (a == b) = false := by simpa using h3
          clear h3
          go_enter Tryz.func146, Tryz.ntmps146
          go_wp2_with (fail)
          go_ret
          exact ⟨ret_bool HE.out.symm, rfl⟩
      · by_cases h3 : a < b
        · have HE := Lib.hid (show cmpB 3 a b = true by rw [cmpB_less (by omega) (by omega)]; exact decide_eq_true h3)
          go_enter Tryz.func146, Tryz.ntmps146
          go_wp2_with (fail)
          go_ret
          exact ⟨ret_bool HE.out.symm, rfl⟩
        · have HE := Lib.hid (show cmpB 3 a b = false by rw [cmpB_less (by omega) (by omega)]; exact decide_eq_false h3)
          have hd3 : decide (a < b) = false := by simpa using h3
          go_enter Tryz.func146, Tryz.ntmps146
          go_wp2_with (fail)
          go_ret
          exact ⟨ret_bool HE.out.symm, rfl⟩

/-- Two values, and what a comparison of them answers. -/
theorem cmpB_cases (k a b : Int) (hk : k = 2 ∨ k = 3) : (a < 0 ∧ cmpB k a b = false) ∨ (0 ≤ a ∧ b < 0 ∧ cmpB k a b = false) ∨ (0 ≤ a ∧ 0 ≤ b ∧ cmpB k a b = (if k = 2 then a == b else decide (a < b))) := by
  rcases Int.lt_or_le a 0 with h | h
  · exact .inl ⟨h, cmpB_neg h⟩
  · rcases Int.lt_or_le b 0 with h2 | h2
    · exact .inr (.inl ⟨h, h2, cmpB_neg2 h2⟩)
    · refine .inr (.inr ⟨h, h2, ?_⟩)
      rcases hk with rfl | rfl
      · rw [cmpB_same h h2]
        rfl
      · rw [cmpB_less h h2]
        rfl

set_option maxHeartbeats 2000000 in
set_option maxRecDepth 100000 in
theorem l3HoldsCmp_any (v v3 : Value) (l : LLit) (bs : List Int) (v0 : Value) (w : World) (hkd : l.1 = 2 ∨ l.1 = 3) (h2 : RdLit w w.heap.size v l) (h3 : RdInts w w.heap.size v3 bs) (hb : bs.length = 4) (ht : l.2.2.all termOk = true) :
    Calls Tryz.prog 138 #[v0, v, v3] w fun e w' => e = .returned (.bool (decide (l.2.2.length = 2) && cmpB l.1 (termVal bs (l.2.2.getD 0 0)) (termVal bs (l.2.2.getD 1 0)))) ∧ Below w.heap.size w w' := by
  obtain ⟨kd, p, xs⟩ := l
  obtain ⟨u, rfl, A, c, rfl, hc, hx⟩ := h2
  simp only at hkd hx hc ht
  have H3 := Lib.hid h3
  obtain ⟨A3, c3, rfl, hc3, _⟩ := h3
  have HB := Lib.hid hb
  clear hb
  have y0 := Blk.new w 91 #[.int .i64 kd, .int .i64 p, .slice A xs.length c]
  by_cases hl : xs.length = 2
  · obtain ⟨s, t, rfl⟩ : ∃ s t, xs = [s, t] := by
      match xs, hl with
      | [s, t], _ => exact ⟨s, t, rfl⟩
    obtain ⟨b, o, rfl, hbB, hx⟩ := hx (by simp)
    have hs := List.all_eq_true.1 ht s (by simp)
    have htt := List.all_eq_true.1 ht t (by simp)
    have c0 : ∀ O, (w.alloc O).cell? ⟨b, o, none⟩ = some (.int .i64 s) := fun O => (World.cell?_alloc_lt w O ⟨b, o, none⟩ hbB).trans (hx 0 (by simp))
    have c1 : ∀ O, (w.alloc O).cell? ⟨b, o + 1, none⟩ = some (.int .i64 t) := fun O => (World.cell?_alloc_lt w O ⟨b, o + 1, none⟩ hbB).trans (hx 1 (by simp))
    have T1 := Lib.hid (fun O => l3Term_any (.slice A3 bs.length c3) bs s _ (w.alloc O) (H3.out.on (below1 w O)) HB.out hs)
    have T2 := Lib.hid (fun O => l3Term_any (.slice A3 bs.length c3) bs t _ (w.alloc O) (H3.out.on (below1 w O)) HB.out htt)
    obtain ⟨R, hR⟩ : ∃ R, R = cmpB kd (termVal bs s) (termVal bs t) := ⟨_, rfl⟩
    have HR := Lib.hid hR
    have HX := Lib.hid (cmpB_cases kd (termVal bs s) (termVal bs t) hkd)
    rw [← hR] at HX
    obtain ⟨av, hav⟩ : ∃ av, av = termVal bs s := ⟨_, rfl⟩
    obtain ⟨bv, hbv⟩ : ∃ bv, bv = termVal bs t := ⟨_, rfl⟩
    rw [← hav] at T1 HX
    rw [← hbv] at T2 HX
    have HG := Lib.hid (show (decide ([s, t].length = 2) && cmpB kd (termVal bs ([s, t].getD 0 0)) (termVal bs ([s, t].getD 1 0))) = R by rw [hR]; rfl)
    show Calls _ _ _ _ fun e w' => e = .returned (.bool (decide ([s, t].length = 2) && cmpB kd (termVal bs ([s, t].getD 0 0)) (termVal bs ([s, t].getD 1 0)))) ∧ _
    rw [HG.out]
    clear hR hav hbv hs htt ht hx hl HR
    have q0 := y0.cell 0
    have q1 := y0.cell 1
    have q2 := y0.cell 2
    simp only [List.length_cons, List.length_nil] at q2
    rcases hkd with rfl | rfl
    · rcases HX.out with ⟨h1, e⟩ | ⟨h1, h2, e⟩ | ⟨h1, h2, e⟩
      · have hd1 : decide (0 ≤ av) = false := by simp; omega
        have HE := Lib.hid e
        clear e
        go_enter Tryz.func138, Tryz.ntmps138
        go_wp2_with (fail)
        refine (T1.out _).mono ?_
        rintro e w' ⟨rfl, rfl⟩
        go_wp2_with (fail)
        refine (T2.out _).mono ?_
        rintro e w' ⟨rfl, rfl⟩
        go_wp2_with (fail)
        go_ret
        exact ⟨ret_bool HE.out.symm, below1 _ _⟩
      · have hd2 : decide (0 ≤ bv) = false := by simp; omega
        have HE := Lib.hid e
        clear e
        go_enter Tryz.func138, Tryz.ntmps138
        go_wp2_with (fail)
        refine (T1.out _).mono ?_
        rintro e w' ⟨rfl, rfl⟩
        go_wp2_with (fail)
        refine (T2.out _).mono ?_
        rintro e w' ⟨rfl, rfl⟩
        go_wp2_with (fail)
        go_ret
        exact ⟨ret_bool HE.out.symm, below1 _ _⟩
      · have e' : R = (av == bv) := e
        clear e
        by_cases h3 : av = bv
        · have hd3 : (av == bv) = true := by simpa using h3
          have HE := Lib.hid (show R = true by rw [e', hd3])
          clear e' h3
          go_enter Tryz.func138, Tryz.ntmps138
          go_wp2_with (fail)
          refine (T1.out _).mono ?_
          rintro e w' ⟨rfl, rfl⟩
          go_wp2_with (fail)
          refine (T2.out _).mono ?_
          rintro e w' ⟨rfl, rfl⟩
          go_wp2_with (fail)
          go_ret
          exact ⟨ret_bool HE.out.symm, below1 _ _⟩
        · have hd3 : (av == bv) = false := by simpa using h3
          have HE := Lib.hid (show R = false by rw [e', hd3])
          clear e' h3
          go_enter Tryz.func138, Tryz.ntmps138
          go_wp2_with (fail)
          refine (T1.out _).mono ?_
          rintro e w' ⟨rfl, rfl⟩
          go_wp2_with (fail)
          refine (T2.out _).mono ?_
          rintro e w' ⟨rfl, rfl⟩
          go_wp2_with (fail)
          go_ret
          exact ⟨ret_bool HE.out.symm, below1 _ _⟩
    · rcases HX.out with ⟨h1, e⟩ | ⟨h1, h2, e⟩ | ⟨h1, h2, e⟩
      · have hd1 : decide (0 ≤ av) = false := by simp; omega
        have HE := Lib.hid e
        clear e
        go_enter Tryz.func138, Tryz.ntmps138
        go_wp2_with (fail)
        refine (T1.out _).mono ?_
        rintro e w' ⟨rfl, rfl⟩
        go_wp2_with (fail)
        refine (T2.out _).mono ?_
        rintro e w' ⟨rfl, rfl⟩
        go_wp2_with (fail)
        go_ret
        exact ⟨ret_bool HE.out.symm, below1 _ _⟩
      · have hd2 : decide (0 ≤ bv) = false := by simp; omega
        have HE := Lib.hid e
        clear e
        go_enter Tryz.func138, Tryz.ntmps138
        go_wp2_with (fail)
        refine (T1.out _).mono ?_
        rintro e w' ⟨rfl, rfl⟩
        go_wp2_with (fail)
        refine (T2.out _).mono ?_
        rintro e w' ⟨rfl, rfl⟩
        go_wp2_with (fail)
        go_ret
        exact ⟨ret_bool HE.out.symm, below1 _ _⟩
      · have e' : R = decide (av < bv) := e
        clear e
        by_cases h3 : av < bv
        · have HE := Lib.hid (show R = true by rw [e']; exact decide_eq_true h3)
          clear e'
          go_enter Tryz.func138, Tryz.ntmps138
          go_wp2_with (fail)
          refine (T1.out _).mono ?_
          rintro e w' ⟨rfl, rfl⟩
          go_wp2_with (fail)
          refine (T2.out _).mono ?_
          rintro e w' ⟨rfl, rfl⟩
          go_wp2_with (fail)
          go_ret
          exact ⟨ret_bool HE.out.symm, below1 _ _⟩
        · have hd3 : decide (av < bv) = false := by simpa using h3
          have HE := Lib.hid (show R = false by rw [e', hd3])
          clear e'
          go_enter Tryz.func138, Tryz.ntmps138
          go_wp2_with (fail)
          refine (T1.out _).mono ?_
          rintro e w' ⟨rfl, rfl⟩
          go_wp2_with (fail)
          refine (T2.out _).mono ?_
          rintro e w' ⟨rfl, rfl⟩
          go_wp2_with (fail)
          go_ret
          exact ⟨ret_bool HE.out.symm, below1 _ _⟩
  · have hl1 : ((xs.length : Int) != 2) = true := by simp; omega
    have HG := Lib.hid (show (decide (xs.length = 2) && cmpB kd (termVal bs (xs.getD 0 0)) (termVal bs (xs.getD 1 0))) = false by rw [decide_eq_false hl]; rfl)
    show Calls _ _ _ _ fun e w' => e = .returned (.bool (decide (xs.length = 2) && cmpB kd (termVal bs (xs.getD 0 0)) (termVal bs (xs.getD 1 0)))) ∧ _
    rw [HG.out]
    clear hx hl
    have q0 := y0.cell 0
    have q2 := y0.cell 2
    rcases hkd with rfl | rfl
    all_goals
      go_enter Tryz.func138, Tryz.ntmps138
      go_wp2_with (fail)
      go_ret
      exact ⟨rfl, below1 _ _⟩

end Go.Proofs.YtokmmloakahkhaaGreatDoor
/-
  Both Holds: literals that an atom holds, or does not.
-/
namespace Go.Proofs.YtokmmloakahkhaaGreatDoor
open Go.RowKit

theorem l1In_is {n lo hi : Int} {b : Bool} (h : decide (lo ≤ n ∧ n ≤ hi) = b) (w : World) : Calls Tryz.prog 55 #[.int .i64 n, .int .i64 lo, .int .i64 hi] w fun e w' => e = .returned (.bool b) ∧ w = w' := h ▸ l1In_any n lo hi w

set_option maxHeartbeats 2000000 in
set_option maxRecDepth 100000 in
theorem l3HoldsAsk_any (v0 v v3 : Value) (fs : List LFact) (l : LLit) (bs : List Int) (w : World) (hkd : ¬ (l.1 = 2 ∨ l.1 = 3)) (h1 : RdFacts w w.heap.size v0 fs) (h2 : RdLit w w.heap.size v l) (h3 : RdInts w w.heap.size v3 bs)
    (hn : fs.length ≤ 1048576) (htt : tot fs ≤ 1048576) (hr : l.2.2.length ≤ 1048576) (hr2 : bs.length ≤ 1048576) :
    Calls Tryz.prog 138 #[v0, v, v3] w fun e w' => e = .returned (.bool ((headOk l.2 bs && decide (0 ≤ l.1 ∧ l.1 ≤ 1)) && (factsHas fs (headOf l.2 bs) == decide (l.1 = 0)))) ∧ Below w.heap.size w w' := by
  obtain ⟨kd, a⟩ := l
  obtain ⟨u, rfl, h2⟩ := h2
  have H1 := Lib.hid h1
  have H2 := Lib.hid h2
  have H3 := Lib.hid h3
  obtain ⟨A1, c1, rfl, hc1, _⟩ := h1
  obtain ⟨A, c, rfl, hc, _⟩ := h2
  obtain ⟨A3, c3, rfl, hc3, _⟩ := h3
  simp only at hkd hc hr
  obtain ⟨F, hF⟩ : ∃ F, F = headOf a bs := ⟨_, rfl⟩
  obtain ⟨ok, hok⟩ : ∃ ok, ok = headOk a bs := ⟨_, rfl⟩
  obtain ⟨hs, hhs⟩ : ∃ hs, hs = factsHas fs F := ⟨_, rfl⟩
  obtain ⟨R, hR⟩ : ∃ R, R = ((ok && decide (0 ≤ kd ∧ kd ≤ 1)) && (hs == decide (kd = 0))) := ⟨_, rfl⟩
  show Calls _ _ _ _ fun e w' => e = .returned (.bool ((headOk a bs && decide (0 ≤ kd ∧ kd ≤ 1)) && (factsHas fs (headOf a bs) == decide (kd = 0)))) ∧ _
  rw [← hF, ← hok, ← hhs, ← hR]
  have HR := Lib.hid hR
  have HF := Lib.hid (And.intro hF hok)
  have HFL := Lib.hid (show F.2.length ≤ 1048576 by have := headOf_length a bs; rw [hF]; omega)
  have HH := Lib.hid hhs
  clear hR hF hok hhs
  have k2 : (kd == 2) = false := by have h : kd ≠ 2 := fun e => hkd (.inl e); simpa using h
  have k3 : (kd == 3) = false := by have h : kd ≠ 3 := fun e => hkd (.inr e); simpa using h
  have y0 := Blk.new w 91 #[.int .i64 kd, .int .i64 a.1, .slice A a.2.length c]
  have q0 := y0.cell 0
  have q1 := y0.cell 1
  have q2 := y0.cell 2
  go_enter Tryz.func138, Tryz.ntmps138
  go_wp2_with (fail)
  obtain ⟨w1, hw1⟩ : ∃ w1, w1 = w.alloc (Obj.cells #[Value.int IntKind.i64 kd, Value.int IntKind.i64 a.1, Value.slice A a.2.length c] 91) := ⟨_, rfl⟩
  have B1 : Below w.heap.size w w1 := by rw [hw1]; exact below1 _ _
  rw [← hw1] at y0 ⊢
  clear hw1 q0 q1 q2
  refine (specHeadOf_any _ _ a bs _ ⟨_, rfl, H2.out.on B1⟩ (H3.out.on B1) hr hr2).mono ?_
  rw [← HF.out.1, ← HF.out.2]
  rintro e w2 ⟨A', c', rfl, ho, hb2⟩
  have B2 := bthen B1 hb2
  have y2 := y0.below hb2 y0.lt
  have HO := Lib.hid ho
  clear ho y0
  go_wp2_with (fail)
  obtain ⟨w3, hw3⟩ : ∃ w3, w3 = w2.alloc (Obj.cells #[Value.int IntKind.i64 F.1, Value.slice A' F.2.length c'] 41) := ⟨_, rfl⟩
  have B23 : Below w2.heap.size w2 w3 := by rw [hw3]; exact below1 _ _
  have f3 : Blk w3 w2.heap.size 41 #[.int .i64 F.1, .slice A' F.2.length c'] := by rw [hw3]; exact Blk.new _ _ _
  rw [← hw3]
  clear hw3
  have y3 := y2.below B23 y2.lt
  have B3 := bthen B2 B23
  have RF := Lib.hid (show RdFact w3 w3.heap.size (.agg #[.int .i64 F.1, .slice A' F.2.length c']) F from ⟨_, rfl, HO.out.rd.on B23⟩)
  have L0 := later_cell (y3.cell 0 : w3.cell? ⟨w.heap.size, 0, none⟩ = some (.int .i64 kd))
  have L1 := later_cell (f3.cell 0 : w3.cell? ⟨w2.heap.size, 0, none⟩ = some (.int .i64 F.1))
  have L2 := later_cell (f3.cell 1 : w3.cell? ⟨w2.heap.size, 1, none⟩ = some (.slice A' F.2.length c'))
  have CF := Lib.hid (fun x : Later w3 => (specFactsHas_any _ _ fs F x.val ((H1.out.on B3).on x.2) (RF.out.on x.2) hn htt HFL.out))
  rw [← HH.out] at CF
  clear y2 y3 f3
  cases ok
  · have HE := Lib.hid (show R = false by rw [HR.out]; rfl)
    refine wp_region_later (by kernel_rfl) (by kernel_rfl) ?_
    repeat (go_big_quiet_step (fail))
    refine wpQuiet_nil ?_
    rintro _ ⟨xq, rfl⟩
    go_wp2_with (fail)
    go_ret
    exact ⟨ret_bool HE.out.symm, bthen B3 xq.2⟩
  · by_cases hin : 0 ≤ kd ∧ kd ≤ 1
    · have CI := Lib.hid (fun W => l1In_yes hin W)
      have HD := Lib.hid (show R = (hs == decide (kd = 0)) by rw [HR.out, decide_eq_true hin]; rfl)
      by_cases h0 : kd = 0
      · have k0 : (kd == 0) = true := by simpa using h0
        have HE := Lib.hid (show R = (hs == true) by rw [HD.out, decide_eq_true h0])
        clear h0 hin
        cases hs
        all_goals
          refine wp_region_later (by kernel_rfl) (by kernel_rfl) ?_
          repeat (go_big_quiet_step (first | (go_at_call 55; exact later_same (CI.out _)) | (go_at_call 173; exact later_of (CF.out _))))
          refine wpQuiet_nil ?_
          rintro _ ⟨xq, rfl⟩
          go_wp2_with (fail)
          go_ret
          exact ⟨ret_bool (by rw [HE.out]; rfl), bthen B3 xq.2⟩
      · have k0 : (kd == 0) = false := by simpa using h0
        have HE := Lib.hid (show R = (hs == false) by rw [HD.out, decide_eq_false h0])
        clear h0 hin
        cases hs
        all_goals
          refine wp_region_later (by kernel_rfl) (by kernel_rfl) ?_
          repeat (go_big_quiet_step (first | (go_at_call 55; exact later_same (CI.out _)) | (go_at_call 173; exact later_of (CF.out _))))
          refine wpQuiet_nil ?_
          rintro _ ⟨xq, rfl⟩
          go_wp2_with (fail)
          go_ret
          exact ⟨ret_bool (by rw [HE.out]; rfl), bthen B3 xq.2⟩
    · have CI := Lib.hid (fun W => l1In_no hin W)
      have HE := Lib.hid (show R = false by rw [HR.out, decide_eq_false hin]; rfl)
      clear hin
      refine wp_region_later (by kernel_rfl) (by kernel_rfl) ?_
      repeat (go_big_quiet_step (first | (go_at_call 55; exact later_same (CI.out _))))
      refine wpQuiet_nil ?_
      rintro _ ⟨xq, rfl⟩
      go_wp2_with (fail)
      go_ret
      exact ⟨ret_bool HE.out.symm, bthen B3 xq.2⟩

theorem l3Holds_any (v0 v v3 : Value) (fs : List LFact) (l : LLit) (bs : List Int) (w : World) (h1 : RdFacts w w.heap.size v0 fs) (h2 : RdLit w w.heap.size v l) (h3 : RdInts w w.heap.size v3 bs)
    (hb : bs.length = 4) (ht : l.2.2.all termOk = true) (hn : fs.length ≤ 1048576) (htt : tot fs ≤ 1048576) (hr : l.2.2.length ≤ 1048576) :
    Calls Tryz.prog 138 #[v0, v, v3] w fun e w' => e = .returned (.bool (litHolds fs l bs)) ∧ Below w.heap.size w w' := by
  by_cases h : l.1 = 2 ∨ l.1 = 3
  · have := l3HoldsCmp_any v v3 l bs v0 w h h2 h3 hb ht
    unfold litHolds
    rw [if_pos h]
    exact this
  · have := l3HoldsAsk_any v0 v v3 fs l bs w h h1 h2 h3 hn htt hr (by omega)
    unfold litHolds
    rw [if_neg h]
    exact this

end Go.Proofs.YtokmmloakahkhaaGreatDoor
/-
  The specification's l3Row, l3None, l3Try.
-/
namespace Go.Proofs.YtokmmloakahkhaaGreatDoor
open Go.RowKit

set_option maxHeartbeats 1000000 in
set_option maxRecDepth 100000 in
theorem l3Row_any (v v2 : Value) (xs ys : List Int) (w : World) (h : RdInts w w.heap.size v xs) (h2 : RdInts w w.heap.size v2 ys) (hn : xs.length ≤ 1048576) (hn2 : ys.length ≤ 1048576) :
    Calls Tryz.prog 181 #[v, v2] w fun e w' => e = .returned (.int .i64 (cmpL xs ys)) ∧ Below w.heap.size w w' := by
  obtain ⟨A, c, rfl, hc, ha⟩ := h
  obtain ⟨A2, c2, rfl, hc2, hb⟩ := h2
  go_enter Tryz.func181, Tryz.ntmps181
  go_wp2_with (fail)
  go_loopw [5] (fun i wr => ∃ k : Nat, k ≤ xs.length ∧ k ≤ ys.length ∧ i = .int .i64 k ∧ CmpTo xs ys k ∧ Below w.heap.size w wr) (fun i _ => xs.length - (intOf i).toNat)
  case atStart => exact ⟨0, Nat.zero_le _, Nat.zero_le _, rfl, rfl, Below.refl _ _⟩
  case round =>
    obtain ⟨k, hk, hk2, rfl, hs, hbe⟩ := hrel
    by_cases hlt : k < xs.length
    · have hd : decide ((k : Int) < (xs.length : Int)) = true := by simp; omega
      by_cases hlt2 : k < ys.length
      · obtain ⟨b, o, rfl, hbB, hx⟩ := ha (by omega)
        obtain ⟨b2, o2, rfl, hbB2, hx2⟩ := hb (by omega)
        have hck : wr.cell? ⟨b, o + k, none⟩ = some (.int .i64 xs[k]) := (hbe.cell (p := ⟨b, o + k, none⟩) hbB).trans (hx k hlt)
        have hck2 : wr.cell? ⟨b2, o2 + k, none⟩ = some (.int .i64 ys[k]) := (hbe.cell (p := ⟨b2, o2 + k, none⟩) hbB2).trans (hx2 k hlt2)
        clear hx hx2 ha hb
        by_cases he : xs[k] = ys[k]
        · have HS := Lib.hid (show CmpTo xs ys (k + 1) by unfold CmpTo at hs ⊢; rw [hs, cmpL_at hlt hlt2, if_pos he])
          have h0 : (xs[k] != ys[k]) = false := by simp [he]
          clear he hs
          go_wp2_with (fail)
          go_quiet (fail)
          go_wp2_with (fail)
          go_roundw
          case rel => exact ⟨k + 1, by omega, by omega, by go_num, HS.out, bdrewN hbe _⟩
          case measure => simp [intOf]; omega
        · have HS := Lib.hid (show cmpL xs ys = cmpI xs[k] ys[k] by unfold CmpTo at hs; rw [hs, cmpL_at hlt hlt2, if_neg he])
          have h0 : (xs[k] != ys[k]) = true := by simp [he]
          clear he hs
          go_wp2_with (fail)
          go_quiet (fail)
          go_wp2_with (fail)
          go_quiet ((go_at_call 125; exact quiet_add_left (l1Way_any _ _ _)))
          go_wp2_with (fail)
          go_ret
          exact ⟨ret_int HS.out.symm, bdrewN (bdrewN hbe _) _⟩
      · have HS := Lib.hid (show cmpL xs ys = cmpI xs.length ys.length by
          unfold CmpTo at hs
          rw [hs, cmpL_long hlt (by omega), cmpI, if_neg (by omega), if_pos (by omega)])
        clear hs ha hb
        go_wp2_with (go_at_call 125; refine (l1Way_any _ _ _).mono ?_; rintro e w' ⟨rfl, rfl⟩)
        go_ret
        exact ⟨ret_int HS.out.symm, hbe⟩
    · have hd : decide ((k : Int) < (xs.length : Int)) = false := by simp; omega
      have HS := Lib.hid (show cmpL xs ys = cmpI xs.length ys.length by
        unfold CmpTo at hs
        by_cases h3 : xs.length < ys.length
        · rw [hs, cmpL_short (by omega) (by omega), cmpI, if_pos (by omega)]
        · rw [hs, cmpL_end (by omega) (by omega), cmpI, if_neg (by omega), if_neg (by omega)])
      clear hs ha hb
      go_wp2_with (go_at_call 125; refine (l1Way_any _ _ _).mono ?_; rintro e w' ⟨rfl, rfl⟩)
      go_ret
      exact ⟨ret_int HS.out.symm, hbe⟩

set_option maxHeartbeats 1000000 in
set_option maxRecDepth 100000 in
theorem l3None_any (w : World) :
    Calls Tryz.prog 159 #[] w fun e w' => ∃ A' c', e = .returned (.slice A' 4 c') ∧ OwnInts w' w.heap.size w'.heap.size (.slice A' 4 c') noneB ∧ Below w.heap.size w w' := by
  obtain ⟨i0, hi0, hz0, hz1, hz2⟩ := info_parts Tryz.infoInt
  have C0 := Lib.hid (ColI.empty (Below.refl w.heap.size w))
  go_enter Tryz.func159, Tryz.ntmps159
  go_wp2_with (fail)
  go_loopw [1, 2] (fun o i wr => ∃ (k : Nat) (A' : Option Addr) (c' : Nat), k ≤ 4 ∧ i = .int .i64 k ∧ o = .slice A' (List.replicate k (-1 : Int)).length c' ∧ ColI w wr (List.replicate k (-1)) A' c') (fun _ i _ => 4 - (intOf i).toNat)
  case atStart => exact ⟨0, _, 0, Nat.zero_le _, rfl, rfl, C0.out⟩
  case round =>
    obtain ⟨k, A', c', hk, rfl, rfl, hr'⟩ := hrel
    by_cases hlt : k < 4
    · have HS := Lib.hid (show List.replicate (k + 1) (-1 : Int) = List.replicate k (-1) ++ [-1] from List.replicate_succ')
      have HP := Lib.hid hr'
      clear hr'
      obtain ⟨zs, hzs⟩ : ∃ zs, zs = List.replicate k (-1 : Int) := ⟨_, rfl⟩
      have hln : zs.length ≤ 4 := by rw [hzs]; simp; omega
      have HZ := Lib.hid hzs
      rw [← hzs] at HP ⊢
      clear hzs
      go_wp2_with (at_builtin; refine wpList_append_lies _ rfl (.tmp 8) (.tmp 9) 23 rfl w.heap.size 3 i0 (.int .i64 0) 1 8 Tryz.underlying23 hi0 hz0 hz1 hz2 rfl (by decide) (.slice A' zs.length c') zs.length (zs.map (Value.int .i64)) rfl ?c1 ⟨_, 0, none⟩ 1 1 [.int .i64 (-1)] rfl rfl (news1s _ _ _ _ (by simp)) ?c2 (by omega) (by unfold maxLen; omega) (by omega) ?c3 _ rfl ?_)
      case c1 => exact HP.out.own.1.alloc _
      case c2 => first | rfl | (intro u hu; simp at hu; subst hu; rfl)
      case c3 => have := HP.out.below.size; simp; omega
      intro g cap w4 hown hg _ _
      have hcol := HP.out.push (Below.refl _ _) hg hown
      rw [HZ.out, ← HS.out] at hcol
      have hlen : zs.length + 1 = (List.replicate (k + 1) (-1 : Int)).length := by rw [HZ.out]; simp
      rw [hlen]
      have HC := Lib.hid hcol
      clear hcol hlen hown hg
      go_wp2_with (fail)
      go_roundw
      case rel => exact ⟨k + 1, _, _, by omega, by go_num, rfl, HC.out⟩
      case measure => simp [intOf]; omega
    · have hkn : k = 4 := by omega
      subst hkn
      have HP := Lib.hid hr'
      clear hr'
      go_wp2_with (fail)
      go_ret
      exact ⟨_, _, rfl, HP.out.own, HP.out.below⟩

set_option maxHeartbeats 1000000 in
set_option maxRecDepth 100000 in
theorem l3Try_any (v0 v v3 : Value) (fs : List LFact) (ls : List LLit) (bs : List Int) (R : Bool) (hR : R = ls.all fun l => litHolds fs l bs) (w : World) (h1 : RdFacts w w.heap.size v0 fs) (h2 : RdLits w w.heap.size v ls) (h3 : RdInts w w.heap.size v3 bs)
    (hb : bs.length = 4) (ht : ∀ l ∈ ls, l.2.2.all termOk = true) (hn : fs.length ≤ 1048576) (htt : tot fs ≤ 1048576) (hl : ls.length ≤ 1048576) (hr : totL ls ≤ 1048576) :
    Calls Tryz.prog 161 #[v0, v, v3] w fun e w' => e = .returned (.bool R) ∧ Below w.heap.size w w' := by
  have H1 := Lib.hid h1
  have H2 := Lib.hid h2
  have H3 := Lib.hid h3
  have HT := Lib.hid ht
  have HB := Lib.hid hb
  have HR := Lib.hid hR
  obtain ⟨A1, c1, rfl, hc1, _⟩ := h1
  obtain ⟨A, c, rfl, hc, _⟩ := h2
  obtain ⟨A3, c3, rfl, hc3, _⟩ := h3
  clear hR ht hb
  go_enter Tryz.func161, Tryz.ntmps161
  go_wp2_with (fail)
  go_loopw [7] (fun i wr => ∃ k : Nat, k ≤ ls.length ∧ i = .int .i64 k ∧ (∀ j (h : j < ls.length), j < k → litHolds fs ls[j] bs = true) ∧ Below w.heap.size w wr) (fun i _ => ls.length - (intOf i).toNat)
  case atStart => exact ⟨0, Nat.zero_le _, rfl, fun j _ h => absurd h (by omega), Below.refl _ _⟩
  case round =>
    obtain ⟨k, hk, rfl, hs, hbe⟩ := hrel
    by_cases hlt : k < ls.length
    · obtain ⟨b, o, u0, u1, u2, rfl, hbB, k0, k1, k2, rfl, rfl, p3⟩ := (H2.out.on hbe).get hlt
      have hln := len_le_totL ls k hlt
      have hlen : ls[k].2.2.length ≤ 1048576 := by omega
      have htk := HT.out _ (List.getElem_mem hlt)
      have hRL : RdLit wr wr.heap.size (.agg #[.int .i64 ls[k].1, .int .i64 ls[k].2.1, u2]) ls[k] := ⟨_, rfl, p3⟩
      obtain ⟨A4, c4, rfl, hc4, _⟩ := p3
      have CH := Lib.hid (l3Holds_any _ _ _ fs ls[k] bs wr (H1.out.on hbe) hRL (H3.out.on hbe) HB.out htk hn htt hlen)
      have HS := Lib.hid hs
      have HBE := Lib.hid hbe
      clear hRL hs hbe htk
      cases hh : litHolds fs ls[k] bs
      · rw [hh] at CH
        have HE := Lib.hid (show R = false by
          rw [HR.out, List.all_eq_false]
          exact ⟨ls[k], List.getElem_mem hlt, by rw [hh]; simp⟩)
        go_wp2_with (go_at_call 138; refine CH.out.mono ?_; rintro e w2 ⟨rfl, hb2⟩; have HB2 := Lib.hid hb2; clear hb2)
        go_ret
        exact ⟨ret_bool HE.out.symm, bthen HBE.out HB2.out⟩
      · rw [hh] at CH
        have HH := Lib.hid hh
        clear hh
        go_wp2_with (go_at_call 138; refine CH.out.mono ?_; rintro e w2 ⟨rfl, hb2⟩; have HB2 := Lib.hid hb2; clear hb2)
        go_roundw
        case rel => exact ⟨k + 1, by omega, by go_num, fun j h hj => by
          by_cases e : j = k
          · subst e; exact HH.out
          · exact HS.out j h (by omega), bthen HBE.out HB2.out⟩
        case measure => simp [intOf]; omega
    · have HE := Lib.hid (show R = true by
        rw [HR.out, List.all_eq_true]
        intro l hl
        obtain ⟨j, hj, rfl⟩ := List.getElem_of_mem hl
        exact hs j hj (by omega))
      have HBE := Lib.hid hbe
      clear hs hbe
      go_wp2_with (fail)
      go_ret
      exact ⟨ret_bool HE.out.symm, HBE.out⟩

end Go.Proofs.YtokmmloakahkhaaGreatDoor
/-
  The walk of DrawMatch.
-/
namespace Go.Proofs.YtokmmloakahkhaaGreatDoor
open Go.RowKit

theorem RdBytes.onM {w w' : World} {v : Value} {bs : List Nat} (h : RdBytes w w.heap.size v bs) (hb : Below w.heap.size w w') : RdBytes w' w'.heap.size v bs := by
  obtain ⟨A, c, rfl, hc, hx⟩ := h.off (w' := w') (fun k hk => hb.block k hk)
  refine ⟨A, c, rfl, hc, fun hn => ?_⟩
  obtain ⟨b, o, rfl, hlt, hk⟩ := hx hn
  exact ⟨b, o, rfl, by have := hb.size; omega, hk⟩

/-- What the loop of DrawMatch keeps: bf is the fact's block, its arguments lie from base on, g is the reader. -/
structure DrM2 (w w0 wr : World) (g bf base : Nat) (bs : List Nat) (q : Nat) (p : Int) (A : Option Addr) (c : Nat) (zs : List Int) : Prop where
  keep : ∀ b, b < base → b ≠ bf → b ≠ g → wr.heap[b]? = w0.heap[b]?
  fact : Blk wr bf 41 #[.int .i64 p, .slice A zs.length c]
  own : wr.ownsRow base 3 1 (.slice A zs.length c) zs.length (zs.map (Value.int .i64))
  rdr : Rdr wr g bs q
  below : Below w.heap.size w wr
  size : base ≤ wr.heap.size
section
variable {w w0 wr w' w4 : World} {g bf base q : Nat} {bs : List Nat} {p : Int} {A : Option Addr} {c : Nat} {zs : List Int}
theorem DrM2.pick (h : DrM2 w w0 wr g bf base bs q p A c zs) (hg : g < base) (hb : bf < base) (hne : bf ≠ g) (hw : w.heap.size ≤ g) (hk : Picked wr w' g bs q) : DrM2 w w0 w' g bf base bs (q + 1) p A c zs :=
  ⟨fun b h1 h2 h3 => (hk.2.block b (Nat.lt_of_lt_of_le h1 h.size) (by omega)).trans (h.keep b h1 h2 h3), h.fact.only hk.2 (by omega), ownsRow_only h.own (fun b hb' => hk.2.block b (h.own.lt b hb').2 (by have := (h.own.lt b hb').1; omega)),
    hk.1, Only.then_ h.below hk.2 hw, Nat.le_trans h.size hk.2.size⟩
theorem DrM2.alloc (h : DrM2 w w0 wr g bf base bs q p A c zs) (o : Obj) : DrM2 w w0 (wr.alloc o) g bf base bs q p A c zs :=
  ⟨fun b h1 h2 h3 => (Below.heap_alloc wr o b (Nat.lt_of_lt_of_le h1 h.size)).trans (h.keep b h1 h2 h3), h.fact.alloc o, h.own.alloc o, h.rdr.below (below1 wr o) h.rdr.lt, bthen h.below (below1 wr o), by have := h.size; simp; omega⟩
theorem DrM2.push (h : DrM2 w w0 wr g bf base bs q p A c zs) (hg : g < base) (hb : bf < base) (hgb : g < bf) (hw : w.heap.size ≤ bf) (hgr : wr.grownBy w4 (Value.slice A zs.length c).ownBlock) {g2 cap : Nat} {x : Int}
    (hown : w4.ownsRow base 3 1 (.slice (some ⟨g2, 0, none⟩) (zs.length + 1) cap) (zs.length + 1) (zs.map (Value.int .i64) ++ [.int .i64 x])) :
    DrM2 w w0 (w4.setCell ⟨bf, 1, none⟩ (.slice (some ⟨g2, 0, none⟩) (zs.length + 1) cap)) g bf base bs q p (some ⟨g2, 0, none⟩) cap (zs ++ [x]) := by
  have hlow : ∀ b, b < base → w4.heap[b]? = wr.heap[b]? := fun b hb' => hgr.block b (Nat.lt_of_lt_of_le hb' h.size) (fun e => by have := (h.own.lt b e.symm).1; omega)
  have hset : ∀ b, b ≠ bf → (w4.setCell ⟨bf, 1, none⟩ (.slice (some ⟨g2, 0, none⟩) (zs.length + 1) cap)).heap[b]? = w4.heap[b]? := fun b hb' => Below.heap_setCell _ _ _ _ hb'
  have hl : (zs ++ [x]).length = zs.length + 1 := by simp
  refine ⟨fun b h1 h2 h3 => (hset b h2).trans ((hlow b h1).trans (h.keep b h1 h2 h3)), ?_, ?_, ?_, ?_, Nat.le_trans h.size (Nat.le_trans hgr.size (by simp))⟩
  · have := (show Blk w4 bf 41 _ from (hlow bf hb).trans h.fact).set_ 1 (.slice (some ⟨g2, 0, none⟩) (zs.length + 1) cap)
    rw [hl]
    simpa using this
  · rw [hl]
    have := ownsRow_only hown (fun b hb' => hset b (by have := (hown.lt b hb').1; omega))
    simpa using this
  · exact h.rdr.same fun k hk => (hset k (by omega)).trans (hlow k (by omega))
  · exact (h.below.trans ⟨hgr.os, hgr.tape, hgr.output, hgr.size, fun k hk => hlow k (by omega)⟩).setCell hw _
theorem DrM2.keepFact (h : DrM2 w w0 wr g bf base bs q p A c zs) (hb : bf < base) (hgr : wr.grownBy w4 (Value.slice A zs.length c).ownBlock) : Blk w4 bf 41 #[.int .i64 p, .slice A zs.length c] :=
  (hgr.block bf h.fact.lt (fun e => by have := (h.own.lt bf e.symm).1; omega)).trans h.fact
theorem DrM2.old {lo hi : Nat} {v : Value} {xs : List Int} (h : DrM2 w w0 wr g bf base bs q p A c zs) (ho : OwnInts w0 lo hi v xs) (h1 : g < lo) (h2 : hi ≤ bf ∨ bf < lo) (h3 : hi ≤ base) : OwnInts wr lo hi v xs :=
  ho.kept fun b hb => by
    have := ho.lt hb
    exact h.keep b (by omega) (by omega) (by omega)
theorem DrM2.ints (h : DrM2 w w0 wr g bf base bs q p A c zs) : OwnInts wr base wr.heap.size (.slice A zs.length c) zs := ⟨h.own, fun b hb => (h.own.lt b hb).2⟩
end

/-- What the two results' stores leave. -/
theorem matchDone {w W : World} {ra rb lo hi : Nat} {ta tb : TypeId} {a f : LFact} {va vf vb : Value} {ys : List Int} (RA : Blk W ra ta #[.int .i64 0, .slice none 0 0]) (RB : Blk W rb tb #[.int .i64 0, .slice none 0 0]) (hab : ra ≠ rb) (B : Below w.heap.size w W) (h1 : w.heap.size ≤ ra) (h2 : w.heap.size ≤ rb)
    (ha : ra < lo) (hb : rb < lo) (oa : OwnInts W lo hi va a.2) (of : OwnInts W lo hi vf f.2) (ob : OwnInts W lo hi vb ys) (hh : hi ≤ W.heap.size) {Wf : World} (hW : Wf = (((W.setCell ⟨ra, 0, none⟩ (.int .i64 a.1)).setCell ⟨ra, 1, none⟩ va).setCell ⟨rb, 0, none⟩ (.int .i64 f.1)).setCell ⟨rb, 1, none⟩ vf) :
    Wf.cell? ⟨ra, 0, none⟩ = some (.int .i64 a.1) ∧ Wf.cell? ⟨ra, 1, none⟩ = some va ∧ Wf.cell? ⟨rb, 0, none⟩ = some (.int .i64 f.1) ∧ Wf.cell? ⟨rb, 1, none⟩ = some vf ∧
    RdInts Wf Wf.heap.size va a.2 ∧ RdInts Wf Wf.heap.size vf f.2 ∧ RdInts Wf Wf.heap.size vb ys ∧ Below w.heap.size w Wf := by
  subst hW
  have A2 := (RA.set_ 0 (.int .i64 a.1)).set_ 1 va
  have B2 := (((RB.far (p := ⟨ra, 0, none⟩) (fun e => hab e.symm) (.int .i64 a.1)).far (p := ⟨ra, 1, none⟩) (fun e => hab e.symm) va).set_ 0 (.int .i64 f.1)).set_ 1 vf
  have A3 := (A2.far (p := ⟨rb, 0, none⟩) hab (.int .i64 f.1)).far (p := ⟨rb, 1, none⟩) hab vf
  have rows : ∀ {v : Value} {xs : List Int}, OwnInts W lo hi v xs → RdInts ((((W.setCell ⟨ra, 0, none⟩ (.int .i64 a.1)).setCell ⟨ra, 1, none⟩ va).setCell ⟨rb, 0, none⟩ (.int .i64 f.1)).setCell ⟨rb, 1, none⟩ vf) ((((W.setCell ⟨ra, 0, none⟩ (.int .i64 a.1)).setCell ⟨ra, 1, none⟩ va).setCell ⟨rb, 0, none⟩ (.int .i64 f.1)).setCell ⟨rb, 1, none⟩ vf).heap.size v xs := fun h =>
    ((((h.set (p := ⟨ra, 0, none⟩) (.inl ha) _).set (p := ⟨ra, 1, none⟩) (.inl ha) _).set (p := ⟨rb, 0, none⟩) (.inl hb) _).set (p := ⟨rb, 1, none⟩) (.inl hb) _).rd.more (by simpa using hh)
  refine ⟨by rw [A3.cell 0]; simp, by rw [A3.cell 1]; simp, by rw [B2.cell 0]; simp, by rw [B2.cell 1]; simp, rows oa, rows of, rows ob, ?_⟩
  exact (((B.setCell h1 _).setCell h1 _).setCell h2 _).setCell h2 _

end Go.Proofs.YtokmmloakahkhaaGreatDoor
/-
  The walk of DrawProgramOk.
-/
namespace Go.Proofs.YtokmmloakahkhaaGreatDoor
open Go.RowKit

theorem szP_es {ar : List Int} {es : List Ent} (h : AnyOk ar es) : szP (ar, es.map (·.1)) ≤ 100 := by
  obtain ⟨_, h2, _, _, h5, h6⟩ := h
  have hr : ∀ l : List Ent, (∀ e ∈ l, e.1.1.2.length ≤ 3 ∧ e.1.2.length ≤ 4 ∧ totL e.1.2 ≤ 8 ∧ KindsOk e.1.2) → totR (l.map (·.1)) ≤ l.length * 15 := fun l => by
    induction l with
    | nil => intro _; simp [totR]
    | cons e l ih =>
      intro h
      have h1 := ih fun x hx => h x (List.mem_cons_of_mem _ hx)
      obtain ⟨h2, h3, h4, _⟩ := h e (List.mem_cons_self ..)
      have e1 : totR ((e :: l).map (·.1)) = szR e.1 + totR (l.map (·.1)) := by simp [totR]
      rw [e1, List.length_cons]
      unfold szR
      omega
  have := hr es h6
  unfold szP
  rw [List.length_map]
  show ar.length + (es.length + totR (es.map (·.1))) ≤ 100
  omega

end Go.Proofs.YtokmmloakahkhaaGreatDoor
/-
  The draws of DrawLinksOf, DrawGroupsOf, DrawLayersOf, DrawRecursive: programs that lie apart from what was.
-/
namespace Go.Proofs.YtokmmloakahkhaaGreatDoor
open Go.RowKit

/-- A drawn program: in blocks of the call's own. -/
def DrawnP (lo : Nat) (w : World) (v : Value) (p : LProg) : Prop :=
  ∃ (A Ar : Option Addr) (c cr B : Nat) (es : List Ent), v = .agg #[.slice A p.1.length c, .slice Ar es.length cr] ∧ es.map (·.1) = p.2 ∧ AnyOk p.1 es ∧ lo ≤ B ∧ B ≤ w.heap.size ∧ OwnInts w lo B (.slice A p.1.length c) p.1 ∧ RowR B w es Ar cr
section
variable {lo lo' : Nat} {w w' : World} {v : Value} {p : LProg}
theorem DrawnP.keep (h : DrawnP lo w v p) (hs : w.heap.size ≤ w'.heap.size) (hk : ∀ k, lo ≤ k → k < w.heap.size → w'.heap[k]? = w.heap[k]?) : DrawnP lo w' v p := by
  obtain ⟨A, Ar, c, cr, B, es, e1, e2, e3, e4, e5, e6, e7⟩ := h
  exact ⟨A, Ar, c, cr, B, es, e1, e2, e3, e4, Nat.le_trans e5 hs, e6.keep fun k k1 k2 => hk k k1 (by omega), e7.keep hs fun k k1 k2 => hk k (by omega) k2⟩
theorem DrawnP.mono (h : DrawnP lo w v p) (hl : lo' ≤ lo) : DrawnP lo' w v p := by
  obtain ⟨A, Ar, c, cr, B, es, e1, e2, e3, e4, e5, e6, e7⟩ := h
  exact ⟨A, Ar, c, cr, B, es, e1, e2, e3, Nat.le_trans hl e4, e5, e6.mono hl (Nat.le_refl _), e7⟩
theorem DrawnP.sz (h : DrawnP lo w v p) : szP p ≤ 100 := by
  obtain ⟨A, Ar, c, cr, B, es, e1, e2, e3, _⟩ := h
  have := szP_es e3
  rw [e2] at this
  exact this
theorem DrawnP.kinds (h : DrawnP lo w v p) : ∀ r ∈ p.2, KindsOk r.2 := by
  obtain ⟨A, Ar, c, cr, B, es, e1, e2, e3, _⟩ := h
  intro r hr
  rw [← e2] at hr
  obtain ⟨e, he, rfl⟩ := List.mem_map.1 hr
  exact (e3.2.2.2.2.2 e he).2.2.2
theorem DrawnP.rd (h : DrawnP lo w v p) : ∃ (A A2 : Option Addr) (c c2 : Nat), v = .agg #[.slice A p.1.length c, .slice A2 p.2.length c2] ∧ RdInts w w.heap.size (.slice A p.1.length c) p.1 ∧ RdRules w w.heap.size (.slice A2 p.2.length c2) p.2 := by
  obtain ⟨A, Ar, c, cr, B, es, e1, e2, e3, e4, e5, e6, e7⟩ := h
  have hl : es.length = p.2.length := by rw [← e2]; simp
  refine ⟨A, Ar, c, cr, by rw [e1, hl], (e6.mono (Nat.le_refl _) e5).rd, ?_⟩
  have := e7.rules.rd
  rw [e2, hl] at this
  exact this
end

end Go.Proofs.YtokmmloakahkhaaGreatDoor
/-
  The walk of the specification's FactOk.
-/
namespace Go.Proofs.YtokmmloakahkhaaGreatDoor
open Go.RowKit

set_option maxHeartbeats 400000 in
set_option maxRecDepth 100000 in
theorem specFactOk_any (v v2 : Value) (ar : List Int) (f : LFact) (w : World) (h : RdInts w w.heap.size v ar) (h2 : RdFact w w.heap.size v2 f) (hr : ar.length ≤ 1048576) (hn : f.2.length ≤ 1048576) :
    Calls Tryz.prog 79 #[v, v2] w fun e w' => e = .returned (.bool (factOk ar f)) ∧ Below w.heap.size w w' := by
  have H := Lib.hid h
  have H2 := Lib.hid h2
  obtain ⟨pp, xs⟩ := f
  obtain ⟨A, c, rfl, hc, h⟩ := h
  obtain ⟨a, rfl, A2, c2, rfl, hc2, h2⟩ := h2
  by_cases ha : arityOk ar = true
  · have CA : ∀ W, Below w.heap.size w W → Calls Tryz.prog 39 #[.slice A ar.length c] W fun e w' => e = .returned (.bool true) ∧ w' = W := fun W hW =>
      (specArityOk_any _ ar W (H.out.on hW) (by omega)).mono fun e w' ⟨he, hw⟩ => ⟨by rw [he, ha], hw.symm⟩
    have HCA := Lib.hid CA
    have HA := Lib.hid ha
    clear CA ha
    by_cases hp : 0 ≤ pp ∧ pp ≤ (ar.length : Int) - 1
    · have HCL := Lib.hid (l1In_yes hp)
      obtain ⟨p, rfl⟩ := Int.eq_ofNat_of_zero_le hp.1
      have hlt : p < ar.length := by omega
      have hltI : (p : Int) < (ar.length : Int) := by omega
      obtain ⟨b, o, rfl, hbB, hx⟩ := h (by omega)
      have hck : ∀ O, (w.alloc O).cell? ⟨b, o + p, none⟩ = some (.int .i64 ar[p]) := fun O => (World.cell?_alloc_lt w O ⟨b, o + p, none⟩ hbB).trans (hx p hlt)
      clear hp
      by_cases h3 : (xs.length : Int) = ar[p]
      · have hd3 : ((xs.length : Int) != ar[p]) = false := by simp [h3]
        have H3 := Lib.hid (show factOk ar ((p : Int), xs) = xs.all constOk by simp [factOk, HA.out, factFits, hlt, h3])
        clear h3 hx h
        go_enter Tryz.func79, Tryz.ntmps79
        go_wp2_with (fail)
        go_quiet (first | (go_at_call 39; exact Calls.quiet_of_same (HCA.out _ (bdrewN (below1 _ _) _))) | (go_at_call 55; exact quiet_left (HCL.out _)))
        go_wp2_with (fail)
        obtain ⟨w1, hw1⟩ : ∃ w1, w1 = (w.alloc (Obj.cells #[Value.int IntKind.i64 ↑p, Value.slice A2 xs.length c2] 41)).drewN nq := ⟨_, rfl⟩
        rw [← hw1]
        have hbe : Below w.heap.size w w1 := by rw [hw1]; exact bdrewN (below1 _ _) _
        have hblk : Blk w1 w.heap.size 41 #[.int .i64 p, .slice A2 xs.length c2] := by rw [hw1]; exact (Blk.new w _ _).drewN _
        have hc1 : w1.cell? ⟨w.heap.size, 1, none⟩ = some (.slice A2 xs.length c2) := hblk.cell 1
        clear hw1 hck
        go_loop [5] (fun i => ∃ k : Nat, k ≤ xs.length ∧ i = .int .i64 k ∧ ConstsTo xs k) (fun i => xs.length - (intOf i).toNat)
        case atStart => exact ⟨0, Nat.zero_le _, rfl, fun j hj => absurd hj (by omega)⟩
        case round =>
          obtain ⟨k, hk, rfl, hs⟩ := hrel
          by_cases hlk : k < xs.length
          · obtain ⟨b2, o2, rfl, hbB2, hx2⟩ := h2 (by show 0 < xs.length; omega)
            have hck2 : w1.cell? ⟨b2, o2 + k, none⟩ = some (.int .i64 xs[k]) := (hbe.cell (p := ⟨b2, o2 + k, none⟩) hbB2).trans (hx2 k hlk)
            clear hx2 h2
            by_cases he : 0 ≤ xs[k] ∧ xs[k] ≤ 5
            · have HS := Lib.hid (hs.step (by simpa [hlk, constOk] using he))
              have HK := Lib.hid (l1In_yes he)
              clear hs he
              go_wp2_with (go_at_call 55; refine (HK.out _).mono ?_; rintro e w' ⟨rfl, rfl⟩)
              go_round
              case rel => exact ⟨k + 1, by omega, by go_num, HS.out⟩
              case measure => simp [intOf]; omega
            · have HE := Lib.hid (consts_not hlk (by simpa [constOk] using he))
              have HK := Lib.hid (l1In_no he)
              clear hs he
              go_wp2_with (go_at_call 55; refine (HK.out _).mono ?_; rintro e w' ⟨rfl, rfl⟩)
              go_ret
              exact ⟨ret_bool (by rw [H3.out, HE.out]), hbe⟩
          · have hkn : k = xs.length := by omega
            have HE := Lib.hid (show xs.all constOk = true from ConstsTo.all (by rw [← hkn]; exact hs))
            clear hkn hs h2
            go_wp2_with (fail)
            go_ret
            exact ⟨ret_bool (by rw [H3.out, HE.out]), hbe⟩
      · have hd3 : ((xs.length : Int) != ar[p]) = true := by simp [h3]
        have HE := Lib.hid (show factOk ar ((p : Int), xs) = false by simp [factOk, factFits, hlt, h3])
        clear h3 hx h
        go_enter Tryz.func79, Tryz.ntmps79
        go_wp2_with (fail)
        go_quiet (first | (go_at_call 39; exact Calls.quiet_of_same (HCA.out _ (bdrewN (below1 _ _) _))) | (go_at_call 55; exact quiet_left (HCL.out _)))
        go_wp2_with (fail)
        go_ret
        exact ⟨ret_bool HE.out.symm, bdrewN (below1 _ _) _⟩
    · have HCL := Lib.hid (l1In_no hp)
      have HE := Lib.hid (show factOk ar (pp, xs) = false by simp [factOk, factFits]; omega)
      clear hp
      go_enter Tryz.func79, Tryz.ntmps79
      go_wp2_with (fail)
      go_quiet (first | (go_at_call 39; exact Calls.quiet_of_same (HCA.out _ (bdrewN (below1 _ _) _))) | (go_at_call 55; exact quiet_left (HCL.out _)))
      go_wp2_with (fail)
      go_ret
      exact ⟨ret_bool HE.out.symm, bdrewN (below1 _ _) _⟩
  · have CA : ∀ W, Below w.heap.size w W → Calls Tryz.prog 39 #[.slice A ar.length c] W fun e w' => e = .returned (.bool false) ∧ w' = W := fun W hW =>
      (specArityOk_any _ ar W (H.out.on hW) (by omega)).mono fun e w' ⟨he, hw⟩ => ⟨by rw [he, show arityOk ar = false by simpa using ha], hw.symm⟩
    have HCA := Lib.hid CA
    have HE := Lib.hid (show factOk ar (pp, xs) = false by simp [factOk, ha])
    clear CA ha
    go_enter Tryz.func79, Tryz.ntmps79
    go_wp2_with (fail)
    go_quiet (first | (go_at_call 39; exact Calls.quiet_of_same (HCA.out _ (bdrewN (below1 _ _) _))))
    go_wp2_with (fail)
    go_ret
    exact ⟨ret_bool HE.out.symm, bdrewN (below1 _ _) _⟩

end Go.Proofs.YtokmmloakahkhaaGreatDoor
/-
  The walk of the specification's FactsWith.
-/
namespace Go.Proofs.YtokmmloakahkhaaGreatDoor
open Go.RowKit

/-- append of one copied fact onto the row that a loop collects. -/
theorem wpList_push {ops : Array Oper} {rest : List Oper} {op : Oper} {a : Act} {Q : Exit → Act → World → Prop} (hgd : op.guard = none) (s x : Operand)
    (ho : op.op = .call { callee := .builtin .append, args := #[s, x], argTypes := #[27, 27] })
    {w wr w2 : World} {gs : List LFact} {A A4 : Option Addr} {c c4 : Nat} {av : List Value} {f : LFact} (h : ColRel w wr gs A c av) (hb : Below wr.heap.size wr w2) (ha : OwnInts w2 wr.heap.size w2.heap.size (.slice A4 f.2.length c4) f.2)
    {n : Nat} (hnl : n = gs.length) (hs : a.eval s = .slice A n c) (hx : a.eval x = .slice (some ⟨w2.heap.size, 0, none⟩) 1 1) (hn : gs.length ≤ 1073741824)
    (K : ∀ g cap w4 av', ColRel w w4 (gs ++ [f]) (some ⟨g, 0, none⟩) cap av' → w2.grownBy w4 (Value.slice A gs.length c).ownBlock → wpList Tryz.prog ops Q rest (a.put op.dst (.slice (some ⟨g, 0, none⟩) (n + 1) cap)) w4) :
    wpList Tryz.prog ops Q (op :: rest) a (w2.alloc (.cells #[.int .i64 f.1, .slice A4 f.2.length c4] 41)) := by
  subst hnl
  obtain ⟨i0, hi0, hz0, hz1, hz2⟩ := info_parts Tryz.infoFact
  refine wpList_append_lies _ hgd s x 27 ho w.heap.size 41 i0 (.agg #[.int .i64 0, .slice none 0 0]) 2 32 Tryz.underlying27 hi0 hz0 hz1 hz2 rfl (by decide) (.slice A gs.length c) gs.length (flat gs av) hs ?_ ⟨w2.heap.size, 0, none⟩ 1 1 [.int .i64 f.1, .slice A4 f.2.length c4] hx rfl (news2 _ _ _ _) ?_ (by omega) (by unfold maxLen; omega) (by omega) ?_ _ rfl ?_
  · exact (ownsRow_below h.own.row h.own.lt hb (Nat.le_refl _)).alloc _
  · intro u hu
    simp at hu
    rcases hu with rfl | rfl <;> rfl
  · have := h.below.size
    have := hb.size
    simp
    omega
  intro g cap w4 hown hg _ _
  obtain ⟨av', hcol, _⟩ := h.push rfl hb ha hg hown
  exact K g cap w4 av' hcol (grown_from_alloc hg)

def withStep (f : LFact) (s : List LFact × Bool) (g : LFact) : List LFact × Bool :=
  ((if s.2 = false ∧ factOrder f g ≤ 0 then s.1 ++ [f] else s.1) ++ (if factOrder f g = 0 then [] else [g]), s.2 || decide (factOrder f g ≤ 0))
def withTo (fs : List LFact) (f : LFact) (k : Nat) : List LFact × Bool := (fs.take k).foldl (withStep f) ([], false)
def factsWith (fs : List LFact) (f : LFact) : List LFact := if (withTo fs f fs.length).2 then (withTo fs f fs.length).1 else (withTo fs f fs.length).1 ++ [f]
theorem withTo_step {fs : List LFact} {f : LFact} {k : Nat} (h : k < fs.length) : withTo fs f (k + 1) = withStep f (withTo fs f k) fs[k] := by
  unfold withTo
  rw [take_snoc fs k h, List.foldl_append]
  rfl
theorem withTo_bound (fs : List LFact) (f : LFact) : ∀ k, k ≤ fs.length → (withTo fs f k).1.length ≤ k + (if (withTo fs f k).2 then 1 else 0) ∧ tot (withTo fs f k).1 ≤ tot (fs.take k) + (if (withTo fs f k).2 then f.2.length else 0)
  | 0, _ => by simp [withTo, tot]
  | k + 1, hk => by
    have ih := withTo_bound fs f k (by omega)
    rw [withTo_step (by omega), tot_take fs k (by omega)]
    obtain ⟨h1, h2⟩ := ih
    unfold withStep
    cases hp : (withTo fs f k).2 <;> by_cases h0 : factOrder f fs[k] = 0 <;> by_cases hle : factOrder f fs[k] ≤ 0 <;> simp [hp, h0, hle, tot_append, tot_cons] at h1 h2 ⊢ <;> simp [tot] at h2 ⊢ <;> omega

theorem factsWith_bound (fs : List LFact) (f : LFact) : (factsWith fs f).length ≤ fs.length + 1 ∧ tot (factsWith fs f) ≤ tot fs + f.2.length := by
  have h := withTo_bound fs f fs.length (Nat.le_refl _)
  rw [List.take_length] at h
  unfold factsWith
  cases hp : (withTo fs f fs.length).2 <;> simp [hp, tot_append, tot_cons] at h ⊢ <;> simp [tot] at h ⊢ <;> omega

end Go.Proofs.YtokmmloakahkhaaGreatDoor
/-
  The walk of the specification's FactsWith.
-/
namespace Go.Proofs.YtokmmloakahkhaaGreatDoor
open Go.RowKit

/-- What a loop of FactsWith knows at its head, k facts on. -/
structure WithRel (w1 wr : World) (fs : List LFact) (f : LFact) (k : Nat) (st : List LFact × Bool) (A : Option Addr) (c : Nat) (av : List Value) : Prop where
  col : ColRel w1 wr st.1 A c av
  st : st = withTo fs f k

theorem With.next {fs : List LFact} {f : LFact} {k : Nat} {st st' : List LFact × Bool} (h : st = withTo fs f k) (hk : k < fs.length) (e : st' = withStep f st fs[k]) : st' = withTo fs f (k + 1) := by rw [withTo_step hk, ← h, e]

set_option maxHeartbeats 2000000 in
set_option maxRecDepth 100000 in
theorem specFactsWith_any (v v2 : Value) (fs : List LFact) (f : LFact) (w : World) (h : RdFacts w w.heap.size v fs) (h2 : RdFact w w.heap.size v2 f) (hn : fs.length ≤ 1048576) (ht : tot fs ≤ 1048576) (hf : f.2.length ≤ 1048576) :
    Calls Tryz.prog 126 #[v, v2] w fun e w' => ∃ A' c', e = .returned (.slice A' (factsWith fs f).length c') ∧ OwnFacts w' w.heap.size w'.heap.size (.slice A' (factsWith fs f).length c') (factsWith fs f) ∧ Below w.heap.size w w' := by
  have H := Lib.hid h
  have H2 := Lib.hid h2
  obtain ⟨A, c, rfl, hc, _⟩ := h
  obtain ⟨a, rfl, A2, c2, rfl, hc2, _⟩ := h2
  go_enter Tryz.func126, Tryz.ntmps126
  go_wp2_with (fail)
  obtain ⟨w1, hw1⟩ : ∃ w1, w1 = (w.alloc (Obj.cells #[Value.int IntKind.i64 f.1, Value.slice A2 f.2.length c2] 41)) := ⟨_, rfl⟩
  have B1 : Below w.heap.size w w1 := by rw [hw1]; exact below1 _ _
  have k0 : Blk w1 w.heap.size 41 #[.int .i64 f.1, .slice A2 f.2.length c2] := by rw [hw1]; exact Blk.new w _ _
  have hz1 : w.heap.size + 1 = w1.heap.size := by rw [hw1]; simp
  rw [← hw1]
  clear hw1
  simp only [hz1]
  have HZ := Lib.hid hz1
  clear hz1
  go_loopw [5, 6, 7, 8] (fun o p i _ wr => ∃ (k : Nat) (st : List LFact × Bool) (A' : Option Addr) (c' : Nat) (av : List Value), k ≤ fs.length ∧ i = .int .i64 k ∧ p = .bool st.2 ∧ o = .slice A' st.1.length c' ∧ WithRel w1 wr fs f k st A' c' av) (fun _ _ i _ _ => fs.length - (intOf i).toNat)
  case atStart => exact ⟨0, ([], false), _, 0, [], Nat.zero_le _, rfl, rfl, rfl, ColRel.empty w1, rfl⟩
  case round =>
    obtain ⟨k, ⟨gs, pb⟩, A', c', av, hk, rfl, rfl, rfl, hcol, hst⟩ := hrel
    have hbd := withTo_bound fs f k hk
    rw [← hst] at hbd
    have hgl : gs.length ≤ 2097152 := by have := hbd.1; simp only at this; split at this <;> omega
    clear hbd
    have HST := Lib.hid hst
    clear hst
    by_cases hlt : k < fs.length
    · obtain ⟨b, o, A3, c3, rfl, hbB, k1, k2, k3⟩ := H.out.get hlt
      have hln := len_le_tot fs k hlt
      have K3 := Lib.hid (show RdFact w w.heap.size (.agg #[.int .i64 fs[k].1, .slice A3 fs[k].2.length c3]) fs[k] from ⟨_, rfl, k3⟩)
      have M1 : ∀ W, Below w.heap.size w W → W.cell? ⟨b, o + k * 2, none⟩ = some (.int .i64 fs[k].1) := fun W hW => (hW.cell (p := ⟨b, o + k * 2, none⟩) hbB).trans k1
      have M2 : ∀ W, Below w.heap.size w W → W.cell? ⟨b, o + k * 2 + 1, none⟩ = some (.slice A3 fs[k].2.length c3) := fun W hW => (hW.cell (p := ⟨b, o + k * 2 + 1, none⟩) hbB).trans k2
      have N1 : ∀ W, Below w1.heap.size w1 W → W.cell? ⟨w.heap.size, 0, none⟩ = some (.int .i64 f.1) := fun W hW => (k0.below hW k0.lt).cell 0
      have N2 : ∀ W, Below w1.heap.size w1 W → W.cell? ⟨w.heap.size, 1, none⟩ = some (.slice A2 f.2.length c2) := fun W hW => (k0.below hW k0.lt).cell 1
      have hB := bthen B1 hcol.below
      have L1 := later_cell (M1 _ hB)
      have L2 := later_cell (M2 _ hB)
      have L3 := later_cell (N1 _ hcol.below)
      have L4 := later_cell (N2 _ hcol.below)
      obtain ⟨q, hq⟩ : ∃ q, q = factOrder f fs[k] := ⟨_, rfl⟩
      have CO := Lib.hid (fun x : Later wr => (specFactOrder_any _ _ f fs[k] x.val ((H2.out.on hB).on x.2) ((K3.out.on hB).on x.2) hf (by omega)).mono fun e w' (hh : e = .returned (.int .i64 (factOrder f fs[k])) ∧ Below x.val.heap.size x.val w') => (⟨by rw [hh.1, hq], hh.2⟩ : e = .returned (.int .i64 q) ∧ Below x.val.heap.size x.val w'))
      have HQ := Lib.hid hq
      have HC := Lib.hid hcol
      have HM := Lib.hid (And.intro M1 (And.intro M2 (And.intro N1 N2)))
      clear hq hcol k1 k2 k3 M1 M2 N1 N2
      go_wp2_with (fail)
      refine wp_region_later (by kernel_rfl) (by kernel_rfl) ?_
      repeat (go_big_quiet_step ((go_at_call 80; exact later_of (CO.out _))))
      refine wpQuiet_nil ?_
      rintro _ ⟨xq, rfl⟩
      obtain ⟨w2, hw2⟩ : ∃ w2, w2 = xq.val := ⟨_, rfl⟩
      have hb2 : Below wr.heap.size wr w2 := by rw [hw2]; exact xq.2
      rw [← hw2]
      have HC2 := Lib.hid (HC.out.on hb2)
      clear hw2 L1 L2 L3 L4 CO
      obtain ⟨M1, M2, N1, N2⟩ := HM.out
      have P2 := HC2.out.below
      have hB2 := bthen B1 P2
      have m1 := M1 _ hB2
      have m2 := M2 _ hB2
      have n1 := N1 _ P2
      have n2 := N2 _ P2
      clear M1 M2 N1 N2
      cases pb with
      | true =>
        by_cases hq0 : q = 0
        · have t1 : (q != 0) = false := by simp [hq0]
          have HS := Lib.hid (show ((gs, true) : List LFact × Bool) = withStep f (gs, true) fs[k] by simp [withStep, ← HQ.out, hq0])
          clear hq0
          go_wp2_with (fail)
          go_roundw
          case rel => exact ⟨k + 1, (gs, true), _, _, _, by omega, by go_num, rfl, rfl, ⟨HC2.out, With.next HST.out hlt HS.out⟩⟩
          case measure => simp [intOf]; omega
        · have t1 : (q != 0) = true := by simp [hq0]
          have HS := Lib.hid (show ((gs ++ [fs[k]], true) : List LFact × Bool) = withStep f (gs, true) fs[k] by simp [withStep, ← HQ.out, hq0])
          clear hq0
          go_wp2_with (fail)
          refine (l1Copy_any _ fs[k] _ (K3.out.on hB2) (by omega)).mono ?_
          rintro e w3 ⟨A4, c4, rfl, ho4, hb4⟩
          go_wp2_with (at_builtin; refine wpList_push rfl (.tmp 35) (.tmp 41) rfl HC2.out hb4 ho4 rfl rfl rfl (by omega) ?_; intro g4 cap4 w4 av4 hcol4 hgr4)
          have HC4 := Lib.hid hcol4
          clear hcol4 hgr4
          go_roundw
          case rel => exact ⟨k + 1, (gs ++ [fs[k]], true), _, _, _, by omega, by go_num, rfl, by simp, ⟨HC4.out, With.next HST.out hlt HS.out⟩⟩
          case measure => simp [intOf]; omega
      | false =>
        rcases Int.lt_trichotomy q 0 with hq0 | hq0 | hq0
        · have t1 : (q != 0) = true := by simp; omega
          have t2 : decide (q ≤ 0) = true := by simp; omega
          have HS := Lib.hid (show (((gs ++ [f]) ++ [fs[k]], true) : List LFact × Bool) = withStep f (gs, false) fs[k] by
            have e1 : q ≠ 0 := by omega
            have e2 : q ≤ 0 := by omega
            simp [withStep, ← HQ.out, e1, e2])
          clear hq0
          go_wp2_with (fail)
          refine (l1Copy_any _ f _ (H2.out.on hB2) (by omega)).mono ?_
          rintro e w3 ⟨A4, c4, rfl, ho4, hb4⟩
          go_wp2_with (at_builtin; refine wpList_push rfl (.tmp 28) (.tmp 31) rfl HC2.out hb4 ho4 rfl rfl rfl (by omega) ?_; intro g4 cap4 w4 av4 hcol4 hgr4; have m3 := HM.out.1 _ (bthen B1 hcol4.below); have m4 := HM.out.2.1 _ (bthen B1 hcol4.below); have HC4 := Lib.hid hcol4; clear hcol4 hgr4)
          refine (l1Copy_any _ fs[k] _ (K3.out.on (bthen B1 HC4.out.below)) (by omega)).mono ?_
          rintro e w5 ⟨A6, c6, rfl, ho6, hb6⟩
          go_wp2_with (at_builtin; refine wpList_push rfl (.tmp 35) (.tmp 41) rfl HC4.out hb6 ho6 (by simp) rfl rfl (by simp; omega) ?_; intro g6 cap6 w6 av6 hcol6 hgr6; have HC6 := Lib.hid hcol6; clear hcol6 hgr6)
          go_roundw
          case rel => exact ⟨k + 1, ((gs ++ [f]) ++ [fs[k]], true), _, _, _, by omega, by go_num, rfl, by simp, ⟨HC6.out, With.next HST.out hlt HS.out⟩⟩
          case measure => simp [intOf]; omega
        · have t1 : (q != 0) = false := by simp [hq0]
          have t2 : decide (q ≤ 0) = true := by simp; omega
          have HS := Lib.hid (show ((gs ++ [f], true) : List LFact × Bool) = withStep f (gs, false) fs[k] by simp [withStep, ← HQ.out, hq0])
          clear hq0
          go_wp2_with (fail)
          refine (l1Copy_any _ f _ (H2.out.on hB2) (by omega)).mono ?_
          rintro e w3 ⟨A4, c4, rfl, ho4, hb4⟩
          go_wp2_with (at_builtin; refine wpList_push rfl (.tmp 28) (.tmp 31) rfl HC2.out hb4 ho4 rfl rfl rfl (by omega) ?_; intro g4 cap4 w4 av4 hcol4 hgr4; have HC4 := Lib.hid hcol4; clear hcol4 hgr4)
          go_roundw
          case rel => exact ⟨k + 1, (gs ++ [f], true), _, _, _, by omega, by go_num, rfl, by simp, ⟨HC4.out, With.next HST.out hlt HS.out⟩⟩
          case measure => simp [intOf]; omega
        · have t1 : (q != 0) = true := by simp; omega
          have t2 : decide (q ≤ 0) = false := by simp; omega
          have HS := Lib.hid (show ((gs ++ [fs[k]], false) : List LFact × Bool) = withStep f (gs, false) fs[k] by
            have e1 : q ≠ 0 := by omega
            have e2 : ¬ q ≤ 0 := by omega
            simp [withStep, ← HQ.out, e1, e2])
          clear hq0
          go_wp2_with (fail)
          refine (l1Copy_any _ fs[k] _ (K3.out.on hB2) (by omega)).mono ?_
          rintro e w3 ⟨A4, c4, rfl, ho4, hb4⟩
          go_wp2_with (at_builtin; refine wpList_push rfl (.tmp 35) (.tmp 41) rfl HC2.out hb4 ho4 rfl rfl rfl (by omega) ?_; intro g4 cap4 w4 av4 hcol4 hgr4; have HC4 := Lib.hid hcol4; clear hcol4 hgr4)
          go_roundw
          case rel => exact ⟨k + 1, (gs ++ [fs[k]], false), _, _, _, by omega, by go_num, rfl, by simp, ⟨HC4.out, With.next HST.out hlt HS.out⟩⟩
          case measure => simp [intOf]; omega
    · have hkn : fs.length = k := by omega
      have HB := Lib.hid (bthen B1 hcol.below)
      have hz1 : w.heap.size ≤ w1.heap.size := B1.size
      have n1 : wr.cell? ⟨w.heap.size, 0, none⟩ = some (.int .i64 f.1) := (k0.below hcol.below k0.lt).cell 0
      have n2 : wr.cell? ⟨w.heap.size, 1, none⟩ = some (.slice A2 f.2.length c2) := (k0.below hcol.below k0.lt).cell 1
      have HC := Lib.hid hcol
      cases pb with
      | true =>
        have HE := Lib.hid (show factsWith fs f = gs by unfold factsWith; rw [hkn, ← HST.out]; rfl)
        clear hcol hkn
        go_wp2_with (fail)
        go_ret
        rw [HE.out]
        exact ⟨_, _, rfl, HC.out.own.own.mono hz1 (Nat.le_refl _), HB.out⟩
      | false =>
        have HE := Lib.hid (show factsWith fs f = gs ++ [f] by unfold factsWith; rw [hkn, ← HST.out]; rfl)
        clear hcol hkn
        go_wp2_with (fail)
        refine (l1Copy_any _ f _ (H2.out.on HB.out) (by omega)).mono ?_
        rintro e w3 ⟨A4, c4, rfl, ho4, hb4⟩
        go_wp2_with (at_builtin; refine wpList_push rfl (.tmp 45) (.tmp 48) rfl HC.out hb4 ho4 rfl rfl rfl (by omega) ?_; intro g4 cap4 w4 av4 hcol4 hgr4; have HC4 := Lib.hid hcol4; clear hcol4 hgr4)
        go_ret
        rw [HE.out]
        exact ⟨some ⟨g4, 0, none⟩, cap4, by simp, HC4.out.own.own.mono hz1 (Nat.le_refl _), bthen B1 HC4.out.below⟩

end Go.Proofs.YtokmmloakahkhaaGreatDoor
/-
  No function of the library at facts is laid here. No condition.
-/
namespace Go.Proofs
end Go.Proofs
/-
  append of a slice of facts that is read, nil and empty let in, onto a row of the call's own: the headers are shared.
-/
namespace Go.Proofs.YtokmmloakahkhaaGreatDoor
open Go.RowKit

/-- The headers av read as the facts' rows. -/
def RdArgs (w : World) (B : Nat) (av : List Value) (fs : List LFact) : Prop := av.length = fs.length ∧ ∀ k (_ : k < fs.length) (h' : k < av.length) (h : k < fs.length), RdInts w B av[k] fs[k].2
theorem RdArgs.nil (w : World) (B : Nat) : RdArgs w B [] [] := ⟨rfl, fun k h => absurd h (by simp)⟩
theorem RdArgs.on {w w' : World} {av : List Value} {fs : List LFact} (h : RdArgs w w.heap.size av fs) (hb : Below w.heap.size w w') : RdArgs w' w'.heap.size av fs := ⟨h.1, fun k h1 h2 h3 => (h.2 k h1 h2 h3).on hb⟩
theorem RdArgs.append {w : World} {B : Nat} {av av2 : List Value} {fs fs2 : List LFact} (h : RdArgs w B av fs) (h2 : RdArgs w B av2 fs2) : RdArgs w B (av ++ av2) (fs ++ fs2) := by
  refine ⟨by simp [h.1, h2.1], fun k _ h' hk => ?_⟩
  by_cases e : k < fs.length
  · have e' : k < av.length := by rw [h.1]; exact e
    rw [List.getElem_append_left e', List.getElem_append_left e]
    exact h.2 k e e' e
  · have e' : ¬ k < av.length := by rw [h.1]; exact e
    have l1 := h.1
    simp only [List.length_append] at h' hk
    rw [List.getElem_append_right (by omega), List.getElem_append_right (by omega)]
    have := h2.2 (k - fs.length) (by omega) (by omega) (by omega)
    simpa [l1] using this
theorem flat_append : ∀ (fs : List LFact) (av : List Value) (_ : av.length = fs.length) (fs2 : List LFact) (av2 : List Value), flat (fs ++ fs2) (av ++ av2) = flat fs av ++ flat fs2 av2
  | [], [], _, _, _ => by simp [flat]
  | [], _ :: _, h, _, _ => by simp at h
  | _ :: _, [], h, _, _ => by simp at h
  | f :: fs, a :: av, h, fs2, av2 => by simp [flat, flat_append fs av (by simpa using h) fs2 av2]

/-- What is read at a slice of facts, cell by cell. -/
def CellsAt (w : World) (A : Option Addr) (cs : List Value) : Prop := (A = none → cs = []) ∧ ∀ ad, A = some ad → ∀ j u, cs[j]? = some u → w.cell? (ad.add j) = some u

theorem flat_get (fs : List LFact) (av : List Value) (h : av.length = fs.length) (j : Nat) (u : Value) (hu : (flat fs av)[j]? = some u) :
    ∃ k, ∃ (hk : k < fs.length) (hk' : k < av.length), (j = k * 2 ∧ u = .int .i64 fs[k].1) ∨ (j = k * 2 + 1 ∧ u = av[k]) := by
  have hl := flat_length fs av h
  have hj : j < fs.length * 2 := by
    rcases Nat.lt_or_ge j (fs.length * 2) with h1 | h1
    · exact h1
    · rw [List.getElem?_eq_none (by omega)] at hu
      cases hu
  have hk : j / 2 < fs.length := by omega
  obtain ⟨c0, c1⟩ := flat_at fs av h (j / 2) hk (by omega)
  refine ⟨j / 2, hk, by omega, ?_⟩
  by_cases e : j % 2 = 0
  · left
    have e1 : j = j / 2 * 2 := by omega
    refine ⟨e1, ?_⟩
    rw [e1, c0] at hu
    exact (Option.some.inj hu).symm
  · right
    have e1 : j = j / 2 * 2 + 1 := by omega
    refine ⟨e1, ?_⟩
    rw [e1, c1] at hu
    exact (Option.some.inj hu).symm

theorem RdFacts.heads {w : World} {B : Nat} {v : Value} {fs : List LFact} (h : RdFacts w B v fs) : ∃ A c av, v = .slice A fs.length c ∧ RdArgs w B av fs ∧ CellsAt w A (flat fs av) := by
  obtain ⟨A, c, rfl, hc, h⟩ := h
  rcases Nat.eq_zero_or_pos fs.length with h0 | h0
  · have : fs = [] := List.eq_nil_of_length_eq_zero h0
    subst this
    exact ⟨A, c, [], rfl, RdArgs.nil _ _, fun _ => rfl, fun ad _ j u hu => by simp [flat] at hu⟩
  · obtain ⟨b, o, rfl, hb, hx⟩ := h h0
    let av : List Value := (List.finRange fs.length).map fun k => (hx k.1 k.2).choose
    have hl : av.length = fs.length := by simp [av]
    have hav : ∀ k (h : k < fs.length) (h' : k < av.length), av[k] = (hx k h).choose := fun k h h' => by simp [av]
    refine ⟨_, c, av, rfl, ⟨hl, fun k _ h' hk => ?_⟩, fun e => (by cases e), fun ad e j u hu => ?_⟩
    · rw [hav k hk h']
      exact (hx k hk).choose_spec.2.2
    · injection e with e
      subst e
      obtain ⟨k, hk, hk', h1⟩ := flat_get fs av hl j u hu
      rw [Go.WideShapes.add_plain]
      rcases h1 with ⟨rfl, rfl⟩ | ⟨rfl, rfl⟩
      · exact (hx k hk).choose_spec.1
      · rw [hav k hk hk']
        exact (hx k hk).choose_spec.2.1

theorem flat_one (fs : List LFact) (av : List Value) {w : World} {B : Nat} (h : RdArgs w B av fs) : ∀ u ∈ flat fs av, u.oneCell' = true := by
  intro u hu
  obtain ⟨j, hj, e⟩ := List.getElem_of_mem hu
  obtain ⟨k, hk, hk', h1⟩ := flat_get fs av h.1 j u (by rw [List.getElem?_eq_getElem hj, e])
  rcases h1 with ⟨_, rfl⟩ | ⟨_, rfl⟩
  · rfl
  · obtain ⟨A, c, e, _⟩ := h.2 k hk hk' hk
    rw [e]
    rfl

theorem run_append_facts {P : Program} (w : World) (base : Nat) (t ty e : TypeId) (i : TypeInfo) (z : Value) (bytes : Nat) (ht : P.underlying t = some (.slice e)) (hi : P.info? e = some i) (hz : i.zero = some z)
    (hsize : i.size = 2) (hby : i.bytes = bytes) (hzs : z.cells.size = 2)
    (v : Value) (n : Nat) (xs : List Value) (hown : w.ownsRow base e 2 v n xs) (A : Option Addr) (c : Nat) (fs : List LFact) (av : List Value) (B : Nat) (ha : RdArgs w B av fs) (hx : CellsAt w A (flat fs av))
    (h63 : n + fs.length ≤ maxLen) (hbytes : (n + fs.length) * bytes ≤ 140737488355328) (hbase : base ≤ w.heap.size) :
    ∃ A' c' w', (Builtin.append_ #[t, t] ty #[v, .slice A fs.length c]).run P w = .ok (.slice A' (n + fs.length) c') w' ∧ w'.ownsRow base e 2 (.slice A' (n + fs.length) c') (n + fs.length) (xs ++ flat fs av) ∧ w.grownBy w' v.ownBlock ∧
      ((Value.slice A' (n + fs.length) c').ownBlock = v.ownBlock ∨ (Value.slice A' (n + fs.length) c').ownBlock = some w.heap.size) := by
  have hform : ∀ {w' : World} {v' : Value} {m : Nat} {zs : List Value}, w'.ownsRow base e 2 v' m zs → ∃ A c, v' = .slice A m c := by
    intro w' v' m zs h
    rcases h.2 with ⟨rfl, h0⟩ | ⟨g, cap, _, rfl, _⟩
    · exact ⟨none, 0, by rw [h0]⟩
    · exact ⟨_, _, rfl⟩
  rcases A with _ | ad
  · have h0 := hx.1 rfl
    have hl := flat_length fs av ha.1
    rw [h0] at hl
    have hfs : fs = [] := List.eq_nil_of_length_eq_zero (by simp at hl; omega)
    subst hfs
    obtain ⟨A', c', hv⟩ := hform hown
    refine ⟨A', c', w, ?_, by simpa [flat, ← hv] using hown, World.grownBy.refl w _, .inl (by simp only [List.length_nil, Nat.add_zero]; rw [hv])⟩
    simp only [List.length_nil, Nat.add_zero]
    rw [← hv]
    exact run_append_nilsrc w base t ty e i 2 ht hi v n xs hown c
  · obtain ⟨v', w', hrun, h2, h3, _, h5⟩ := run_append_own_at (P := P) w base t ty e i z 2 bytes ht hi hz hsize hby hzs (by decide) v n xs hown ad fs.length c (flat fs av) (flat_length fs av ha.1) (hx.2 ad rfl)
      (flat_one fs av ha) h63 hbytes hbase
    obtain ⟨A', c', hv⟩ := hform h2
    subst hv
    exact ⟨A', c', w', hrun, h2, h3, h5⟩

theorem wpList_append_facts {P : Program} {w : World} {ops : Array Oper} {rest : List Oper} {o : Oper} {a : Act} {Q : Exit → Act → World → Prop} (hgd : o.guard = none) (s x : Operand) (t : TypeId)
    (ho : o.op = .call { callee := .builtin .append, args := #[s, x], argTypes := #[t, t] })
    (base : Nat) (e : TypeId) (i : TypeInfo) (z : Value) (bytes : Nat) (ht : P.underlying t = some (.slice e)) (hi : P.info? e = some i) (hz : i.zero = some z)
    (hsize : i.size = 2) (hby : i.bytes = bytes) (hzs : z.cells.size = 2)
    (v : Value) (n : Nat) (xs : List Value) (hs : a.eval s = v) (hown : w.ownsRow base e 2 v n xs) (A : Option Addr) (c : Nat) (fs : List LFact) (av : List Value) (B : Nat) (hx : a.eval x = .slice A fs.length c) (ha : RdArgs w B av fs) (hc : CellsAt w A (flat fs av))
    (h63 : n + fs.length ≤ maxLen) (hbytes : (n + fs.length) * bytes ≤ 140737488355328) (hbase : base ≤ w.heap.size)
    (h : ∀ A' c' w', w'.ownsRow base e 2 (.slice A' (n + fs.length) c') (n + fs.length) (xs ++ flat fs av) → w.grownBy w' v.ownBlock →
      ((Value.slice A' (n + fs.length) c').ownBlock = v.ownBlock ∨ (Value.slice A' (n + fs.length) c').ownBlock = some w.heap.size) → wpList P ops Q rest (a.put o.dst (.slice A' (n + fs.length) c')) w') : wpList P ops Q (o :: rest) a w := by
  refine wpList_plain hgd fun _ hK => ?_
  obtain ⟨A', c', w', hrun, h2, h3, h4⟩ := run_append_facts (P := P) w base t o.type e i z bytes ht hi hz hsize hby hzs v n xs hown A c fs av B ha hc h63 hbytes hbase
  unfold Oper.wp execOp
  simp only [ho, resolve, invoke, builtin, Sem.run_bind, Sem.run_pure, Result.andThen_ok, List.map_toArray, List.map_cons, List.map_nil, hs, hx, hrun]
  exact hK _ _ (h A' c' w' h2 h3 h4)

end Go.Proofs.YtokmmloakahkhaaGreatDoor
/-
  slices.Clone at facts: a row of the call's own whose headers are the given ones.
-/
namespace Go.Proofs.YtokmmloakahkhaaGreatDoor
open Go.RowKit

theorem CellsAt.on {w w' : World} {A : Option Addr} {cs : List Value} (h : CellsAt w A cs) (hb : Below w.heap.size w w') : CellsAt w' A cs :=
  ⟨h.1, fun ad e j u hu => (hb.cell (World.block_lt_of_cell? _ _ (h.2 ad e j u hu))).trans (h.2 ad e j u hu)⟩

/-- A row of the call's own, from base on, that holds facts whose headers are av; they read in w. -/
structure RowF (w : World) (base : Nat) (A : Option Addr) (c : Nat) (fs : List LFact) (av : List Value) : Prop where
  row : w.ownsRow base 41 2 (.slice A fs.length c) fs.length (flat fs av)
  rd : RdArgs w w.heap.size av fs

theorem RowF.on {w w' : World} {base : Nat} {A : Option Addr} {c : Nat} {fs : List LFact} {av : List Value} (h : RowF w base A c fs av) (hb : Below w.heap.size w w') : RowF w' base A c fs av :=
  ⟨ownsRow_below h.row (fun g hg => (h.row.lt g hg).2) hb (Nat.le_refl _), h.rd.on hb⟩
theorem RowF.mono {w : World} {base base' : Nat} {A : Option Addr} {c : Nat} {fs : List LFact} {av : List Value} (h : RowF w base A c fs av) (hb : base' ≤ base) : RowF w base' A c fs av := ⟨ownsRow_mono h.row hb, h.rd⟩
theorem RowF.facts {w : World} {base : Nat} {A : Option Addr} {c : Nat} {fs : List LFact} {av : List Value} (h : RowF w base A c fs av) : RdFacts w w.heap.size (.slice A fs.length c) fs := by
  have hcells := @World.ownsRow.cells w base 41 2 (.slice A fs.length c) fs.length (flat fs av) h.row
  have hlt := h.row.lt
  have hl := h.rd.1
  rcases h.row.2 with ⟨e, h0⟩ | ⟨g, cap, cur, e, hb, hgg, hn, _⟩
  · injection e with e1 _ e3
    subst e1
    subst e3
    exact ⟨none, 0, rfl, by omega, fun hp => by omega⟩
  · injection e with e1 _ e3
    subst e1
    subst e3
    refine ⟨_, _, rfl, hn, fun _ => ⟨g, 0, rfl, (hlt g rfl).2, fun k hk => ?_⟩⟩
    obtain ⟨c0, c1⟩ := flat_at fs av hl k hk (by omega)
    have d0 := hcells (g := g) rfl _ _ c0
    have d1 := hcells (g := g) rfl _ _ c1
    rw [Go.WideShapes.add_plain] at d0 d1
    exact ⟨_, d0, d1, h.rd.2 k hk (by omega) hk⟩

theorem facts_eqlSome (ad : Addr) (n c : Nat) (w : World) : (binOp .eql 27 (.slice (some ad) n c) (.slice none 0 0)).run Tryz.prog w = .ok (.bool false) w := by kernel_rfl
theorem facts_eqlNil (n c : Nat) (w : World) : (binOp .eql 27 (.slice none n c) (.slice none 0 0)).run Tryz.prog w = .ok (.bool true) w := by kernel_rfl

end Go.Proofs.YtokmmloakahkhaaGreatDoor
/-
  slices.Grow of the nil slice, slices.Clone, slices.Concat of two slices: at facts.
-/
namespace Go.Proofs.YtokmmloakahkhaaGreatDoor
open Go.RowKit

theorem size_zeroPairs (n : Nat) : (Builtin.zeroCells #[Value.int IntKind.i64 0, Value.slice none 0 0] n).size = n * 2 := by simp [Builtin.zeroCells]

/-- What has been laid behind each other after k of two slices. -/
def joinF (xs ys : List LFact) (k : Nat) : List LFact := if k = 0 then [] else if k = 1 then xs else xs ++ ys
def joinV (xs ys : List Value) (k : Nat) : List Value := if k = 0 then [] else if k = 1 then xs else xs ++ ys
def joinN (n m k : Nat) : Nat := if k = 0 then 0 else if k = 1 then n else n + m

end Go.Proofs.YtokmmloakahkhaaGreatDoor
/-
  FactOrder's contract with its worlds written out: draws on, and blocks behind.
-/
namespace Go.Proofs.YtokmmloakahkhaaGreatDoor
open Go.RowKit Go.Sort

/-- W is w some draws on, with blocks laid behind it. -/
def Gr (w W : World) : Prop := ∃ q os, W = grow (w.drewN q) os
theorem Gr.refl (w : World) : Gr w w := ⟨0, #[], by simp [grow, World.drewN]⟩
theorem Gr.alloc {w W : World} (h : Gr w W) (o : Obj) : Gr w (W.alloc o) := by
  obtain ⟨q, os, rfl⟩ := h
  exact ⟨q, os.push o, by simp [grow, World.alloc]⟩
theorem Gr.drew {w W : World} (h : Gr w W) : Gr w W.drew := by
  obtain ⟨q, os, rfl⟩ := h
  exact ⟨q + 1, os, rfl⟩
theorem Gr.drewN {w W : World} (h : Gr w W) (n : Nat) : Gr w (W.drewN n) := by
  obtain ⟨q, os, rfl⟩ := h
  exact ⟨q + n, os, by simp [grow, World.drewN, Nat.add_assoc]⟩
theorem Gr.trans {w w1 W : World} (h : Gr w w1) (k : Gr w1 W) : Gr w W := by
  obtain ⟨q, os, rfl⟩ := h
  obtain ⟨q', os', rfl⟩ := k
  exact ⟨q + q', os ++ os', by simp [grow, World.drewN, Nat.add_assoc, Array.append_assoc]⟩
theorem Gr.below {w W : World} (h : Gr w W) : Below w.heap.size w W := by
  obtain ⟨q, os, rfl⟩ := h
  exact ⟨rfl, rfl, rfl, by simp [grow, World.drewN], fun k hk => by simp [grow, World.drewN, Array.getElem?_append, hk]⟩

set_option maxHeartbeats 400000 in
set_option maxRecDepth 100000 in
theorem implFactOrder_grow (v v2 : Value) (f g : LFact) (w : World) (h : RdFact w w.heap.size v f) (h2 : RdFact w w.heap.size v2 g) (hn : f.2.length ≤ 1048576) (hn2 : g.2.length ≤ 1048576) :
    Calls Tryz.prog 33 #[v, v2] w fun e w' => e = .returned (.int .i64 (factOrder f g)) ∧ Gr w w' := by
  obtain ⟨a, rfl, h⟩ := h
  have H := Lib.hid h
  obtain ⟨A, c, rfl, hc, _⟩ := h
  obtain ⟨a, rfl, h2⟩ := h2
  have H2 := Lib.hid h2
  obtain ⟨A2, c2, rfl, hc2, _⟩ := h2
  have HF := Lib.hid (factOrder_or f g)
  go_enter Tryz.func33, Tryz.ntmps33
  go_wp2_with (fail)
  obtain ⟨w1, hw1⟩ : ∃ w1, w1 = ((w.alloc (Obj.cells #[Value.int IntKind.i64 f.1, Value.slice A f.2.length c] 41)).alloc (Obj.cells #[Value.int IntKind.i64 g.1, Value.slice A2 g.2.length c2] 41)) := ⟨_, rfl⟩
  have B1 : Gr w w1 := by rw [hw1]; exact ((Gr.refl _).alloc _).alloc _
  have k0 : Blk w1 w.heap.size 41 #[.int .i64 f.1, .slice A f.2.length c] := by rw [hw1]; exact (Blk.new w _ _).alloc _
  have k1 : Blk w1 (w.heap.size + 1) 41 #[.int .i64 g.1, .slice A2 g.2.length c2] := by rw [hw1]; simpa using Blk.new (w.alloc (Obj.cells #[Value.int IntKind.i64 f.1, Value.slice A f.2.length c] 41)) 41 #[.int .i64 g.1, .slice A2 g.2.length c2]
  rw [← hw1]
  clear hw1
  have HS0 := Lib.hid (show ∀ W, Gr w1 W → (Gr w1 W ∧ W.cell? ⟨w.heap.size, 0, none⟩ = some (.int .i64 f.1) ∧ W.cell? ⟨w.heap.size, 1, none⟩ = some (.slice A f.2.length c) ∧ W.cell? ⟨w.heap.size + 1, 0, none⟩ = some (.int .i64 g.1) ∧ W.cell? ⟨w.heap.size + 1, 1, none⟩ = some (.slice A2 g.2.length c2)) from
    fun W hW => ⟨hW, (k0.below hW.below k0.lt).cell 0, (k0.below hW.below k0.lt).cell 1, (k1.below hW.below k1.lt).cell 0, (k1.below hW.below k1.lt).cell 1⟩)
  go_region_held3 (fun W => Gr w1 W ∧ W.cell? ⟨w.heap.size, 0, none⟩ = some (.int .i64 f.1) ∧ W.cell? ⟨w.heap.size, 1, none⟩ = some (.slice A f.2.length c) ∧ W.cell? ⟨w.heap.size + 1, 0, none⟩ = some (.int .i64 g.1) ∧ W.cell? ⟨w.heap.size + 1, 1, none⟩ = some (.slice A2 g.2.length c2))
    (first | assumption | exact HS0.out _ (Gr.refl _) | exact HS0.out _ ((Gr.refl _).alloc _).drew | exact HS0.out _ (Gr.refl _).drew | exact HS0.out _ ((And.left (by assumption) : Gr w1 _).alloc _) | exact HS0.out _ (And.left (by assumption) : Gr w1 _).drew | (refine HS0.out _ ?_; go_goals; fail))
    (first
      | (go_at_call 77; refine (cmpCompare_any _ _ _).mono ?_; rintro e w' ⟨rfl, rfl⟩)
      | (go_at_call 78; refine (slicesCompare_any _ _ f.2 g.2 _ ?_ ?_ (by omega) (by omega)).mono ?_; exact H.out.on (bthen B1.below (And.left (by assumption) : Gr w1 _).below); exact H2.out.on (bthen B1.below (And.left (by assumption) : Gr w1 _).below); rintro e w' ⟨rfl, rfl⟩)
      | (go_at_call 76; refine (cmpOr_any _ (cmpI f.1 g.1) (cmpL f.2 g.2) _ ?_).mono ?_; exact rdInts_pair _ _ _; rintro e w' ⟨rfl, rfl⟩))
  all_goals
    go_wp2_with (fail)
    go_ret
    exact ⟨ret_int HF.out, B1.trans (And.left (by assumption))⟩

end Go.Proofs.YtokmmloakahkhaaGreatDoor
/-
  Facts in order, plain mathematics: the order, lists that ascend, FactsWith on them, and that their members determine them.
-/
namespace Go.Proofs.YtokmmloakahkhaaGreatDoor

theorem cmpI_neg {a b : Int} : cmpI a b < 0 ↔ a < b := by
  unfold cmpI
  split
  · simp; assumption
  · split <;> simp <;> omega
theorem cmpI_pos {a b : Int} : 0 < cmpI a b ↔ b < a := by
  unfold cmpI
  split
  · simp; omega
  · split <;> simp <;> omega
theorem cmpL_eq : ∀ {xs ys : List Int}, cmpL xs ys = 0 → xs = ys
  | [], [], _ => rfl
  | [], _ :: _, h => by simp [cmpL] at h
  | _ :: _, [], h => by simp [cmpL] at h
  | x :: xs, y :: ys, h => by
    unfold cmpL at h
    split at h
    · rename_i e
      rw [e, cmpL_eq h]
    · exact absurd (cmpI_zero h) (by assumption)
theorem cmpL_refl : ∀ xs : List Int, cmpL xs xs = 0
  | [] => rfl
  | x :: xs => by simp [cmpL, cmpL_refl xs]
theorem cmpL_flip : ∀ {xs ys : List Int}, cmpL xs ys < 0 ↔ 0 < cmpL ys xs
  | [], [] => by simp [cmpL]
  | [], _ :: _ => by simp [cmpL]
  | _ :: _, [] => by simp [cmpL]
  | x :: xs, y :: ys => by
    unfold cmpL
    by_cases e : x = y
    · subst e
      simpa using cmpL_flip
    · rw [if_neg e, if_neg (fun h => e h.symm), cmpI_neg, cmpI_pos]
theorem cmpL_less : ∀ {xs ys zs : List Int}, cmpL xs ys < 0 → cmpL ys zs < 0 → cmpL xs zs < 0
  | [], [], _, h, _ => by simp [cmpL] at h
  | [], _ :: _, [], _, h => by simp [cmpL] at h
  | [], _ :: _, _ :: _, _, _ => by simp [cmpL]
  | _ :: _, [], _, h, _ => by simp [cmpL] at h
  | _ :: _, _ :: _, [], _, h => by simp [cmpL] at h
  | x :: xs, y :: ys, z :: zs, h1, h2 => by
    unfold cmpL at h1 h2 ⊢
    by_cases e1 : x = y
    · subst e1
      by_cases e2 : x = z
      · simp only [e2, if_true] at h1 h2 ⊢
        exact cmpL_less h1 h2
      · simpa [e2] using h2
    · by_cases e2 : y = z
      · subst e2
        simpa [e1] using h1
      · rw [if_neg e1] at h1
        rw [if_neg e2] at h2
        rw [cmpI_neg] at h1 h2
        rw [if_neg (by omega), cmpI_neg]
        omega

theorem order_eq {f g : LFact} (h : factOrder f g = 0) : f = g := by
  unfold factOrder at h
  split at h
  · exact Prod.ext (by assumption) (cmpL_eq h)
  · exact absurd (cmpI_zero h) (by assumption)
theorem order_refl (f : LFact) : factOrder f f = 0 := by simp [factOrder, cmpL_refl]
theorem order_flip {f g : LFact} : factOrder f g < 0 ↔ 0 < factOrder g f := by
  unfold factOrder
  by_cases e : f.1 = g.1
  · rw [if_pos e, if_pos e.symm]
    exact cmpL_flip
  · rw [if_neg e, if_neg (fun h => e h.symm), cmpI_neg, cmpI_pos]
theorem order_less {f g h : LFact} (h1 : factOrder f g < 0) (h2 : factOrder g h < 0) : factOrder f h < 0 := by
  unfold factOrder at h1 h2 ⊢
  by_cases e1 : f.1 = g.1
  · by_cases e2 : g.1 = h.1
    · rw [if_pos e1] at h1
      rw [if_pos e2] at h2
      rw [if_pos (e1.trans e2)]
      exact cmpL_less h1 h2
    · rw [if_neg e2] at h2
      rw [if_neg (fun e => e2 (e1.symm.trans e)), e1]
      exact h2
  · by_cases e2 : g.1 = h.1
    · rw [if_neg e1] at h1
      rw [if_neg (fun e => e1 (e.trans e2.symm)), ← e2]
      exact h1
    · rw [if_neg e1, cmpI_neg] at h1
      rw [if_neg e2, cmpI_neg] at h2
      rw [if_neg (by omega), cmpI_neg]
      omega
theorem order_cases (f g : LFact) : factOrder f g < 0 ∨ f = g ∨ factOrder g f < 0 := by
  rcases Int.lt_trichotomy (factOrder f g) 0 with h | h | h
  · exact .inl h
  · exact .inr (.inl (order_eq h))
  · exact .inr (.inr (order_flip.2 h))

/-- The list ascends, each fact once. -/
def Asc (l : List LFact) : Prop := l.Pairwise fun f g => factOrder f g < 0

/-- Lists that ascend and have the same members are the same. -/
theorem Asc.unique : ∀ {l m : List LFact}, Asc l → Asc m → (∀ f, f ∈ l ↔ f ∈ m) → l = m
  | [], [], _, _, _ => rfl
  | [], g :: m, _, _, h => absurd ((h g).2 (List.mem_cons_self ..)) (by simp)
  | f :: l, [], _, _, h => absurd ((h f).1 (List.mem_cons_self ..)) (by simp)
  | f :: l, g :: m, hl, hm, h => by
    have hl' := List.pairwise_cons.1 hl
    have hm' := List.pairwise_cons.1 hm
    have e : f = g := by
      rcases List.mem_cons.1 ((h f).1 (List.mem_cons_self ..)) with e | e
      · exact e
      rcases List.mem_cons.1 ((h g).2 (List.mem_cons_self ..)) with e' | e'
      · exact e'.symm
      have h1 := hm'.1 f e
      have h2 := hl'.1 g e'
      have := order_less h1 h2
      rw [order_refl] at this
      omega
    subst e
    refine congrArg (f :: ·) (Asc.unique hl'.2 hm'.2 fun x => ⟨fun hx => ?_, fun hx => ?_⟩)
    · rcases List.mem_cons.1 ((h x).1 (List.mem_cons_of_mem _ hx)) with e | e
      · subst e
        have := hl'.1 x hx
        rw [order_refl] at this
        omega
      · exact e
    · rcases List.mem_cons.1 ((h x).2 (List.mem_cons_of_mem _ hx)) with e | e
      · subst e
        have := hm'.1 x hx
        rw [order_refl] at this
        omega
      · exact e

/-- Insertion. -/
def ins (f : LFact) : List LFact → List LFact
  | [] => [f]
  | g :: l => if factOrder f g < 0 then f :: g :: l else if factOrder f g = 0 then f :: l else g :: ins f l

theorem ins_mem (f : LFact) : ∀ (l : List LFact) (x : LFact), x ∈ ins f l ↔ x = f ∨ x ∈ l
  | [], x => by simp [ins]
  | g :: l, x => by
    unfold ins
    split
    · simp
    · split
      · have e := order_eq (by assumption : factOrder f g = 0)
        subst e
        simp
      · simp [ins_mem f l x]
        constructor
        · rintro (h | h | h) <;> simp [h]
        · rintro (h | h | h) <;> simp [h]
theorem Asc.ins {f : LFact} : ∀ {l : List LFact}, Asc l → Asc (ins f l)
  | [], _ => by simp [Go.Proofs.YtokmmloakahkhaaGreatDoor.ins, Asc]
  | g :: l, h => by
    have h' := List.pairwise_cons.1 h
    unfold Go.Proofs.YtokmmloakahkhaaGreatDoor.ins
    split
    · rename_i hlt
      refine List.pairwise_cons.2 ⟨fun x hx => ?_, h⟩
      rcases List.mem_cons.1 hx with e | e
      · rw [e]; exact hlt
      · exact order_less hlt (h'.1 x e)
    · split
      · have e := order_eq (by assumption : factOrder f g = 0)
        subst e
        exact h
      · refine List.pairwise_cons.2 ⟨fun x hx => ?_, Asc.ins h'.2⟩
        rcases (ins_mem f l x).1 hx with e | e
        · subst e
          rcases order_cases x g with h1 | h1 | h1
          · exact absurd h1 (by assumption)
          · subst h1
            exact absurd (order_refl x) (by assumption)
          · exact h1
        · exact h'.1 x e

/-- FactsWith's fold, from a state where the fact is placed already and the rest ascends behind it. -/
theorem withStep_placed (f : LFact) : ∀ (l : List LFact) (out : List LFact), (∀ g ∈ l, factOrder f g ≠ 0) → l.foldl (withStep f) (out, true) = (out ++ l, true)
  | [], out, _ => by simp
  | g :: l, out, h => by
    have h0 := h g (List.mem_cons_self ..)
    simp only [List.foldl_cons, withStep]
    simp [h0]
    rw [withStep_placed f l (out ++ [g]) fun x hx => h x (List.mem_cons_of_mem _ hx)]
    simp

def endW (f : LFact) (s : List LFact × Bool) : List LFact := if s.2 then s.1 else s.1 ++ [f]
theorem withStep_fold (f : LFact) : ∀ (l : List LFact) (out : List LFact), Asc l → endW f (l.foldl (withStep f) (out, false)) = out ++ ins f l
  | [], out, _ => by simp [ins, endW]
  | g :: l, out, h => by
    have h' := List.pairwise_cons.1 h
    simp only [List.foldl_cons]
    rcases Int.lt_trichotomy (factOrder f g) 0 with h1 | h1 | h1
    · have e : withStep f (out, false) g = (out ++ [f] ++ [g], true) := by
        simp [withStep, show factOrder f g ≤ 0 by omega, show factOrder f g ≠ 0 by omega]
      rw [e, withStep_placed f l _ fun x hx => by have := order_less h1 (h'.1 x hx); omega]
      simp [ins, h1, endW]
    · have e : withStep f (out, false) g = (out ++ [f], true) := by
        simp [withStep, h1]
      have e2 := order_eq h1
      subst e2
      rw [e, withStep_placed f l _ fun x hx => by have := h'.1 x hx; omega]
      simp [ins, order_refl, endW]
    · have e : withStep f (out, false) g = (out ++ [g], false) := by
        simp [withStep, show ¬ factOrder f g ≤ 0 by omega, show factOrder f g ≠ 0 by omega]
      rw [e, withStep_fold f l _ h'.2]
      simp [ins, show ¬ factOrder f g < 0 by omega, show factOrder f g ≠ 0 by omega]

/-- FactsWith on a list that ascends is insertion. -/
theorem Asc.with_ {l : List LFact} (h : Asc l) (f : LFact) : factsWith l f = Go.Proofs.YtokmmloakahkhaaGreatDoor.ins f l := by
  have := withStep_fold f l [] h
  unfold endW at this
  unfold factsWith withTo
  rw [List.take_length]
  simpa using this

/-- Facts laid into a list, one after another. -/
def setOf (l : List LFact) : List LFact := l.foldl factsWith []
theorem foldWith : ∀ (l : List LFact) (out : List LFact), Asc out → Asc (l.foldl factsWith out) ∧ ∀ x, x ∈ l.foldl factsWith out ↔ x ∈ out ∨ x ∈ l
  | [], out, h => by simpa using h
  | f :: l, out, h => by
    have h1 : Asc (factsWith out f) := by rw [h.with_ f]; exact h.ins
    obtain ⟨h2, h3⟩ := foldWith l _ h1
    refine ⟨h2, fun x => ?_⟩
    rw [List.foldl_cons, h3 x, h.with_ f, ins_mem]
    simp only [List.mem_cons]
    constructor
    · rintro ((h | h) | h) <;> simp [h]
    · rintro (h | h | h) <;> simp [h]
theorem setOf_asc (l : List LFact) : Asc (setOf l) := (foldWith l [] List.Pairwise.nil).1
theorem setOf_mem (l : List LFact) (x : LFact) : x ∈ setOf l ↔ x ∈ l := by
  rw [setOf, (foldWith l [] List.Pairwise.nil).2 x]
  simp

/-- The list ascends, a fact perhaps more than once. -/
def Up (l : List LFact) : Prop := l.Pairwise fun f g => factOrder f g ≤ 0
/-- Of equal neighbours the last one. -/
def compactL : List LFact → List LFact
  | [] => []
  | [f] => [f]
  | f :: g :: l => if factOrder f g = 0 then compactL (g :: l) else f :: compactL (g :: l)
theorem compactL_mem : ∀ (l : List LFact) (x : LFact), x ∈ compactL l ↔ x ∈ l
  | [], x => by simp [compactL]
  | [f], x => by simp [compactL]
  | f :: g :: l, x => by
    unfold compactL
    split
    · have e := order_eq (by assumption : factOrder f g = 0)
      subst e
      rw [compactL_mem (f :: l) x]
      simp
    · rw [List.mem_cons, compactL_mem (g :: l) x]
      simp
theorem Up.asc : ∀ {l : List LFact}, Up l → Asc (compactL l)
  | [], _ => List.Pairwise.nil
  | [f], _ => by simp [compactL, Asc]
  | f :: g :: l, h => by
    have h' := List.pairwise_cons.1 h
    unfold compactL
    split
    · exact Up.asc h'.2
    · refine List.pairwise_cons.2 ⟨fun x hx => ?_, Up.asc h'.2⟩
      rw [compactL_mem] at hx
      have hfg : factOrder f g < 0 := by
        have := h'.1 g (List.mem_cons_self ..)
        omega
      rcases List.mem_cons.1 hx with e | e
      · rw [e]; exact hfg
      · have h2 := (List.pairwise_cons.1 h'.2).1 x e
        rcases Int.lt_trichotomy (factOrder g x) 0 with h3 | h3 | h3
        · exact order_less hfg h3
        · rw [← order_eq h3]; exact hfg
        · omega

/-- Sorted and compacted, and laid one after another: the same. -/
theorem compact_setOf {s l : List LFact} (h : Up s) (hm : ∀ x, x ∈ s ↔ x ∈ l) : compactL s = setOf l :=
  h.asc.unique (setOf_asc l) fun x => by rw [compactL_mem, setOf_mem, hm]
theorem compact_filter {s l : List LFact} (h : Up s) (hm : ∀ x, x ∈ s ↔ x ∈ l) (p : LFact → Bool) : (compactL s).filter p = setOf (l.filter p) :=
  Asc.unique (h.asc.filter p) (setOf_asc _) fun x => by rw [List.mem_filter, compactL_mem, setOf_mem, List.mem_filter, hm]

end Go.Proofs.YtokmmloakahkhaaGreatDoor
/-
  slices.SortFunc at facts by FactOrder: a permutation, ascending.
-/
namespace Go.Proofs.YtokmmloakahkhaaGreatDoor
open Go.RowKit Go.Sort

/-- An element of the row: a fact, its header, which reads in blocks below g. -/
def El (w : World) (g : Nat) : Type := { x : LFact × Value // RdInts w g x.2 x.1.2 ∧ x.1.2.length ≤ 1048576 }
instance (w : World) (g : Nat) : Inhabited (El w g) := ⟨⟨((0, []), .slice none 0 0), ⟨none, 0, rfl, by simp, fun h => absurd h (by simp)⟩, by simp⟩⟩
def encE {w : World} {g : Nat} (x : El w g) : List Value := [.int .i64 x.1.1.1, x.1.2]
def cfE {w : World} {g : Nat} (x y : El w g) : Int := factOrder x.1.1 y.1.1

section
variable {w : World} {g : Nat}
theorem ltE (x y : El w g) : ltOf cfE x y = decide (factOrder x.1.1 y.1.1 < 0) := rfl
theorem swoE : SWO (ltOf (cfE (w := w) (g := g))) where
  irrefl x := by rw [ltE, order_refl]; rfl
  trans x y z h1 h2 := by
    rw [ltE] at *
    exact decide_eq_true (order_less (of_decide_eq_true h1) (of_decide_eq_true h2))
  ntrans x y z h1 h2 := by
    rw [ltE] at *
    refine decide_eq_false fun h3 => ?_
    have h1 := of_decide_eq_false h1
    have h2 := of_decide_eq_false h2
    rcases order_cases x.1.1 y.1.1 with h | h | h
    · exact h1 h
    · rw [h] at h3
      exact h2 h3
    · exact h2 (order_less h h3)

theorem below_sortWorld {α : Type} [Inhabited α] (enc : α → List Value) (m : Nat) (dk : Array α) (os : Array Obj) : Only g (g + 1) w (sortWorldK enc 2 w g 0 m dk os) := by
  refine ⟨rfl, rfl, rfl, ?_, fun k hk ho => ?_⟩
  · simp [sortWorldK, putRowK, putRow, mapBlock, Sort.grow, Sort.ahead]
  · have hne : ¬ g = k := by omega
    simp only [sortWorldK, putRowK, putRow, mapBlock, Sort.grow, Sort.ahead, Array.getElem?_append, Array.size_modify, Array.getElem?_modify, hne, if_false]
    rw [if_pos hk]

theorem flatE : ∀ (l : List (El w g)), (flatK encE 2 l.toArray).toList = flat (l.map (·.1.1)) (l.map (·.1.2)) := by
  intro l
  have hl : (l.map fun x : El w g => x.1.2).length = (l.map fun x : El w g => x.1.1).length := by simp
  have hfl := flat_length (l.map fun x : El w g => x.1.1) (l.map fun x : El w g => x.1.2) hl
  simp only [List.length_map] at hfl
  have hsz : (flatK encE 2 l.toArray).size = l.length * 2 := by simp
  apply List.ext_getElem
  · rw [Array.length_toList, hsz, hfl]
  · intro t h1 h2
    rw [Array.length_toList, hsz] at h1
    have hk : t / 2 < l.length := by omega
    obtain ⟨c0, c1⟩ := flat_at (l.map fun x : El w g => x.1.1) (l.map fun x : El w g => x.1.2) hl (t / 2) (by simpa using hk) (by simpa using hk)
    have hget : (flatK encE 2 l.toArray)[t]'(by rw [hsz]; exact h1) = (encE l[t / 2])[t % 2]! := by
      have := get_flatK (encE (w := w) (g := g)) 2 l.toArray t (by simpa using h1)
      rw [getElem!_pos _ _ (by rw [hsz]; exact h1)] at this
      rw [this]
      congr 2
      rw [getElem!_pos _ _ (by simpa using hk)]
      simp
    rw [Array.getElem_toList, hget]
    apply Option.some.inj
    rw [← List.getElem?_eq_getElem h2]
    rcases (show t % 2 = 0 ∨ t % 2 = 1 by omega) with e | e
    · have et : t = t / 2 * 2 := by omega
      rw [e]
      conv => rhs; rw [et, c0]
      simp [encE]
    · have et : t = t / 2 * 2 + 1 := by omega
      rw [e]
      conv => rhs; rw [et, c1]
      simp [encE]

theorem elems {fs : List LFact} {av : List Value} (h : RdArgs w g av fs) (hl : ∀ k (hk : k < fs.length), fs[k].2.length ≤ 1048576) : ∃ l : List (El w g), l.map (·.1.1) = fs ∧ l.map (·.1.2) = av := by
  let F : Fin fs.length → El w g := fun i => ⟨(fs[i.1], av[i.1]'(by have := i.2; have := h.1; omega)), h.2 i.1 i.2 _ i.2, hl i.1 i.2⟩
  refine ⟨List.ofFn F, ?_, ?_⟩
  · apply List.ext_getElem
    · rw [List.length_map, List.length_ofFn]
    · intro k k1 k2
      rw [List.getElem_map, List.getElem_ofFn]
  · apply List.ext_getElem
    · rw [List.length_map, List.length_ofFn, h.1]
    · intro k k1 k2
      rw [List.getElem_map, List.getElem_ofFn]

theorem rdE (l : List (El w g)) : RdArgs w g (l.map (·.1.2)) (l.map (·.1.1)) := ⟨by simp, fun k _ h2 h3 => by simpa using (l[k]'(by simpa using h3)).2.1⟩
end

theorem RdArgs.below {w w' : World} {B B' : Nat} {av : List Value} {fs : List LFact} (h : RdArgs w B av fs) (hb : Below B' w w') (hB : B ≤ B') : RdArgs w' B av fs := ⟨h.1, fun k h1 h2 h3 => (h.2 k h1 h2 h3).below hb hB⟩
theorem RdArgs.more {w : World} {B B' : Nat} {av : List Value} {fs : List LFact} (h : RdArgs w B av fs) (hB : B ≤ B') : RdArgs w B' av fs := ⟨h.1, fun k h1 h2 h3 => (h.2 k h1 h2 h3).more hB⟩

/-- The row at block g, from its start, holds facts with these headers. -/
def AtRow (w : World) (g cap : Nat) (fs : List LFact) (av : List Value) : Prop :=
  ∃ cur, w.heap[g]? = some (.cells cur 41 (0, 0)) ∧ fs.length ≤ cap ∧ cap ≤ maxLen ∧ cur.size = cap * 2 ∧ cur.toList.take (fs.length * 2) = flat fs av
theorem AtRow.lt {w : World} {g cap : Nat} {fs : List LFact} {av : List Value} (h : AtRow w g cap fs av) : g < w.heap.size := by
  obtain ⟨cur, hg, _⟩ := h
  exact Blk.lt hg
theorem RowF.at_ {w : World} {base c : Nat} {A : Option Addr} {fs : List LFact} {av : List Value} (h : RowF w base A c fs av) (hn : 0 < fs.length) : ∃ g, A = some ⟨g, 0, none⟩ ∧ base ≤ g ∧ AtRow w g c fs av := by
  rcases h.row.2 with ⟨_, h0⟩ | ⟨g, cap, cur, e, hb, hgg, r1, r2, r3, r4⟩
  · omega
  · injection e with e1 _ e3
    subst e1
    subst e3
    exact ⟨g, rfl, hb, cur, hgg, r1, r2, r3, r4⟩
theorem AtRow.row {w : World} {base g c : Nat} {fs : List LFact} {av : List Value} (h : AtRow w g c fs av) (hl : av.length = fs.length) (hb : base ≤ g) : w.ownsRow base 41 2 (.slice (some ⟨g, 0, none⟩) fs.length c) fs.length (flat fs av) := by
  obtain ⟨cur, hg, h1, h2, h3, h4⟩ := h
  exact ⟨flat_length _ _ hl, .inr ⟨g, c, cur, rfl, hb, hg, h1, h2, h3, h4⟩⟩
theorem AtRow.cell {w : World} {g c : Nat} {fs : List LFact} {av : List Value} (h : AtRow w g c fs av) {j : Nat} (hj : j < fs.length * 2) : w.cell? ⟨g, j, none⟩ = (flat fs av)[j]? := by
  obtain ⟨cur, hg, h1, h2, h3, h4⟩ := h
  rw [Blk.cell hg, ← h4, List.getElem?_take_of_lt hj, Array.getElem?_toList]
theorem AtRow.frozen {w : World} {g c : Nat} {fs : List LFact} {av : List Value} (h : AtRow w g c fs av) (j : Nat) : w.frozen? ⟨g, j, none⟩ = false := by
  obtain ⟨cur, hg, _⟩ := h
  exact Blk.frozen hg j

end Go.Proofs.YtokmmloakahkhaaGreatDoor
/-
  sameFact.
-/
namespace Go.Proofs.YtokmmloakahkhaaGreatDoor
open Go.RowKit Go.Sort

end Go.Proofs.YtokmmloakahkhaaGreatDoor
/-
  Compacting, plain mathematics; a row of facts under stores.
-/
namespace Go.Proofs.YtokmmloakahkhaaGreatDoor
open Go.RowKit Go.Sort

theorem same_iff (f g : LFact) : (factOrder f g == 0) = decide (f = g) := by
  by_cases h : f = g
  · subst h
    simp [order_refl]
  · rw [decide_eq_false h]
    simpa using fun e => h (order_eq e)

theorem compactL_snoc : ∀ (l : List LFact) (a b : LFact), compactL (l ++ [a, b]) = if a = b then compactL (l ++ [a]) else compactL (l ++ [a]) ++ [b]
  | [], a, b => by
    by_cases h : a = b
    · subst h
      simp [compactL, order_refl]
    · have : factOrder a b ≠ 0 := fun e => h (order_eq e)
      simp [compactL, this, h]
  | [x], a, b => by
    have ih := compactL_snoc [] a b
    simp only [List.nil_append] at ih
    show compactL (x :: a :: [b]) = _
    by_cases hx : factOrder x a = 0
    · rw [compactL, if_pos hx]
      show compactL [a, b] = _
      rw [ih, show compactL ([x] ++ [a]) = compactL [a] by simp [compactL, hx]]
    · rw [compactL, if_neg hx]
      show x :: compactL [a, b] = _
      rw [ih, show compactL ([x] ++ [a]) = x :: compactL [a] by simp [compactL, hx]]
      split <;> rfl
  | x :: y :: l, a, b => by
    have ih := compactL_snoc (y :: l) a b
    have e1 : x :: y :: l ++ [a, b] = x :: (y :: (l ++ [a, b])) := rfl
    have e2 : x :: y :: l ++ [a] = x :: (y :: (l ++ [a])) := rfl
    have e3 : y :: l ++ [a, b] = y :: (l ++ [a, b]) := rfl
    have e4 : y :: l ++ [a] = y :: (l ++ [a]) := rfl
    rw [e3, e4] at ih
    rw [e1, e2]
    by_cases hx : factOrder x y = 0
    · rw [compactL, if_pos hx, ih, compactL, if_pos hx]
    · rw [compactL, if_neg hx, ih, compactL, if_neg hx]
      split <;> rfl
/-- One more place. -/
theorem compact_step {fs : List LFact} {j : Nat} (h : j + 1 < fs.length) : compactL (fs.take (j + 2)) = if fs[j] = fs[j + 1] then compactL (fs.take (j + 1)) else compactL (fs.take (j + 1)) ++ [fs[j + 1]] := by
  have e1 : fs.take (j + 2) = fs.take j ++ [fs[j], fs[j + 1]] := by
    rw [take_snoc fs (j + 1) h, take_snoc fs j (by omega), List.append_assoc]
    rfl
  have e2 : fs.take (j + 1) = fs.take j ++ [fs[j]] := take_snoc fs j (by omega)
  rw [e1, e2]
  exact compactL_snoc _ _ _
theorem compactL_length_le : ∀ l : List LFact, (compactL l).length ≤ l.length
  | [] => by simp [compactL]
  | [f] => by simp [compactL]
  | f :: g :: l => by
    have := compactL_length_le (g :: l)
    unfold compactL
    split <;> simp at this ⊢ <;> omega

theorem flat_set_v : ∀ (fs : List LFact) (av : List Value) (j : Nat) (a : Value), av.length = fs.length → j < fs.length → flat fs (av.set j a) = (flat fs av).set (j * 2 + 1) a
  | [], _, j, _, _, h => absurd h (by simp)
  | _ :: _, [], _, _, h, _ => by simp at h
  | f :: fs, b :: av, 0, a, _, _ => by simp [flat]
  | f :: fs, b :: av, j + 1, a, h, hj => by
    have := flat_set_v fs av j a (by simpa using h) (by simpa using hj)
    rw [show (j + 1) * 2 + 1 = j * 2 + 1 + 1 + 1 by omega]
    simp [flat, this]

section
variable {w w' : World} {g c : Nat} {fs : List LFact} {av : List Value}
theorem AtRow.keep (h : AtRow w g c fs av) (hk : w'.heap[g]? = w.heap[g]?) : AtRow w' g c fs av := by
  obtain ⟨cur, hg, r⟩ := h
  exact ⟨cur, hk.trans hg, r⟩
theorem AtRow.below {B : Nat} (h : AtRow w g c fs av) (hb : Below B w w') (hB : g < B) : AtRow w' g c fs av := h.keep (hb.block g hB)
theorem AtRow.len (h : AtRow w g c fs av) : fs.length ≤ c := by
  obtain ⟨cur, _, h1, _⟩ := h
  exact h1
/-- A fact laid at a place. -/
theorem AtRow.set (h : AtRow w g c fs av) (hl : av.length = fs.length) {k : Nat} (hk : k < fs.length) (f : LFact) (a : Value) : AtRow ((w.setCell ⟨g, k * 2, none⟩ (.int .i64 f.1)).setCell ⟨g, k * 2 + 1, none⟩ a) g c (fs.set k f) (av.set k a) := by
  obtain ⟨cur, hg, h1, h2, h3, h4⟩ := h
  have s1 := Blk.set_ (show Blk w g 41 cur from hg) (k * 2) (.int .i64 f.1)
  have s2 := s1.set_ (k * 2 + 1) a
  refine ⟨_, s2, by simpa using h1, h2, by simpa using h3, ?_⟩
  rw [flat_set_v (fs.set k f) av k a (by simpa using hl) (by simpa using hk), flat_set fs av k f hl, ← h4]
  apply List.ext_getElem?
  intro j
  simp only [List.length_set, List.getElem?_take, Array.getElem?_toList, Array.getElem?_setIfInBounds, List.getElem?_set, Array.size_setIfInBounds, List.length_take, Array.length_toList]
  have hb : fs.length * 2 ≤ cur.size := by omega
  by_cases e1 : k * 2 + 1 = j
  · subst e1
    have : k * 2 + 1 < fs.length * 2 := by omega
    have h5 : k * 2 + 1 < cur.size := by omega
    simp [this, h5]
    omega
  · by_cases e2 : k * 2 = j
    · subst e2
      have : k * 2 < fs.length * 2 := by omega
      have h5 : k * 2 < cur.size := by omega
      simp [this, h5]
      omega
    · by_cases h6 : j < fs.length * 2
      · simp [e1, e2, h6]
      · simp [e1, e2, h6]
/-- The first m alone. -/
theorem AtRow.take (h : AtRow w g c fs av) (hl : av.length = fs.length) {m : Nat} (hm : m ≤ fs.length) : AtRow w g c (fs.take m) (av.take m) := by
  obtain ⟨cur, hg, h1, h2, h3, h4⟩ := h
  refine ⟨cur, hg, by simp; omega, h2, h3, ?_⟩
  have hlm : (fs.take m).length = m := by simp; omega
  rw [hlm]
  have e : flat fs av = flat (fs.take m) (av.take m) ++ flat (fs.drop m) (av.drop m) := by
    rw [← flat_append _ _ (by simp [hl]), List.take_append_drop, List.take_append_drop]
  have hfl := flat_length (fs.take m) (av.take m) (by simp [hl])
  rw [hlm] at hfl
  rw [e] at h4
  have := congrArg (List.take (m * 2)) h4
  rw [List.take_take, show min (m * 2) (fs.length * 2) = m * 2 by omega, List.take_append_of_le_length (by omega), ← hfl, List.take_length] at this
  rw [← hfl]
  exact this
end

theorem setCells_heap (g : Nat) : ∀ (vs : List Value) (o : Nat) (w : World) (cur : Array Value) (t : TypeId), w.heap[g]? = some (.cells cur t (0, 0)) →
    ∃ cur', (w.setCells g o vs).heap[g]? = some (.cells cur' t (0, 0)) ∧ cur'.size = cur.size ∧ (∀ j, j < o → cur'[j]? = cur[j]?) ∧ Only g (g + 1) w (w.setCells g o vs)
  | [], _, w, cur, t, h => ⟨cur, h, rfl, fun _ _ => rfl, Only.refl _ _ _⟩
  | v :: vs, o, w, cur, t, h => by
    obtain ⟨cur', h1, h2, h3, h4⟩ := setCells_heap g vs (o + 1) (w.setCell ⟨g, o, none⟩ v) _ t (Blk.set_ (show Blk w g t cur from h) o v)
    refine ⟨cur', h1, by simpa using h2, fun j hj => ?_, (Only.setCell (p := ⟨g, o, none⟩) (Only.refl g (g + 1) w) ⟨Nat.le_refl g, Nat.lt_succ_self g⟩ v).trans h4⟩
    rw [h3 j (by omega), Array.getElem?_setIfInBounds]
    rw [if_neg (by omega)]

/-- clear of the places from k on. -/
theorem run_clear_facts {w : World} {g c : Nat} {fs : List LFact} {av : List Value} (h : AtRow w g c fs av) {k : Nat} (hk : k < fs.length) (d : Nat) :
    ∃ W, (∀ ty, (Builtin.clear_ #[27] ty #[.slice (some ⟨g, k * 2, none⟩) (fs.length - k) d]).run Tryz.prog w = .ok (.tuple #[]) W) ∧ Only g (g + 1) w W ∧ ((av.length = fs.length) → AtRow W g c (fs.take k) (av.take k)) := by
  obtain ⟨cur, hg, h1, h2, h3, h4⟩ := h
  have hz : ∀ W, (zeroValue 41).run Tryz.prog W = .ok (.agg #[.int .i64 0, .slice none 0 0]) W := Tryz.zeroValue41
  obtain ⟨zc, hzc⟩ : ∃ zc, zc = (Builtin.zeroCells #[Value.int IntKind.i64 0, Value.slice none 0 0] (fs.length - k)).toList := ⟨_, rfl⟩
  have hzl : zc.length = (fs.length - k) * 2 := by rw [hzc, Array.length_toList, size_zeroPairs]
  have hz1 : ∀ v ∈ zc, v.oneCell' = true := by
    intro v hv
    rw [hzc] at hv
    simp [Builtin.zeroCells] at hv
    obtain ⟨i, _, hi⟩ := hv
    rcases (show i % 2 = 0 ∨ i % 2 = 1 by omega) with e | e
    · rw [e] at hi
      simp at hi
      rw [← hi]
      rfl
    · rw [e] at hi
      simp at hi
      rw [← hi]
      rfl
  have hst := run_storeCells_cells (P := Tryz.prog) g (k * 2) zc 0 w (fun j hj => by
      rw [Blk.cell hg, Array.getElem?_eq_getElem (by omega)]
      rfl) (fun j _ => Blk.frozen hg _) hz1
  rw [Nat.add_zero] at hst
  obtain ⟨cur', g1, g2, g3, g4⟩ := setCells_heap g zc (k * 2) w cur _ hg
  refine ⟨w.setCells g (k * 2) zc, fun ty => ?_, g4, fun hl => ?_⟩
  · obtain ⟨m, hm⟩ : ∃ m, fs.length - k = m + 1 := ⟨fs.length - k - 1, by omega⟩
    rw [hm] at hzc ⊢
    simp only [Builtin.clear_]
    simp [run_underlying Tryz.underlying27, hz, Value.cells, ← hzc, hst]
  · have hA : AtRow w g c fs av := ⟨cur, hg, h1, h2, h3, h4⟩
    obtain ⟨_, hg', _, _, _, h4'⟩ := hA.take hl (Nat.le_of_lt hk)
    rw [hg] at hg'
    injection hg' with hg'
    injection hg' with hg' _ _
    subst hg'
    refine ⟨cur', g1, by simp; omega, h2, by rw [g2]; exact h3, ?_⟩
    rw [← h4']
    have hlk : (fs.take k).length = k := by simp; omega
    rw [hlk]
    apply List.ext_getElem?
    intro j
    rw [List.getElem?_take, List.getElem?_take]
    split
    · rw [Array.getElem?_toList, Array.getElem?_toList]
      exact g3 j (by omega)
    · rfl

end Go.Proofs.YtokmmloakahkhaaGreatDoor
