/-
  The walk of the law on Renamed.
-/
import Derived.Test.YtgacdehbdhhbnaaRenSpec
import Derived.Test.YtgacdehbdhhbnaaLawRuleSafe
namespace Go.Proofs.Ytgacdehbdhhbnaa
open Go.RowKit

theorem OwnLits.only {w w' : World} {lo hi lo' hi' : Nat} {v : Value} {ls : List LLit} (h : OwnLits w lo hi v ls) (ho : Only lo' hi' w w') (hd : hi ≤ lo' ∨ hi' ≤ lo) (hh : hi ≤ w.heap.size) : OwnLits w' lo hi v ls :=
  h.keep fun g h1 h2 => ho.block g (by omega) (by omega)
theorem SeqAt.of_eq {lo hi : Nat} {k k' : Int} {ps : List Addr} {w w' : World} (h : SeqAt lo hi k ps w w') (e : k = k') : SeqAt lo hi k' ps w w' := e ▸ h

set_option maxHeartbeats 2000000 in
set_option maxRecDepth 100000 in
theorem lawRenamed_any (v : Value) (r : LRule) (w : World) (h : RdRule w w.heap.size v r) (hn : ruleLens r) :
    Calls Try.prog 11 #[v] w fun e w' => e = .returned (.bool true) ∧ Below w.heap.size w w' := by
  have H := Lib.hid h
  obtain ⟨a, b, rfl, h, h2⟩ := h
  obtain ⟨A, c, rfl, hc, _⟩ := h
  obtain ⟨A2, c2, rfl, hcc, _⟩ := h2
  go_enter Try.func11, Try.ntmps11
  go_wp2_with (fail)
  refine (szRule_any _ r _ _ (H.out.on (below1 _ _)) (by omega) (by omega) hn).mono ?_
  rintro e w1 ⟨z, rfl, hz, hb1⟩
  have B1 := bthen (below1 _ _) hb1
  have x1 : Blk w1 w.heap.size 58 #[.int .i64 r.1.1, .slice A r.1.2.length c, .slice A2 r.2.length c2] := (Blk.new w _ _).below hb1 (by simp)
  clear hb1
  rcases hz with rfl | ⟨z0, z1⟩
  · go_wp2_with (fail)
    go_ret
    exact ⟨rfl, B1⟩
  · have hz : ¬ z < 0 := by omega
    have hs : szR r ≤ 1048576 := by omega
    clear z1
    obtain ⟨R, hR⟩ : ∃ R, R = renamed r := ⟨_, rfl⟩
    have hRs : szR R ≤ 1048576 := by rw [hR]; have := renamed_szR r; omega
    have HR := Lib.hid hR
    clear hR
    have hRn : R.1.2.length ≤ 1048576 ∧ R.2.length ≤ 1048576 ∧ totL R.2 ≤ 1048576 := by unfold szR at hRs; omega
    have p0 : w1.cell? ⟨w.heap.size, 0, none⟩ = some (.int .i64 r.1.1) := x1.cell 0
    have p1 : w1.cell? ⟨w.heap.size, 1, none⟩ = some (.slice A r.1.2.length c) := x1.cell 1
    have p2 : w1.cell? ⟨w.heap.size, 2, none⟩ = some (.slice A2 r.2.length c2) := x1.cell 2
    go_wp2_with (fail)
    refine (toRule_any _ r _ (H.out.on B1) hs).mono ?_
    rintro e w2 ⟨A3, c3, A4, c4, rfl, ho2, hl2, hb2⟩
    have B2 := bthen B1 hb2
    go_wp2_with (fail)
    refine (specRenamed_any _ r _ ⟨_, _, rfl, ho2.rd, hl2.rd⟩ hs).mono ?_
    rw [← HR.out]
    rintro e w3 ⟨Aw, cw, Aw2, cw2, rfl, ow3, lw3, hb3⟩
    have B3 := bthen B2 hb3
    have x3 := (x1.below hb2 x1.lt).below hb3 (Nat.lt_of_lt_of_le x1.lt hb2.size)
    clear p0 p1 p2 ho2 hl2
    have p0 : w3.cell? ⟨w.heap.size, 0, none⟩ = some (.int .i64 r.1.1) := x3.cell 0
    have p1 : w3.cell? ⟨w.heap.size, 1, none⟩ = some (.slice A r.1.2.length c) := x3.cell 1
    have p2 : w3.cell? ⟨w.heap.size, 2, none⟩ = some (.slice A2 r.2.length c2) := x3.cell 2
    have l3 := x3.lt
    go_wp2_with (fail)
    refine (toRule_any _ r _ (H.out.on (bthen B3 (below1 _ _))) hs).mono ?_
    rintro e w5 ⟨A5, c5, A6, c6, rfl, ho5, hl5, hb5⟩
    have b35 : Below w3.heap.size w3 w5 := bthen (below1 _ _) hb5
    have B5 := bthen B3 b35
    have x5 := x3.below b35 x3.lt
    have v5 : Blk w5 w3.heap.size 63 #[.int .i64 R.1.1, .slice Aw R.1.2.length cw, .slice Aw2 R.2.length cw2] := (Blk.new w3 _ _).below hb5 (by simp)
    have s35 : w3.heap.size + 1 ≤ w5.heap.size := by have := hb5.size; simp at this; exact this
    have O5 : OwnInts w5 (w3.heap.size + 1) w5.heap.size (.slice A5 r.1.2.length c5) r.1.2 := by simpa using ho5
    have L5 : OwnLits w5 (w3.heap.size + 1) w5.heap.size (.slice A6 r.2.length c6) r.2 := by simpa using hl5
    clear p0 p1 p2 ho5 hl5 hb5
    go_wp2_with (fail)
    refine (implRenamed_any _ r _ ⟨_, _, rfl, O5.rd.on (below1 _ _), L5.rd.on (below1 _ _)⟩ hs).mono ?_
    rw [← HR.out]
    rintro e w7 ⟨Ag, cg, Ag2, cg2, lo, hi, ps, rfl, ⟨og7, lg7⟩, lv7, hnd, hlo, hhi, hb7⟩
    have b57 : Below w5.heap.size w5 w7 := bthen (below1 _ _) hb7
    have B7 := bthen B5 b57
    have x7 := x5.below b57 x5.lt
    have v7 := v5.below b57 v5.lt
    have y7 : Blk w7 w5.heap.size 63 #[.int .i64 r.1.1, .slice A5 r.1.2.length c5, .slice A6 r.2.length c6] := (Blk.new w5 _ _).below hb7 (by simp)
    have O7 := O5.below b57 (Nat.le_refl _)
    have L7 := L5.below b57 (Nat.le_refl _)
    have ow7 := (ow3.below b35 (Nat.le_refl _)).below b57 (by omega)
    have lw7 := (lw3.below b35 (Nat.le_refl _)).below b57 (by omega)
    have hlo5 : w5.heap.size + 1 ≤ lo := by simpa using hlo
    have l7 := x7.lt
    have l7v := v7.lt
    have l7y := y7.lt
    clear hlo hb7 O5 L5 ow3 lw3 x3 v5 x5 x1
    have d0 : w7.cell? ⟨w3.heap.size, 0, none⟩ = some (.int .i64 R.1.1) := v7.cell 0
    have d1 : w7.cell? ⟨w3.heap.size, 1, none⟩ = some (.slice Aw R.1.2.length cw) := v7.cell 1
    have d2 : w7.cell? ⟨w3.heap.size, 2, none⟩ = some (.slice Aw2 R.2.length cw2) := v7.cell 2
    go_wp2_with (fail)
    obtain ⟨w8, hw8⟩ : ∃ w8, w8 = w7.alloc (Obj.cells #[Value.int IntKind.i64 R.1.1, Value.slice Ag R.1.2.length cg, Value.slice Ag2 R.2.length cg2] 63) := ⟨_, rfl⟩
    have b78 : Below w7.heap.size w7 w8 := by rw [hw8]; exact below1 _ _
    have g8 : Blk w8 w7.heap.size 63 #[.int .i64 R.1.1, .slice Ag R.1.2.length cg, .slice Ag2 R.2.length cg2] := by rw [hw8]; exact Blk.new _ _ _
    rw [← hw8]
    clear hw8 d0 d1 d2
    have B8 := bthen B7 b78
    have x8 := x7.below b78 x7.lt
    have v8 := v7.below b78 v7.lt
    have y8 := y7.below b78 y7.lt
    have s8 := b78.size
    have O8 := O7.below b78 (by omega)
    have L8 := L7.below b78 (by omega)
    have ow8 := ow7.below b78 (by omega)
    have lw8 := lw7.below b78 (by omega)
    have og8 := og7.below b78 hhi
    have lg8 := lg7.below b78 hhi
    have lv8 := lv7.marked (Marked.of_below (lo := lo) (hi := hi) b78)
    have hhi8 : hi ≤ w7.heap.size := hhi
    clear x7 v7 y7 O7 L7 ow7 lw7 og7 lg7 lv7 hhi
    refine (eqRule_any _ _ R R _ ⟨_, _, rfl, og8.rd.more (by omega), lg8.rd.more (by omega)⟩ ⟨_, _, rfl, ow8.rd.more (by omega), lw8.rd.more (by omega)⟩ hRs hRs).mono ?_
    rintro e w9 ⟨rfl, hb9⟩
    rw [show decide (R = R) = true by simp]
    have B9 := bthen B8 hb9
    have HS := Lib.hid (show ∀ W, Below w9.heap.size w9 W → (Below w9.heap.size w9 W ∧ W.cell? ⟨w.heap.size, 0, none⟩ = some (.int .i64 r.1.1) ∧ W.cell? ⟨w.heap.size, 1, none⟩ = some (.slice A r.1.2.length c) ∧ W.cell? ⟨w.heap.size, 2, none⟩ = some (.slice A2 r.2.length c2) ∧ W.cell? ⟨w5.heap.size, 0, none⟩ = some (.int .i64 r.1.1) ∧ W.cell? ⟨w5.heap.size, 1, none⟩ = some (.slice A5 r.1.2.length c5) ∧ W.cell? ⟨w5.heap.size, 2, none⟩ = some (.slice A6 r.2.length c6)) from
      fun W hW => ⟨hW, ((x8.below hb9 x8.lt).below hW (by have := x8.lt; have := hb9.size; omega)).cell 0, ((x8.below hb9 x8.lt).below hW (by have := x8.lt; have := hb9.size; omega)).cell 1, ((x8.below hb9 x8.lt).below hW (by have := x8.lt; have := hb9.size; omega)).cell 2,
        ((y8.below hb9 y8.lt).below hW (by have := y8.lt; have := hb9.size; omega)).cell 0, ((y8.below hb9 y8.lt).below hW (by have := y8.lt; have := hb9.size; omega)).cell 1, ((y8.below hb9 y8.lt).below hW (by have := y8.lt; have := hb9.size; omega)).cell 2⟩)
    have RX := Lib.hid (show RdRule w9 w9.heap.size (.agg #[.int .i64 r.1.1, .slice A5 r.1.2.length c5, .slice A6 r.2.length c6]) r from ⟨_, _, rfl, ((O8.rd.more (by omega)).on hb9), ((L8.rd.more (by omega)).on hb9)⟩)
    go_upto_region 10 with fail
    go_cut [31] (fun s wx => s = .bool false ∧ Below w9.heap.size w9 wx)
    case first =>
      go_region_held3 (fun W => Below w9.heap.size w9 W ∧ W.cell? ⟨w.heap.size, 0, none⟩ = some (.int .i64 r.1.1) ∧ W.cell? ⟨w.heap.size, 1, none⟩ = some (.slice A r.1.2.length c) ∧ W.cell? ⟨w.heap.size, 2, none⟩ = some (.slice A2 r.2.length c2) ∧ W.cell? ⟨w5.heap.size, 0, none⟩ = some (.int .i64 r.1.1) ∧ W.cell? ⟨w5.heap.size, 1, none⟩ = some (.slice A5 r.1.2.length c5) ∧ W.cell? ⟨w5.heap.size, 2, none⟩ = some (.slice A6 r.2.length c6))
        (first | exact HS.out _ (Below.refl _ _) | exact HS.out _ (Below.refl _ _).drew | exact HS.out _ (bthen (And.left (by assumption)) (by assumption)))
        (first
          | (go_at_call 36; refine (toRule_any _ r _ ?_ hs).mono ?_; exact H.out.on (bthen B9 (And.left (by assumption))); rintro e wf ⟨Af, cf, Ag', cg', rfl, hof, hlf, hbf⟩)
          | (go_at_call 38; refine (eqRule_any _ _ r r _ ?_ ?_ hs hs).mono ?_; exact (RX.out.on (And.left (by assumption))); exact ⟨_, _, rfl, hof.rd, hlf.rd⟩; rw [show decide (r = r) = true by simp]; rintro e wg ⟨rfl, hbg⟩))
      all_goals (go_wp2_with fail; go_meet; exact ⟨rfl, And.left (by assumption)⟩)
    case rest =>
      obtain ⟨rfl, hb10⟩ := hcut
      have h810 := bthen hb9 hb10
      have B10 := bthen B8 h810
      have v10 := v8.below h810 v8.lt
      have y10 := y8.below h810 y8.lt
      have g10 := g8.below h810 g8.lt
      have x10 := x8.below h810 x8.lt
      have I10 := O8.wr.marked (Marked.of_below (lo := w3.heap.size + 1) (hi := w5.heap.size) h810)
      have J10 := L8.wr.marked (Marked.of_below (lo := w3.heap.size + 1) (hi := w5.heap.size) h810)
      have ow10 := ow8.below h810 (by omega)
      have lw10 := lw8.below h810 (by omega)
      have og10 := og8.below h810 (by omega)
      have lg10 := lg8.below h810 (by omega)
      have lv10 := lv8.marked (Marked.of_below (lo := lo) (hi := hi) h810)
      have s10 := h810.size
      have l8y := y8.lt
      have l8v := v8.lt
      have l8g := g8.lt
      have l8x := x8.lt
      have q0 : wc.cell? ⟨w5.heap.size, 0, none⟩ = some (.int .i64 r.1.1) := y10.cell 0
      have q1 : wc.cell? ⟨w5.heap.size, 1, none⟩ = some (.slice A5 r.1.2.length c5) := y10.cell 1
      have q2 : wc.cell? ⟨w5.heap.size, 2, none⟩ = some (.slice A6 r.2.length c6) := y10.cell 2
      clear HS RX hb9 hb10 x8 v8 y8 g8 O8 L8 ow8 lw8 og8 lg8 lv8 h810 y10
      go_wp2_with (fail)
      refine (wmarkRule_any _ _ _ r 1 (w3.heap.size + 1) w5.heap.size _ I10 J10 (by omega) (by omega) (by omega)).mono ?_
      rintro e w11 ⟨rfl, hm11⟩
      have hzk : 0 ≤ endR 1 r := by unfold endR endL; omega
      generalize endR 1 r = zk at hzk
      have hd11 : decide (zk < 0) = false := by simp; omega
      have hzn : ¬ zk < 0 := by omega
      have on11 := hm11.only
      have B11 := Only.then_ B10 on11 (by have := B3.size; omega)
      have v11 := v10.only on11 (.inl (by omega))
      have g11 := g10.only on11 (.inr (by omega))
      have x11 := x10.only on11 (.inl (by omega))
      have ow11 := ow10.only on11 (.inl (by omega))
      have lw11 := lw10.only on11 (.inl (by omega)) (by omega)
      have og11 := og10.only on11 (.inr (by omega))
      have lg11 := lg10.only on11 (.inr (by omega)) (by omega)
      have lv11 := lv10.marked hm11
      have s11 := on11.size
      have d0 : w11.cell? ⟨w3.heap.size, 0, none⟩ = some (.int .i64 R.1.1) := v11.cell 0
      have d1 : w11.cell? ⟨w3.heap.size, 1, none⟩ = some (.slice Aw R.1.2.length cw) := v11.cell 1
      have d2 : w11.cell? ⟨w3.heap.size, 2, none⟩ = some (.slice Aw2 R.2.length cw2) := v11.cell 2
      have e0 : w11.cell? ⟨w7.heap.size, 0, none⟩ = some (.int .i64 R.1.1) := g11.cell 0
      have e1 : w11.cell? ⟨w7.heap.size, 1, none⟩ = some (.slice Ag R.1.2.length cg) := g11.cell 1
      have e2 : w11.cell? ⟨w7.heap.size, 2, none⟩ = some (.slice Ag2 R.2.length cg2) := g11.cell 2
      clear q0 q1 q2 I10 J10 v10 g10 x10 ow10 lw10 og10 lg10 lv10 hm11
      go_wp2_with (fail)
      refine (eqRule_any _ _ R R _ ⟨_, _, rfl, og11.rd.more (by omega), lg11.rd.more (by omega)⟩ ⟨_, _, rfl, ow11.rd.more (by omega), lw11.rd.more (by omega)⟩ hRs hRs).mono ?_
      rintro e w12 ⟨rfl, hb12⟩
      rw [show decide (R = R) = true by simp]
      have B12 := bthen B11 hb12
      have s12 := hb12.size
      have v12 := v11.below hb12 v11.lt
      have g12 := g11.below hb12 g11.lt
      have x12 := x11.below hb12 x11.lt
      have ow12 := ow11.below hb12 (by omega)
      have lw12 := lw11.below hb12 (by omega)
      have lv12 := lv11.marked (Marked.of_below (lo := lo) (hi := hi) hb12)
      have hpl := lv12.length
      have k0 : w12.cell? ⟨w7.heap.size, 0, none⟩ = some (.int .i64 R.1.1) := g12.cell 0
      have k1 : w12.cell? ⟨w7.heap.size, 1, none⟩ = some (.slice Ag R.1.2.length cg) := g12.cell 1
      have k2 : w12.cell? ⟨w7.heap.size, 2, none⟩ = some (.slice Ag2 R.2.length cg2) := g12.cell 2
      clear d0 d1 d2 e0 e1 e2 v11 g11 x11 ow11 lw11 og11 lg11 lv11
      go_wp2_with (fail)
      refine (lmarkRule_any _ R ps 1 lo hi _ lv12 hnd (by omega) (by omega) (by omega)).mono ?_
      rintro e w13 ⟨rfl, hm13⟩
      have on13 := hm13.marked.only
      have B13 := Only.then_ B12 on13 (by have := B5.size; omega)
      have s13 := on13.size
      have v13 := v12.only on13 (.inl (by omega))
      have g13 := g12.only on13 (.inr (by omega))
      have x13 := x12.only on13 (.inl (by omega))
      have ow13 := ow12.only on13 (.inl (by omega))
      have lw13 := lw12.only on13 (.inl (by omega)) (by omega)
      have lv13 := lv12.marked hm13.marked
      have HH13 := hm13.holds
      have j0 : w13.cell? ⟨w7.heap.size, 0, none⟩ = some (.int .i64 R.1.1) := g13.cell 0
      have j1 : w13.cell? ⟨w7.heap.size, 1, none⟩ = some (.slice Ag R.1.2.length cg) := g13.cell 1
      have j2 : w13.cell? ⟨w7.heap.size, 2, none⟩ = some (.slice Ag2 R.2.length cg2) := g13.cell 2
      clear k0 k1 k2 v12 g12 x12 ow12 lw12 lv12 hm13
      go_wp2_with (fail)
      refine (lheldRule_any _ R ps 1 lo hi _ lv13 HH13 (by omega) (by omega) (by omega)).mono ?_
      rintro e w14 ⟨rfl, hb14⟩
      have B14 := bthen B13 hb14
      have s14 := hb14.size
      have v14 := v13.below hb14 v13.lt
      have g14 := g13.below hb14 g13.lt
      have x14 := x13.below hb14 x13.lt
      have ow14 := ow13.below hb14 (by omega)
      have lw14 := lw13.below hb14 (by omega)
      have lv14 := lv13.marked (Marked.of_below (lo := lo) (hi := hi) hb14)
      have HH14 := HH13.below hb14
      have hh1 : ¬ (1 : Int) + (ps.length : Int) < 0 := by omega
      have hh2 : ((1 : Int) + (ps.length : Int) != 1 + (ps.length : Int)) = false := by simp
      have q0 : w14.cell? ⟨w.heap.size, 0, none⟩ = some (.int .i64 r.1.1) := x14.cell 0
      have q1 : w14.cell? ⟨w.heap.size, 1, none⟩ = some (.slice A r.1.2.length c) := x14.cell 1
      have q2 : w14.cell? ⟨w.heap.size, 2, none⟩ = some (.slice A2 r.2.length c2) := x14.cell 2
      clear j0 j1 j2 v13 g13 x13 ow13 lw13 lv13 HH13
      go_wp2_with (fail)
      refine (toRule_any _ r _ (H.out.on B14) hs).mono ?_
      rintro e w15 ⟨A7, c7, A8, c8, rfl, ho15, hl15, hb15⟩
      have B15 := bthen B14 hb15
      go_wp2_with (fail)
      refine (implRenamed_any _ r _ ⟨_, _, rfl, ho15.rd, hl15.rd⟩ hs).mono ?_
      rw [← HR.out]
      rintro e w16 ⟨Ah, ch, Ah2, ch2, lo2, hi2, ps2, rfl, ⟨oh16, lh16⟩, lv16, hnd2, hlo2, hhi2, hb16⟩
      have b1416 := bthen hb15 hb16
      have B16 := bthen B14 b1416
      have v16 := v14.below b1416 v14.lt
      have g16 := g14.below b1416 g14.lt
      have ow16 := ow14.below b1416 (by omega)
      have lw16 := lw14.below b1416 (by omega)
      have lvg16 := lv14.marked (Marked.of_below (lo := lo) (hi := hi) b1416)
      have HH16 := HH14.below b1416
      have s16 := b1416.size
      have l16v := v16.lt
      have l16g := g16.lt
      have d0 : w16.cell? ⟨w3.heap.size, 0, none⟩ = some (.int .i64 R.1.1) := v16.cell 0
      have d1 : w16.cell? ⟨w3.heap.size, 1, none⟩ = some (.slice Aw R.1.2.length cw) := v16.cell 1
      have d2 : w16.cell? ⟨w3.heap.size, 2, none⟩ = some (.slice Aw2 R.2.length cw2) := v16.cell 2
      clear q0 q1 q2 v14 g14 x14 ow14 lw14 lv14 HH14 ho15 hl15
      go_wp2_with (fail)
      obtain ⟨w17, hw17⟩ : ∃ w17, w17 = w16.alloc (Obj.cells #[Value.int IntKind.i64 R.1.1, Value.slice Ah R.1.2.length ch, Value.slice Ah2 R.2.length ch2] 63) := ⟨_, rfl⟩
      have b17 : Below w16.heap.size w16 w17 := by rw [hw17]; exact below1 _ _
      rw [← hw17]
      clear hw17
      have s17 := b17.size
      refine (eqRule_any _ _ R R _ ⟨_, _, rfl, (oh16.below b17 hhi2).rd.more (by omega), (lh16.below b17 hhi2).rd.more (by omega)⟩ ⟨_, _, rfl, (ow16.below b17 (by omega)).rd.more (by omega), (lw16.below b17 (by omega)).rd.more (by omega)⟩ hRs hRs).mono ?_
      rintro e w18 ⟨rfl, hb18⟩
      rw [show decide (R = R) = true by simp]
      have b1618 := bthen b17 hb18
      have B18 := bthen B16 b1618
      have g18 := g16.below b1618 g16.lt
      have lvg18 := lvg16.marked (Marked.of_below (lo := lo) (hi := hi) b1618)
      have HH18 := HH16.below b1618
      have j0 : w18.cell? ⟨w7.heap.size, 0, none⟩ = some (.int .i64 R.1.1) := g18.cell 0
      have j1 : w18.cell? ⟨w7.heap.size, 1, none⟩ = some (.slice Ag R.1.2.length cg) := g18.cell 1
      have j2 : w18.cell? ⟨w7.heap.size, 2, none⟩ = some (.slice Ag2 R.2.length cg2) := g18.cell 2
      clear d0 d1 d2
      go_wp2_with (fail)
      refine (lheldRule_any _ R ps 1 lo hi _ lvg18 HH18 (by omega) (by omega) (by omega)).mono ?_
      rintro e w19 ⟨rfl, hb19⟩
      have B19 := bthen B18 hb19
      go_wp2_with (fail)
      go_ret
      exact ⟨rfl, B19⟩

theorem lawRenamed_in (v : Value) (r : LRule) (w : World) (h : InRule w v r) : Calls Try.prog 11 #[v] w fun e w' => e = .returned (.bool true) ∧ Below w.heap.size w w' :=
  lawRenamed_any v r w h.1 (ruleLens_in h.2)

end Go.Proofs.Ytgacdehbdhhbnaa
