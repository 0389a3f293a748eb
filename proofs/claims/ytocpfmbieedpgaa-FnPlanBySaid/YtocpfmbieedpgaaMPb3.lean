/-
  Texts that the claim's last one imports, laid together: part 3 of 5. No condition of its own.
-/
import Derived.Deep.DeepCutAuto
import Derived.Maps.AppendAt
import Derived.Deep.AppendLies
import Derived.RegionTactic
import Derived.Deep.RegionLaw
import Derived.StillTailTactics
import Derived.Deep.RegionHeld3
import Derived.Deep.Slices
import Derived.Test.YtocpfmbieedpgaaChecked
import Derived.KernelRfl
import Derived.Test.YtocpfmbieedpgaaMPb1
import Derived.Test.YtocpfmbieedpgaaMPb2
/-
  The specification's renaming: the walks of l2Number and l2Atom.
-/
namespace Go.Proofs.Ytocpfmbieedpgaa
open Go.RowKit

/-- Block g is a row that holds what the variables have become. -/
def ToAt (w : World) (g : Nat) (s : Ren) : Prop := ∃ a b c d : Int, s.1 = [a, b, c, d] ∧ Blk w g 3 #[.int .i64 a, .int .i64 b, .int .i64 c, .int .i64 d]
theorem ToAt.lt {w : World} {g : Nat} {s : Ren} (h : ToAt w g s) : g < w.heap.size := by
  obtain ⟨_, _, _, _, _, hx⟩ := h
  exact hx.lt
theorem ToAt.below {w w' : World} {g B : Nat} {s : Ren} (h : ToAt w g s) (hb : Below B w w') (hg : g < B) : ToAt w' g s := by
  obtain ⟨a, b, c, d, e, hx⟩ := h
  exact ⟨a, b, c, d, e, hx.below hb hg⟩
theorem ToAt.rd {w : World} {g : Nat} {s : Ren} (h : ToAt w g s) : RdInts w w.heap.size (.slice (some ⟨g, 0, none⟩) 4 4) s.1 := by
  obtain ⟨a, b, c, d, e, hx⟩ := h
  rw [e]
  refine ⟨_, 4, rfl, Nat.le_refl _, fun _ => ⟨g, 0, rfl, hx.lt, fun k hk => ?_⟩⟩
  simp at hk
  match k, hk with
  | 0, _ => exact hx.cell 0
  | 1, _ => exact hx.cell 1
  | 2, _ => exact hx.cell 2
  | 3, _ => exact hx.cell 3
/-- The cell of a variable. -/
theorem ToAt.cell {w : World} {g : Nat} {s : Ren} (h : ToAt w g s) {v : Nat} (hv : v < 4) : w.cell? ⟨g, v, none⟩ = some (.int .i64 (s.1.getD v 0)) ∧ w.frozen? ⟨g, v, none⟩ = false := by
  obtain ⟨a, b, c, d, e, hx⟩ := h
  rw [e]
  refine ⟨?_, hx.frozen v⟩
  match v, hv with
  | 0, _ => exact hx.cell 0
  | 1, _ => exact hx.cell 1
  | 2, _ => exact hx.cell 2
  | 3, _ => exact hx.cell 3
theorem ToAt.store {w : World} {g m m' : Nat} {ts : List Int} (h : ToAt w g (ts, m)) {v : Nat} (hv : v < 4) (y : Int) : ToAt (w.setCell ⟨g, v, none⟩ (.int .i64 y)) g (ts.set v y, m') := by
  obtain ⟨a, b, c, d, e, hx⟩ := h
  simp only at e
  subst e
  match v, hv with
  | 0, _ => exact ⟨y, b, c, d, rfl, by simpa using hx.set_ 0 (.int .i64 y)⟩
  | 1, _ => exact ⟨a, y, c, d, rfl, by simpa using hx.set_ 1 (.int .i64 y)⟩
  | 2, _ => exact ⟨a, b, y, d, rfl, by simpa using hx.set_ 2 (.int .i64 y)⟩
  | 3, _ => exact ⟨a, b, c, y, rfl, by simpa using hx.set_ 3 (.int .i64 y)⟩

theorem renList_big : ∀ (xs : List Int) (s : Ren), (renList s xs).2 ≤ s.2 + xs.length
  | [], s => by simp [renList]
  | t :: xs, s => by
    have h1 := renList_big xs (renStep s t)
    have h2 : (renStep s t).2 ≤ s.2 + 1 := by
      unfold renStep
      split <;> simp
    show (renList (renStep s t) xs).2 ≤ _
    simp only [List.length_cons]
    omega
theorem renStep_yes {ts : List Int} {m v : Nat} {t : Int} (hv : v < 4) (ht : t = -1 - (v : Int)) (h : ts.getD v 0 = 0) : renStep (ts, m) t = (ts.set v (-1 - (m : Int)), m + 1) := by
  have e : (-1 - t).toNat = v := by omega
  have hb : isVarB t = true := by simp [isVarB]; omega
  unfold renStep
  rw [hb, e]
  simp only [h]
  rfl
theorem renStep_skip {ts : List Int} {m v : Nat} {t : Int} (ht : t = -1 - (v : Int)) (h : ts.getD v 0 ≠ 0) : renStep (ts, m) t = (ts, m) := by
  have e : (-1 - t).toNat = v := by omega
  unfold renStep
  rw [e]
  split
  · rename_i hc
    simp only [Bool.and_eq_true, beq_iff_eq] at hc
    exact absurd hc.2 h
  · rfl
theorem term_cases {t : Int} (h : termOk t = true) : 0 ≤ t ∨ t = -1 ∨ t = -2 ∨ t = -3 ∨ t = -4 := by simp [termOk] at h; omega

/-- What holds at l2Atom's loop: k terms are renamed. -/
structure AtRel (w wr : World) (p : Int) (A : Option Addr) (n c : Nat) (ys : List Int) (A' : Option Addr) (c' : Nat) : Prop where
  below : Below w.heap.size w wr
  src : Blk wr w.heap.size 25 #[.int .i64 p, .slice A n c]
  res : Blk wr (w.heap.size + 1) 25 #[.int .i64 0, .slice none 0 0]
  out : Blk wr (w.heap.size + 2) 25 #[.int .i64 p, .slice A' ys.length c']
  own : wr.ownsRow (w.heap.size + 3) 3 1 (.slice A' ys.length c') ys.length (ys.map (Value.int .i64))
theorem blk_ne_own {w : World} {base n size g : Nat} {e t : TypeId} {v : Value} {xs : List Value} {cs : Array Value} (h : w.ownsRow base e size v n xs) (hb : Blk w g t cs) (hne : e ≠ t) : v.ownBlock ≠ some g := by
  rcases h.2 with ⟨rfl, _⟩ | ⟨g', cap, cur, rfl, _, hh, _⟩
  · simp [Value.ownBlock]
  · intro he
    have : g' = g := by simpa [Value.ownBlock] using he
    subst this
    unfold Blk at hb
    rw [hh] at hb
    injection hb with hb
    injection hb with _ hb
    exact hne hb
theorem AtRel.start (w : World) (p : Int) (A : Option Addr) (n c : Nat) : AtRel w (((w.alloc (Obj.cells #[Value.int IntKind.i64 p, Value.slice A n c] 25)).alloc (Obj.cells #[Value.int IntKind.i64 0, Value.slice none 0 0] 25)).alloc (Obj.cells #[Value.int IntKind.i64 p, Value.slice none 0 0] 25)) p A n c [] none 0 :=
  ⟨below3 _ _ _ _, ((Blk.new w _ _).alloc _).alloc _, by simpa using (Blk.new (w.alloc (Obj.cells #[Value.int IntKind.i64 p, Value.slice A n c] 25)) 25 #[.int .i64 0, .slice none 0 0]).alloc (Obj.cells #[Value.int IntKind.i64 p, Value.slice none 0 0] 25),
    by simpa using Blk.new ((w.alloc (Obj.cells #[Value.int IntKind.i64 p, Value.slice A n c] 25)).alloc (Obj.cells #[Value.int IntKind.i64 0, Value.slice none 0 0] 25)) 25 #[.int .i64 p, .slice none 0 0],
    by simpa using World.ownsRow_nil _ _ _ _⟩
theorem AtRel.step {w wr w2 : World} {p : Int} {A A' : Option Addr} {n c c' g cap : Nat} {ys : List Int} {y : Int} {o : Obj} (hr : AtRel w wr p A n c ys A' c') (hg : (wr.alloc o).grownBy w2 (Value.slice A' ys.length c').ownBlock)
    (hown : w2.ownsRow (w.heap.size + 3) 3 1 (.slice (some ⟨g, 0, none⟩) (ys.length + 1) cap) (ys.length + 1) (ys.map (Value.int .i64) ++ [.int .i64 y])) :
    AtRel w (w2.setCell ⟨w.heap.size + 2, 1, none⟩ (.slice (some ⟨g, 0, none⟩) (ys.length + 1) cap)) p A n c (ys ++ [y]) (some ⟨g, 0, none⟩) cap := by
  obtain ⟨h1, h2, h3, h4, h5⟩ := hr
  have hg' := grown_from_alloc hg
  have keep : ∀ {b : Nat} {cs : Array Value}, Blk wr b 25 cs → Blk w2 b 25 cs := fun hb => (hg'.block _ hb.lt (fun e => blk_ne_own h5 hb (by decide) e.symm)).trans hb
  have hl : (ys ++ [y]).length = ys.length + 1 := by simp
  have hs := h4.lt
  refine ⟨(h1.grown hg' h1.size (fun b hb => by have := (h5.lt b hb).1; omega)).setCell (by show w.heap.size ≤ w.heap.size + 2; omega) _, (keep h2).far (by show w.heap.size ≠ w.heap.size + 2; omega) _, (keep h3).far (by show w.heap.size + 1 ≠ w.heap.size + 2; omega) _, ?_, ?_⟩
  · rw [hl]
    exact (keep h4).set_ 1 _
  · rw [hl, List.map_append]
    exact ownsRow_only hown (fun b hb => Below.heap_setCell _ _ _ _ (fun e => blk_ne_own hown (keep h4) (by decide) (by rw [hb, e])))

set_option maxHeartbeats 2000000 in
set_option maxRecDepth 100000 in
theorem l2Atom_any (s : Ren) (g : Nat) (p : Int) (va : Value) (xs : List Int) (w : World) (hT : ToAt w g s) (h : RdInts w w.heap.size va xs) (hn : xs.length ≤ 1048576) (hok : xs.all termOk = true) :
    Calls Try.prog 63 #[.agg #[.int .i64 p, va], .slice (some ⟨g, 0, none⟩) 4 4] w fun e w' => ∃ A' c', e = .returned (.agg #[.int .i64 p, .slice A' xs.length c']) ∧
      OwnInts w' w.heap.size w'.heap.size (.slice A' xs.length c') (xs.map (look s)) ∧ Below w.heap.size w w' := by
  obtain ⟨i0, hi0, hz0, hz1, hz2⟩ := info_parts Try.infoInt
  have HT := Lib.hid hT
  have hgw := hT.lt
  clear hT
  obtain ⟨A, c, rfl, hc, h⟩ := h
  go_enter Try.func63, Try.ntmps63
  go_wp2_with (fail)
  go_loopw [6, 7] (fun i _ wr => ∃ (k : Nat) (A' : Option Addr) (c' : Nat), k ≤ xs.length ∧ i = .int .i64 k ∧ AtRel w wr p A xs.length c ((xs.take k).map (look s)) A' c') (fun i _ _ => xs.length - (intOf i).toNat)
  case atStart => exact ⟨0, none, 0, Nat.zero_le _, rfl, AtRel.start w p A xs.length c⟩
  case round =>
    obtain ⟨k, A', c', hk, rfl, hr⟩ := hrel
    have q0 : wr.cell? ⟨w.heap.size, 1, none⟩ = some (.slice A xs.length c) := hr.src.cell 1
    have hyl : ((xs.take k).map (look s)).length = k := by simp; omega
    by_cases hlt : k < xs.length
    · obtain ⟨b, o, rfl, hbB, hx⟩ := h (by omega)
      have q1 : wr.cell? ⟨w.heap.size + 2, 1, none⟩ = some (.slice A' k c') := by have := hr.out.cell 1; rw [hyl] at this; exact this
      have hck : wr.cell? ⟨b, o + k, none⟩ = some (.int .i64 xs[k]) := (hr.below.cell (p := ⟨b, o + k, none⟩) hbB).trans (hx k hlt)
      have htk := term_cases (List.all_eq_true.1 hok _ (List.getElem_mem hlt))
      have hT2 := HT.out.below hr.below hgw
      have hbs := hr.out.lt
      have hf1 := hr.out.frozen 1
      have HR := Lib.hid hr
      clear hr
      have HNX := Lib.hid (show (xs.take k).map (look s) ++ [look s xs[k]] = (xs.take (k + 1)).map (look s) by rw [take_snoc xs k hlt, List.map_append]; rfl)
      generalize (xs.take k).map (look s) = ys at HR HNX hyl
      have HYL := Lib.hid hyl
      clear hx h hyl hok
      go_upto_region 6 with fail
      go_cut [31] (fun v wx => v = .bool (isVarB xs[k]) ∧ wx = wr)
      case first =>
        rcases htk with e | e | e | e | e
        · have hd : decide (xs[k] < 0) = false := by simp; omega
          have HY := Lib.hid (show isVarB xs[k] = false by simp [isVarB]; omega)
          clear e
          go_wp2_with (fail)
          go_meet
          exact ⟨by rw [HY.out], rfl⟩
        · have hd : decide (xs[k] < 0) = true := by simp; omega
          have hi : -1 - xs[k] = (0 : Int) := by omega
          have HY := Lib.hid (show isVarB xs[k] = true by simp [isVarB]; omega)
          clear e
          go_wp2_with (fail)
          go_meet
          exact ⟨by rw [HY.out], rfl⟩
        · have hd : decide (xs[k] < 0) = true := by simp; omega
          have hi : -1 - xs[k] = (1 : Int) := by omega
          have HY := Lib.hid (show isVarB xs[k] = true by simp [isVarB]; omega)
          clear e
          go_wp2_with (fail)
          go_meet
          exact ⟨by rw [HY.out], rfl⟩
        · have hd : decide (xs[k] < 0) = true := by simp; omega
          have hi : -1 - xs[k] = (2 : Int) := by omega
          have HY := Lib.hid (show isVarB xs[k] = true by simp [isVarB]; omega)
          clear e
          go_wp2_with (fail)
          go_meet
          exact ⟨by rw [HY.out], rfl⟩
        · have hd : decide (xs[k] < 0) = true := by simp; omega
          have hi : -1 - xs[k] = (3 : Int) := by omega
          have HY := Lib.hid (show isVarB xs[k] = true by simp [isVarB]; omega)
          clear e
          go_wp2_with (fail)
          go_meet
          exact ⟨by rw [HY.out], rfl⟩
      case rest =>
      obtain ⟨rfl, rfl⟩ := hcut
      go_step
      go_cut [7] (fun v wx => v = .int .i64 (look s xs[k]) ∧ wx = wc)
      case first =>
        rcases htk with e | e | e | e | e
        · have HB : isVarB xs[k] = false := by simp [isVarB]; omega
          have HY := Lib.hid (show xs[k] = look s xs[k] by unfold look; rw [if_neg (by rw [HB]; decide)])
          rw [HB]
          clear e HB
          go_wp2_with (fail)
          go_meet
          exact ⟨by rw [← HY.out], rfl⟩
        · obtain ⟨c0, _⟩ := hT2.cell (v := 0) (by omega)
          have HY := Lib.hid (show s.1.getD 0 0 = look s xs[k] by rw [e]; rfl)
          have HB : isVarB xs[k] = true := by simp [isVarB]; omega
          have hi : -1 - xs[k] = (0 : Int) := by omega
          rw [HB]
          generalize s.1.getD 0 0 = z at c0 HY
          clear e HB hT2
          go_wp2_with (fail)
          go_meet
          exact ⟨by rw [HY.out], rfl⟩
        · obtain ⟨c0, _⟩ := hT2.cell (v := 1) (by omega)
          have HY := Lib.hid (show s.1.getD 1 0 = look s xs[k] by rw [e]; rfl)
          have HB : isVarB xs[k] = true := by simp [isVarB]; omega
          have hi : -1 - xs[k] = (1 : Int) := by omega
          rw [HB]
          generalize s.1.getD 1 0 = z at c0 HY
          clear e HB hT2
          go_wp2_with (fail)
          go_meet
          exact ⟨by rw [HY.out], rfl⟩
        · obtain ⟨c0, _⟩ := hT2.cell (v := 2) (by omega)
          have HY := Lib.hid (show s.1.getD 2 0 = look s xs[k] by rw [e]; rfl)
          have HB : isVarB xs[k] = true := by simp [isVarB]; omega
          have hi : -1 - xs[k] = (2 : Int) := by omega
          rw [HB]
          generalize s.1.getD 2 0 = z at c0 HY
          clear e HB hT2
          go_wp2_with (fail)
          go_meet
          exact ⟨by rw [HY.out], rfl⟩
        · obtain ⟨c0, _⟩ := hT2.cell (v := 3) (by omega)
          have HY := Lib.hid (show s.1.getD 3 0 = look s xs[k] by rw [e]; rfl)
          have HB : isVarB xs[k] = true := by simp [isVarB]; omega
          have hi : -1 - xs[k] = (3 : Int) := by omega
          rw [HB]
          generalize s.1.getD 3 0 = z at c0 HY
          clear e HB hT2
          go_wp2_with (fail)
          go_meet
          exact ⟨by rw [HY.out], rfl⟩
      case rest =>
        obtain ⟨rfl, rfl⟩ := hcut
        generalize hy : look s xs[k] = y at HNX
        clear hck htk hy hT2
        have hko : k + 1 ≤ 1048577 := by omega
        go_wp2_with (at_builtin; refine wpList_append_lies _ rfl (.tmp 38) (.tmp 40) 23 rfl (w.heap.size + 3) 3 i0 (.int .i64 0) 1 8 Try.underlying23 hi0 hz0 hz1 hz2 rfl (by decide) (.slice A' k c') k (ys.map (Value.int .i64)) rfl ?c1 ⟨_, 0, none⟩ 1 1 [.int .i64 y] rfl rfl (news1s _ _ _ _ (by simp)) ?c2 (by omega) (by unfold maxLen; omega) (by omega) ?c3 _ rfl ?_)
        case c1 => have := HR.out.own; rw [HYL.out] at this; exact this.alloc _
        case c2 => intro u hu; simp at hu; subst hu; rfl
        case c3 => simp; omega
        intro g2 cap w4 hown hg _ _
        have hown' : w4.ownsRow (w.heap.size + 3) 3 1 (.slice (some ⟨g2, 0, none⟩) (ys.length + 1) cap) (ys.length + 1) (ys.map (Value.int .i64) ++ [.int .i64 y]) := by rw [HYL.out]; exact hown
        have hg' : (wc.alloc (Obj.cells #[Value.int IntKind.i64 y] 3)).grownBy w4 (Value.slice A' ys.length c').ownBlock := by rw [HYL.out]; exact hg
        have hst := HR.out.step hg' hown'
        rw [HNX.out, HYL.out] at hst
        have hgg := grown_from_alloc hg
        have hne : (Value.slice A' k c').ownBlock ≠ some (w.heap.size + 2) := by have := HR.out.own; rw [HYL.out] at this; exact blk_ne_own this HR.out.out (by decide)
        have e1 : w4.cell? ⟨w.heap.size + 2, 1, none⟩ = some (.slice A' k c') := hgg.cell q1 (fun e => hne e.symm)
        have e2 : w4.frozen? ⟨w.heap.size + 2, 1, none⟩ = false := (hgg.frozen_far _ hbs (fun e => hne e.symm)).trans hf1
        have HS := Lib.hid hst
        clear hst hgg hown hown' hg hg' q0 q1 hf1
        go_wp2_with (fail)
        go_roundw
        case rel => exact ⟨k + 1, _, _, by omega, by go_num, HS.out⟩
        case measure => simp [intOf]; omega
    · have hkn : k = xs.length := by omega
      rw [hkn, List.take_length] at hr
      have hyl2 : (xs.map (look s)).length = xs.length := by simp
      have c0 : wr.cell? ⟨w.heap.size + 2, 0, none⟩ = some (.int .i64 p) := hr.out.cell 0
      have c1 : wr.cell? ⟨w.heap.size + 2, 1, none⟩ = some (.slice A' xs.length c') := by have := hr.out.cell 1; rw [hyl2] at this; exact this
      have d0 : wr.cell? ⟨w.heap.size + 1, 0, none⟩ = some (.int .i64 0) := hr.res.cell 0
      have d1 : wr.cell? ⟨w.heap.size + 1, 1, none⟩ = some (.slice none 0 0) := hr.res.cell 1
      have f0 := hr.res.frozen 0
      have f1 := hr.res.frozen 1
      have HO : OwnInts wr (w.heap.size + 3) wr.heap.size (.slice A' xs.length c') (xs.map (look s)) := ⟨by have := hr.own; rw [hyl2] at this; rw [hyl2]; exact this, fun b hb => by have := hr.own; rw [hyl2] at this; exact (this.lt b hb).2⟩
      have hbe := hr.below
      clear hr h hok hyl hyl2 hkn
      go_wp2_with (fail)
      refine bodyPost_ret (v := .agg #[.int .i64 p, .slice A' xs.length c']) (by simp [results, Try.results63, go_sem, d0, d1]) rfl ⟨_, _, rfl, ?_, ?_⟩
      · exact ((HO.set (.inl (by show w.heap.size + 1 < w.heap.size + 3; omega)) _).set (.inl (by show w.heap.size + 1 < w.heap.size + 3; omega)) _).mono (by omega) (by simp)
      · exact (hbe.setCell (by show w.heap.size ≤ w.heap.size + 1; omega) _).setCell (by show w.heap.size ≤ w.heap.size + 1; omega) _

end Go.Proofs.Ytocpfmbieedpgaa
/-
  The walk of the specification's l2Atom where nothing is renamed.
-/
namespace Go.Proofs.Ytocpfmbieedpgaa
open Go.RowKit

set_option maxHeartbeats 2000000 in
set_option maxRecDepth 100000 in
theorem l2AtomN_any (p : Int) (va : Value) (xs : List Int) (w : World) (h : RdInts w w.heap.size va xs) (hn : xs.length ≤ 1048576) (hok : xs.all termOk = true) :
    Calls Try.prog 63 #[.agg #[.int .i64 p, va], .slice none 0 0] w fun e w' => ∃ A' c', e = .returned (.agg #[.int .i64 p, .slice A' xs.length c']) ∧
      OwnInts w' w.heap.size w'.heap.size (.slice A' xs.length c') xs ∧ Below w.heap.size w w' := by
  obtain ⟨i0, hi0, hz0, hz1, hz2⟩ := info_parts Try.infoInt
  obtain ⟨A, c, rfl, hc, h⟩ := h
  go_enter Try.func63, Try.ntmps63
  go_wp2_with (fail)
  go_loopw [6, 7] (fun i _ wr => ∃ (k : Nat) (A' : Option Addr) (c' : Nat), k ≤ xs.length ∧ i = .int .i64 k ∧ AtRel w wr p A xs.length c (xs.take k) A' c') (fun i _ _ => xs.length - (intOf i).toNat)
  case atStart => exact ⟨0, none, 0, Nat.zero_le _, rfl, AtRel.start w p A xs.length c⟩
  case round =>
    obtain ⟨k, A', c', hk, rfl, hr⟩ := hrel
    have q0 : wr.cell? ⟨w.heap.size, 1, none⟩ = some (.slice A xs.length c) := hr.src.cell 1
    have hyl : (xs.take k).length = k := by simp; omega
    by_cases hlt : k < xs.length
    · obtain ⟨b, o, rfl, hbB, hx⟩ := h (by omega)
      have q1 : wr.cell? ⟨w.heap.size + 2, 1, none⟩ = some (.slice A' k c') := by have := hr.out.cell 1; rw [hyl] at this; exact this
      have hck : wr.cell? ⟨b, o + k, none⟩ = some (.int .i64 xs[k]) := (hr.below.cell (p := ⟨b, o + k, none⟩) hbB).trans (hx k hlt)
      have htk := term_case5 (List.all_eq_true.1 hok _ (List.getElem_mem hlt))
      have hbs := hr.out.lt
      have hf1 := hr.out.frozen 1
      have HR := Lib.hid hr
      clear hr
      have HNX := Lib.hid (show xs.take k ++ [xs[k]] = xs.take (k + 1) from (take_snoc xs k hlt).symm)
      generalize xs.take k = ys at HR HNX hyl
      have HYL := Lib.hid hyl
      clear hx h hyl hok
      go_upto_region 6 with fail
      go_cut [31] (fun v wx => v = .bool false ∧ wx = wr)
      case first =>
        rcases htk with e | e | e | e | e
        · have hd : decide (xs[k] < 0) = false := by simp; omega
          clear e
          go_wp2_with (fail)
          go_meet
          exact ⟨rfl, rfl⟩
        · have hd : decide (xs[k] < 0) = true := by simp; omega
          have hi : -1 - xs[k] = (0 : Int) := by omega
          clear e
          go_wp2_with (fail)
          go_meet
          exact ⟨rfl, rfl⟩
        · have hd : decide (xs[k] < 0) = true := by simp; omega
          have hi : -1 - xs[k] = (1 : Int) := by omega
          clear e
          go_wp2_with (fail)
          go_meet
          exact ⟨rfl, rfl⟩
        · have hd : decide (xs[k] < 0) = true := by simp; omega
          have hi : -1 - xs[k] = (2 : Int) := by omega
          clear e
          go_wp2_with (fail)
          go_meet
          exact ⟨rfl, rfl⟩
        · have hd : decide (xs[k] < 0) = true := by simp; omega
          have hi : -1 - xs[k] = (3 : Int) := by omega
          clear e
          go_wp2_with (fail)
          go_meet
          exact ⟨rfl, rfl⟩
      case rest =>
        obtain ⟨rfl, rfl⟩ := hcut
        generalize hy : xs[k] = y at HNX hck
        clear htk hy
        have hko : k + 1 ≤ 1048577 := by omega
        go_wp2_with (at_builtin; refine wpList_append_lies _ rfl (.tmp 38) (.tmp 40) 23 rfl (w.heap.size + 3) 3 i0 (.int .i64 0) 1 8 Try.underlying23 hi0 hz0 hz1 hz2 rfl (by decide) (.slice A' k c') k (ys.map (Value.int .i64)) rfl ?c1 ⟨_, 0, none⟩ 1 1 [.int .i64 y] rfl rfl (news1s _ _ _ _ (by simp)) ?c2 (by omega) (by unfold maxLen; omega) (by omega) ?c3 _ rfl ?_)
        case c1 => have := HR.out.own; rw [HYL.out] at this; exact this.alloc _
        case c2 => intro u hu; simp at hu; subst hu; rfl
        case c3 => simp; omega
        intro g2 cap w4 hown hg _ _
        have hown' : w4.ownsRow (w.heap.size + 3) 3 1 (.slice (some ⟨g2, 0, none⟩) (ys.length + 1) cap) (ys.length + 1) (ys.map (Value.int .i64) ++ [.int .i64 y]) := by rw [HYL.out]; exact hown
        have hg' : (wc.alloc (Obj.cells #[Value.int IntKind.i64 y] 3)).grownBy w4 (Value.slice A' ys.length c').ownBlock := by rw [HYL.out]; exact hg
        have hst := HR.out.step hg' hown'
        rw [HNX.out, HYL.out] at hst
        have hgg := grown_from_alloc hg
        have hne : (Value.slice A' k c').ownBlock ≠ some (w.heap.size + 2) := by have := HR.out.own; rw [HYL.out] at this; exact blk_ne_own this HR.out.out (by decide)
        have e1 : w4.cell? ⟨w.heap.size + 2, 1, none⟩ = some (.slice A' k c') := hgg.cell q1 (fun e => hne e.symm)
        have e2 : w4.frozen? ⟨w.heap.size + 2, 1, none⟩ = false := (hgg.frozen_far _ hbs (fun e => hne e.symm)).trans hf1
        have HS := Lib.hid hst
        clear hst hgg hown hown' hg hg' q0 q1 hf1
        go_wp2_with (fail)
        go_roundw
        case rel => exact ⟨k + 1, _, _, by omega, by go_num, HS.out⟩
        case measure => simp [intOf]; omega
    · have hkn : k = xs.length := by omega
      rw [hkn, List.take_length] at hr
      have c0 : wr.cell? ⟨w.heap.size + 2, 0, none⟩ = some (.int .i64 p) := hr.out.cell 0
      have c1 : wr.cell? ⟨w.heap.size + 2, 1, none⟩ = some (.slice A' xs.length c') := hr.out.cell 1
      have d0 : wr.cell? ⟨w.heap.size + 1, 0, none⟩ = some (.int .i64 0) := hr.res.cell 0
      have d1 : wr.cell? ⟨w.heap.size + 1, 1, none⟩ = some (.slice none 0 0) := hr.res.cell 1
      have f0 := hr.res.frozen 0
      have f1 := hr.res.frozen 1
      have HO : OwnInts wr (w.heap.size + 3) wr.heap.size (.slice A' xs.length c') xs := ⟨hr.own, fun b hb => (hr.own.lt b hb).2⟩
      have hbe := hr.below
      clear hr h hok hyl hkn
      go_wp2_with (fail)
      refine bodyPost_ret (v := .agg #[.int .i64 p, .slice A' xs.length c']) (by simp [results, Try.results63, go_sem, d0, d1]) rfl ⟨_, _, rfl, ?_, ?_⟩
      · exact ((HO.set (.inl (by show w.heap.size + 1 < w.heap.size + 3; omega)) _).set (.inl (by show w.heap.size + 1 < w.heap.size + 3; omega)) _).mono (by omega) (by simp)
      · exact (hbe.setCell (by show w.heap.size ≤ w.heap.size + 1; omega) _).setCell (by show w.heap.size ≤ w.heap.size + 1; omega) _

end Go.Proofs.Ytocpfmbieedpgaa
/-
  The plan of a rule by an order; the order in which what is asked comes soonest; all orders. Plain mathematics.
-/
namespace Go.Proofs.Ytocpfmbieedpgaa
open Go.RowKit

/-- The literal at an index. -/
def litAt (b : List LLit) (i : Int) : LLit := b.getD i.toNat (0, 0, [])
theorem litAt_get {b : List LLit} {i : Int} {n : Nat} (h : i = (n : Int)) (hn : n < b.length) : litAt b i = b[n] := by
  subst h
  simp [litAt, hn]
/-- What is known behind an order. -/
def ordMask (b : List LLit) (os : List Int) : Nat := os.foldl (fun m i => m ||| maskOf (litAt b i).2.2) 0
theorem ordMask_snoc (b : List LLit) (os : List Int) (i : Int) : ordMask b (os ++ [i]) = ordMask b os ||| maskOf (litAt b i).2.2 := by
  simp [ordMask, List.foldl_append]
theorem ordMask_take {b : List LLit} {os : List Int} {k : Nat} (h : k < os.length) : ordMask b (os.take (k + 1)) = ordMask b (os.take k) ||| maskOf (litAt b os[k]).2.2 := by
  rw [take_snoc os k h, ordMask_snoc]
theorem ordMask_lt (b : List LLit) (os : List Int) : ordMask b os < 16 := by
  unfold ordMask
  suffices h : ∀ (os : List Int) (m : Nat), m < 16 → os.foldl (fun m i => m ||| maskOf (litAt b i).2.2) m < 16 from h os 0 (by omega)
  intro os
  induction os with
  | nil => intro m hm; exact hm
  | cons i os ih => intro m hm; exact ih _ (or_lt16 hm (maskOf_lt _))
/-- A literal can be done where m is known. -/
def canB (l : LLit) (m : Nat) : Bool := decide (l.1 = 0) || !openB l.2.2 m
/-- Place k of an order is an index that has not come yet, of a literal that can be done there. -/
def ordAt (b : List LLit) (os : List Int) (k : Nat) : Bool :=
  decide (0 ≤ os.getD k 0 ∧ os.getD k 0 < (b.length : Int)) && (!(os.take k).contains (os.getD k 0) && canB (litAt b (os.getD k 0)) (ordMask b (os.take k)))
def OrdTo (b : List LLit) (os : List Int) (k : Nat) : Prop := ∀ j, j < k → ordAt b os j = true
instance (b : List LLit) (os : List Int) (k : Nat) : Decidable (OrdTo b os k) := by unfold OrdTo; infer_instance
def orderOk (b : List LLit) (os : List Int) : Bool := decide (os.length = b.length) && decide (OrdTo b os os.length)
theorem OrdTo.start {b : List LLit} {os : List Int} : OrdTo b os 0 := fun j hj => absurd hj (by omega)
theorem OrdTo.step {b : List LLit} {os : List Int} {k : Nat} (h : OrdTo b os k) (e : ordAt b os k = true) : OrdTo b os (k + 1) := fun j hj => by
  by_cases e2 : j = k
  · subst e2; exact e
  · exact h j (by omega)
theorem orderOk_yes {b : List LLit} {os : List Int} {k : Nat} (hl : os.length = b.length) (h : OrdTo b os k) (hk : k = os.length) : orderOk b os = true := by
  subst hk
  simp only [orderOk, Bool.and_eq_true, decide_eq_true_eq]
  exact ⟨hl, h⟩
theorem orderOk_not {b : List LLit} {os : List Int} {k : Nat} (hk : k < os.length) (e : ordAt b os k = false) : orderOk b os = false := by
  have : ¬ OrdTo b os os.length := fun h => by have := h k hk; rw [e] at this; cases this
  simp [orderOk, this]
theorem orderOk_len {b : List LLit} {os : List Int} (h : os.length ≠ b.length) : orderOk b os = false := by simp [orderOk, h]
theorem ordAt_get {b : List LLit} {os : List Int} {k : Nat} (h : k < os.length) : ordAt b os k = (decide (0 ≤ os[k] ∧ os[k] < (b.length : Int)) && (!(os.take k).contains os[k] && canB (litAt b os[k]) (ordMask b (os.take k)))) := by
  unfold ordAt
  rw [show os.getD k 0 = os[k] by simp [h]]

/-- The operation of a literal. -/
def kindOf (l : LLit) (m : Nat) : Int := if l.1 = 0 then (if openB l.2.2 m then 0 else 1) else l.1 + 1
/-- The operations of the first k places of an order. -/
def opsTo (b : List LLit) (os : List Int) : Nat → List LLit
  | 0 => []
  | k + 1 => opsTo b os k ++ [(kindOf (litAt b (os.getD k 0)) (ordMask b (os.take k)), (litAt b (os.getD k 0)).2)]
theorem opsTo_len (b : List LLit) (os : List Int) : ∀ k, (opsTo b os k).length = k
  | 0 => rfl
  | k + 1 => by simp [opsTo, opsTo_len b os k]
theorem opsTo_step {b : List LLit} {os : List Int} {k : Nat} (h : k < os.length) : opsTo b os (k + 1) = opsTo b os k ++ [(kindOf (litAt b os[k]) (ordMask b (os.take k)), (litAt b os[k]).2)] := by
  show opsTo b os k ++ _ = _
  rw [show os.getD k 0 = os[k] by simp [h]]
def planFor (r : LRule) (os : List Int) : List LLit := opsTo r.2 os os.length ++ [(5, r.1)]
def planByK (ar : List Int) (r : LRule) (os : List Int) : Bool := ruleOk ar r && orderOk r.2 os
def planByL (ar : List Int) (r : LRule) (os : List Int) : List LLit := if planByK ar r os = true then planFor r os else []
theorem planBy_no {ar : List Int} {r : LRule} {os : List Int} (h : planByK ar r os = false) : planByL ar r os = [] := by simp [planByL, h]
theorem planBy_yes {ar : List Int} {r : LRule} {os : List Int} (h : planByK ar r os = true) : planByL ar r os = planFor r os := by simp [planByL, h]
theorem planFor_len (r : LRule) (os : List Int) : (planFor r os).length = os.length + 1 := by simp [planFor, opsTo_len]

/-- The first literal of those from k on that is not done and can be asked; else the first LitYes; else -1. -/
def soonFrom (b : List LLit) (done : List Int) (m : Nat) : Nat → Int → Int
  | k, at_ => if h : k < b.length then
      (if done.contains (k : Int) then soonFrom b done m (k + 1) at_
       else if openB b[k].2.2 m = false then (k : Int)
       else soonFrom b done m (k + 1) (if at_ < 0 ∧ b[k].1 = 0 then (k : Int) else at_))
    else at_
termination_by k => b.length - k
def soonL (b : List LLit) (done : List Int) (m : Nat) : Int := soonFrom b done m 0 (-1)
theorem soonFrom_end {b : List LLit} {done : List Int} {m k : Nat} {at_ : Int} (h : ¬ k < b.length) : soonFrom b done m k at_ = at_ := by
  rw [soonFrom, dif_neg h]
theorem soonFrom_done {b : List LLit} {done : List Int} {m k : Nat} {at_ : Int} (h : k < b.length) (hd : done.contains (k : Int) = true) : soonFrom b done m k at_ = soonFrom b done m (k + 1) at_ := by
  rw [soonFrom, dif_pos h, if_pos hd]
theorem soonFrom_here {b : List LLit} {done : List Int} {m k : Nat} {at_ : Int} (h : k < b.length) (hd : done.contains (k : Int) = false) (ho : openB b[k].2.2 m = false) : soonFrom b done m k at_ = (k : Int) := by
  rw [soonFrom, dif_pos h, if_neg (by rw [hd]; decide), if_pos ho]
theorem soonFrom_on {b : List LLit} {done : List Int} {m k : Nat} {at_ : Int} (h : k < b.length) (hd : done.contains (k : Int) = false) (ho : openB b[k].2.2 m = true) : soonFrom b done m k at_ = soonFrom b done m (k + 1) (if at_ < 0 ∧ b[k].1 = 0 then (k : Int) else at_) := by
  rw [soonFrom, dif_pos h, if_neg (by rw [hd]; decide), if_neg (by rw [ho]; decide)]
/-- The order, place by place. -/
def soonOrd (b : List LLit) : Nat → List Int
  | 0 => []
  | k + 1 => soonOrd b k ++ [soonL b (soonOrd b k) (ordMask b (soonOrd b k))]
theorem soonOrd_len (b : List LLit) : ∀ k, (soonOrd b k).length = k
  | 0 => rfl
  | k + 1 => by simp [soonOrd, soonOrd_len b k]
theorem soonOrd_take (b : List LLit) : ∀ {n k : Nat}, k ≤ n → (soonOrd b n).take k = soonOrd b k
  | 0, k, h => by simp [show k = 0 by omega, soonOrd]
  | n + 1, k, h => by
    by_cases e : k = n + 1
    · subst e
      rw [List.take_of_length_le (by rw [soonOrd_len]; exact Nat.le_refl _)]
    · rw [soonOrd, List.take_append_of_le_length (by rw [soonOrd_len]; omega)]
      exact soonOrd_take b (by omega)
/-- What soonFrom answers. -/
theorem soonFrom_is (b : List LLit) (done : List Int) (m : Nat) : ∀ (n k : Nat) (at_ : Int), b.length - k = n → (at_ < 0 ∨ ∃ j : Nat, at_ = (j : Int) ∧ ∃ h : j < b.length, done.contains (j : Int) = false ∧ b[j].1 = 0) →
    (soonFrom b done m k at_ < 0 ∧ at_ < 0 ∧ ∀ j, k ≤ j → ∀ h : j < b.length, done.contains (j : Int) = false → openB b[j].2.2 m = true ∧ b[j].1 ≠ 0) ∨
    ∃ j : Nat, soonFrom b done m k at_ = (j : Int) ∧ ∃ h : j < b.length, done.contains (j : Int) = false ∧ (openB b[j].2.2 m = false ∨ b[j].1 = 0)
  | 0, k, at_, hn, ha => by
    rw [soonFrom_end (by omega)]
    rcases ha with ha | ⟨j, h1, h2, h3, h4⟩
    · exact .inl ⟨ha, ha, fun j h1 h2 => absurd h2 (by omega)⟩
    · exact .inr ⟨j, h1, h2, h3, .inr h4⟩
  | n + 1, k, at_, hn, ha => by
    have hk : k < b.length := by clear ha; omega
    have hn1 : b.length - (k + 1) = n := by clear ha; omega
    cases hd : done.contains (k : Int)
    · cases ho : openB b[k].2.2 m
      · rw [soonFrom_here hk hd ho]
        exact .inr ⟨k, rfl, hk, hd, .inl ho⟩
      · rw [soonFrom_on hk hd ho]
        have ha2 : (if at_ < 0 ∧ b[k].1 = 0 then (k : Int) else at_) < 0 ∨ ∃ j : Nat, (if at_ < 0 ∧ b[k].1 = 0 then (k : Int) else at_) = (j : Int) ∧ ∃ h : j < b.length, done.contains (j : Int) = false ∧ b[j].1 = 0 := by
          by_cases hc : at_ < 0 ∧ b[k].1 = 0
          · rw [if_pos hc]; exact .inr ⟨k, rfl, hk, hd, hc.2⟩
          · rw [if_neg hc]; exact ha
        rcases soonFrom_is b done m n (k + 1) _ hn1 ha2 with ⟨h1, h2, h3⟩ | h
        · have hc : ¬ (at_ < 0 ∧ b[k].1 = 0) := fun hc => by rw [if_pos hc] at h2; omega
          rw [if_neg hc] at h1 h2 ⊢
          refine .inl ⟨h1, h2, fun j hj hl hdj => ?_⟩
          by_cases e : j = k
          · subst e; exact ⟨ho, fun e => hc ⟨h2, e⟩⟩
          · exact h3 j (by omega) hl hdj
        · exact .inr h
    · rw [soonFrom_done hk hd]
      rcases soonFrom_is b done m n (k + 1) at_ hn1 ha with ⟨h1, h2, h3⟩ | h
      · refine .inl ⟨h1, h2, fun j hj hl hdj => ?_⟩
        by_cases e : j = k
        · subst e; rw [hd] at hdj; cases hdj
        · exact h3 j (by omega) hl hdj
      · exact .inr h

theorem yesMask_bit : ∀ (b : List LLit) (i : Nat), (yesMask b).testBit i = b.any fun l => decide (l.1 = 0) && (maskOf l.2.2).testBit i := by
  have h : ∀ (b : List LLit) (m i : Nat), (b.foldl (fun m l => if l.1 = 0 then m ||| maskOf l.2.2 else m) m).testBit i = (m.testBit i || b.any fun l => decide (l.1 = 0) && (maskOf l.2.2).testBit i) := by
    intro b
    induction b with
    | nil => intro m i; simp
    | cons l b ih =>
      intro m i
      rw [List.foldl_cons, ih, List.any_cons]
      by_cases hl : l.1 = 0
      · simp [hl, Nat.testBit_or, Bool.or_assoc]
      · simp [hl]
  intro b i
  unfold yesMask
  rw [h]
  simp
theorem bodyMask_bit : ∀ (b : List LLit) (i : Nat), (bodyMask b).testBit i = b.any fun l => (maskOf l.2.2).testBit i := by
  have h : ∀ (b : List LLit) (m i : Nat), (b.foldl (fun m l => m ||| maskOf l.2.2) m).testBit i = (m.testBit i || b.any fun l => (maskOf l.2.2).testBit i) := by
    intro b
    induction b with
    | nil => intro m i; simp
    | cons l b ih =>
      intro m i
      rw [List.foldl_cons, ih, List.any_cons]
      simp [Nat.testBit_or, Bool.or_assoc]
  intro b i
  unfold bodyMask
  rw [h]
  simp
theorem ordMask_bit (b : List LLit) : ∀ (os : List Int) (i : Nat), (ordMask b os).testBit i = os.any fun o => (maskOf (litAt b o).2.2).testBit i := by
  have h : ∀ (os : List Int) (m i : Nat), (os.foldl (fun m o => m ||| maskOf (litAt b o).2.2) m).testBit i = (m.testBit i || os.any fun o => (maskOf (litAt b o).2.2).testBit i) := by
    intro os
    induction os with
    | nil => intro m i; simp
    | cons l os ih =>
      intro m i
      rw [List.foldl_cons, ih, List.any_cons]
      simp [Nat.testBit_or, Bool.or_assoc]
  intro os i
  unfold ordMask
  rw [h]
  simp
/-- In what is left of a safe body there is a literal that can be done. -/
theorem soonL_is {r : LRule} (hs : ruleSafe r = true) {done : List Int} {j0 : Nat} (hj0 : j0 < r.2.length) (hd0 : done.contains (j0 : Int) = false) :
    ∃ j : Nat, soonL r.2 done (ordMask r.2 done) = (j : Int) ∧ ∃ h : j < r.2.length, done.contains (j : Int) = false ∧ canB r.2[j] (ordMask r.2 done) = true := by
  rcases soonFrom_is r.2 done (ordMask r.2 done) r.2.length 0 (-1) (by omega) (.inl (by omega)) with ⟨_, _, h⟩ | ⟨j, h1, h2, h3, h4⟩
  · exfalso
    obtain ⟨ho, _⟩ := h j0 (Nat.zero_le _) hj0 hd0
    rw [openB_iff] at ho
    obtain ⟨t, ht, hv, hb⟩ := ho
    rw [ruleSafe_eq] at hs
    have hi := var_lt4 hv
    have h1 : (ruleMask r).testBit (-1 - t).toNat = true := by
      unfold ruleMask
      rw [Nat.testBit_or, bodyMask_bit]
      have : (r.2.any fun l => (maskOf l.2.2).testBit (-1 - t).toNat) = true := by
        rw [List.any_eq_true]
        refine ⟨_, List.getElem_mem hj0, ?_⟩
        rw [maskOf_bit, List.any_eq_true]
        exact ⟨t, ht, by simp [hv]⟩
      rw [this, Bool.or_true]
    have h2 : (yesMask r.2).testBit (-1 - t).toNat = true := by
      unfold safeTo at hs
      rw [List.all_eq_true] at hs
      have := hs (-1 - t).toNat (by simp; omega)
      rw [h1] at this
      simpa using this
    rw [yesMask_bit, List.any_eq_true] at h2
    obtain ⟨l, hl, h3⟩ := h2
    simp only [Bool.and_eq_true, decide_eq_true_eq] at h3
    obtain ⟨i, hil, rfl⟩ := List.getElem_of_mem hl
    cases hd : done.contains (i : Int)
    · exact (h i (Nat.zero_le _) hil hd).2 h3.1
    · have : (ordMask r.2 done).testBit (-1 - t).toNat = true := by
        rw [ordMask_bit, List.any_eq_true]
        refine ⟨(i : Int), by simpa using hd, ?_⟩
        rw [litAt_get rfl hil]
        exact h3.2
      rw [this] at hb
      cases hb
  · refine ⟨j, h1, h2, h3, ?_⟩
    unfold canB
    rcases h4 with h4 | h4 <;> simp [h4]
/-- A list of fewer numbers than there are leaves one out. -/
theorem all_in_len : ∀ (n : Nat) (os : List Int), (∀ j, j < n → ((j : Nat) : Int) ∈ os) → n ≤ os.length
  | 0, _, _ => Nat.zero_le _
  | n + 1, os, h => by
    have hm := h n (by omega)
    have := all_in_len n (os.erase (n : Int)) fun j hj => (List.mem_erase_of_ne (by omega)).2 (h j (by omega))
    rw [List.length_erase_of_mem hm] at this
    have := List.length_pos_of_mem hm
    omega
theorem left_over (n : Nat) (os : List Int) (h : os.length < n) : ∃ j : Nat, j < n ∧ os.contains (j : Int) = false := by
  apply Classical.byContradiction
  intro hc
  have := all_in_len n os fun j hj => by
    apply Classical.byContradiction
    intro hm
    exact hc ⟨j, hj, by simpa using hm⟩
  omega
theorem soonOrd_ok {r : LRule} (hs : ruleSafe r = true) : ∀ {n k : Nat}, n ≤ r.2.length → k < n → ordAt r.2 (soonOrd r.2 n) k = true := by
  intro n k hn hk
  have hkl : k < (soonOrd r.2 n).length := by rw [soonOrd_len]; exact hk
  rw [ordAt_get hkl]
  have e1 : (soonOrd r.2 n).take k = soonOrd r.2 k := soonOrd_take r.2 (by omega)
  have e2 : (soonOrd r.2 n)[k] = soonL r.2 (soonOrd r.2 k) (ordMask r.2 (soonOrd r.2 k)) := by
    have h := soonOrd_take r.2 (n := n) (k := k + 1) (by omega)
    rw [take_snoc _ k hkl, e1, soonOrd] at h
    have := List.append_cancel_left h
    simpa using this
  rw [e1, e2]
  obtain ⟨j0, hj0, hd0⟩ := left_over r.2.length (soonOrd r.2 k) (by rw [soonOrd_len]; omega)
  obtain ⟨j, h1, h2, h3, h4⟩ := soonL_is hs hj0 hd0
  rw [h1, h3, litAt_get rfl h2, h4]
  simp
  omega
theorem soonOrd_order {r : LRule} (hs : ruleSafe r = true) : orderOk r.2 (soonOrd r.2 r.2.length) = true :=
  orderOk_yes (soonOrd_len _ _) (fun _ hj => soonOrd_ok hs (Nat.le_refl _) hj) (soonOrd_len _ _).symm
theorem ruleOk_safe {ar : List Int} {r : LRule} (h : ruleOk ar r = true) : ruleSafe r = true ∧ r.2.length ≤ 4 := by
  unfold ruleOk ruleFits at h
  simp only [Bool.and_eq_true, decide_eq_true_eq] at h
  exact ⟨h.2.2.2.2, h.2.2.1⟩
def planOfL (ar : List Int) (r : LRule) : List LLit := if ruleOk ar r = true then planFor r (soonOrd r.2 r.2.length) else []
theorem planOf_by {ar : List Int} {r : LRule} (h : ruleOk ar r = true) : planByL ar r (soonOrd r.2 r.2.length) = planOfL ar r ∧ planByK ar r (soonOrd r.2 r.2.length) = true := by
  have hk : planByK ar r (soonOrd r.2 r.2.length) = true := by
    unfold planByK
    rw [h, soonOrd_order (ruleOk_safe h).1]
    rfl
  exact ⟨by rw [planBy_yes hk, planOfL, if_pos h], hk⟩

end Go.Proofs.Ytocpfmbieedpgaa
/-
  append of a slice of integers that is read, nil and empty let in, onto a row of the call's own: the new value written out.
-/
namespace Go.Proofs.Ytocpfmbieedpgaa
open Go.RowKit

section
variable {P : Program} (w : World)

theorem run_append_nilsrc (base : Nat) (t ty e : TypeId) (i : TypeInfo) (size : Nat) (ht : P.underlying t = some (.slice e)) (hi : P.info? e = some i)
    (v : Value) (n : Nat) (xs : List Value) (hown : w.ownsRow base e size v n xs) (c : Nat) : (Builtin.append_ #[t, t] ty #[v, .slice none 0 c]).run P w = .ok v w := by
  rcases hown.2 with ⟨rfl, rfl⟩ | ⟨g, cap, cur, rfl, _, _, hnc, _⟩
  · simp [Builtin.append_, run_underlying ht, sizeOf, typeInfo, hi, Builtin.lenOf, Builtin.firstCells]
  · simp [Builtin.append_, run_underlying ht, sizeOf, typeInfo, hi, Builtin.lenOf, Builtin.firstCells, hnc, storeCells]

theorem run_append_rd (base : Nat) (t ty e : TypeId) (i : TypeInfo) (z : Value) (bytes : Nat) (ht : P.underlying t = some (.slice e)) (hi : P.info? e = some i) (hz : i.zero = some z)
    (hsize : i.size = 1) (hby : i.bytes = bytes) (hzs : z.cells.size = 1)
    (v : Value) (n : Nat) (xs : List Value) (hown : w.ownsRow base e 1 v n xs) (B : Nat) (x : Value) (ys : List Int) (hr : RdInts w B x ys)
    (h63 : n + ys.length ≤ maxLen) (hbytes : (n + ys.length) * bytes ≤ 140737488355328) (hbase : base ≤ w.heap.size) :
    ∃ A' c' w', (Builtin.append_ #[t, t] ty #[v, x]).run P w = .ok (.slice A' (n + ys.length) c') w' ∧ w'.ownsRow base e 1 (.slice A' (n + ys.length) c') (n + ys.length) (xs ++ ys.map (Value.int .i64)) ∧ w.grownBy w' v.ownBlock ∧
      ((Value.slice A' (n + ys.length) c').ownBlock = v.ownBlock ∨ (Value.slice A' (n + ys.length) c').ownBlock = some w.heap.size) := by
  have hform : ∀ {w' : World} {v' : Value} {m : Nat} {zs : List Value}, w'.ownsRow base e 1 v' m zs → ∃ A c, v' = .slice A m c := by
    intro w' v' m zs h
    rcases h.2 with ⟨rfl, h0⟩ | ⟨g, cap, _, rfl, _⟩
    · exact ⟨none, 0, by rw [h0]⟩
    · exact ⟨_, _, rfl⟩
  obtain ⟨A, c, rfl, hc, hcell⟩ := hr
  rcases A with _ | ad
  · have h0 : ys.length = 0 := by
      rcases Nat.eq_zero_or_pos ys.length with h0 | h0
      · exact h0
      · obtain ⟨b, o, e, _⟩ := hcell h0
        cases e
    have hys : ys = [] := List.eq_nil_of_length_eq_zero h0
    subst hys
    obtain ⟨A', c', hv⟩ := hform hown
    refine ⟨A', c', w, ?_, by simpa [← hv] using hown, World.grownBy.refl w _, .inl (by rw [hv]; rfl)⟩
    simp only [List.length_nil, Nat.add_zero]
    rw [← hv]
    exact run_append_nilsrc w base t ty e i 1 ht hi v n xs hown c
  · have hnews : ∀ j u, (ys.map (Value.int .i64))[j]? = some u → w.cell? (ad.add j) = some u := by
      intro j u hu
      have hj : j < ys.length := by
        rcases Nat.lt_or_ge j ys.length with h | h
        · exact h
        · rw [List.getElem?_eq_none (by simpa using h)] at hu; cases hu
      obtain ⟨b, o, e, _, hx⟩ := hcell (by omega)
      injection e with e
      subst e
      rw [Go.WideShapes.add_plain, hx j hj]
      rw [List.getElem?_map, List.getElem?_eq_getElem hj] at hu
      exact hu
    obtain ⟨v', w', hrun, h2, h3, _, h5⟩ := run_append_own_at (P := P) w base t ty e i z 1 bytes ht hi hz hsize hby hzs (by decide) v n xs hown ad ys.length c (ys.map (Value.int .i64)) (by simp) hnews
      (fun u hu => by simp at hu; obtain ⟨q, _, rfl⟩ := hu; rfl) h63 hbytes hbase
    obtain ⟨A', c', hv⟩ := hform h2
    subst hv
    exact ⟨A', c', w', hrun, h2, h3, h5⟩

theorem wp_append_rd {o : Oper} {a : Act} {K : Act → World → Prop} {Q : Exit → Act → World → Prop} (s x : Operand) (t : TypeId)
    (ho : o.op = .call { callee := .builtin .append, args := #[s, x], argTypes := #[t, t] })
    (base : Nat) (e : TypeId) (i : TypeInfo) (z : Value) (bytes : Nat) (ht : P.underlying t = some (.slice e)) (hi : P.info? e = some i) (hz : i.zero = some z)
    (hsize : i.size = 1) (hby : i.bytes = bytes) (hzs : z.cells.size = 1)
    (v : Value) (n : Nat) (xs : List Value) (hs : a.eval s = v) (hown : w.ownsRow base e 1 v n xs) (B : Nat) (xv : Value) (ys : List Int) (hx : a.eval x = xv) (hr : RdInts w B xv ys)
    (h63 : n + ys.length ≤ maxLen) (hbytes : (n + ys.length) * bytes ≤ 140737488355328) (hbase : base ≤ w.heap.size)
    (h : ∀ A' c' w', w'.ownsRow base e 1 (.slice A' (n + ys.length) c') (n + ys.length) (xs ++ ys.map (Value.int .i64)) → w.grownBy w' v.ownBlock →
      ((Value.slice A' (n + ys.length) c').ownBlock = v.ownBlock ∨ (Value.slice A' (n + ys.length) c').ownBlock = some w.heap.size) → K (a.put o.dst (.slice A' (n + ys.length) c')) w') : o.wp P a w K Q := by
  obtain ⟨A', c', w', hrun, h2, h3, h4⟩ := run_append_rd (P := P) w base t o.type e i z bytes ht hi hz hsize hby hzs v n xs hown B xv ys hr h63 hbytes hbase
  unfold Oper.wp execOp
  simp only [ho, resolve, invoke, builtin, Sem.run_bind, Sem.run_pure, Result.andThen_ok, List.map_toArray, List.map_cons, List.map_nil, hs, hx, hrun]
  exact h A' c' w' h2 h3 h4

theorem step_append_rd {ops : Array Oper} {o : Oper} {a : Act} {K : Act → World → Prop} {Q : Exit → Act → World → Prop} {E : Prop} (hgd : o.guard = none) (s x : Operand) (t : TypeId)
    (ho : o.op = .call { callee := .builtin .append, args := #[s, x], argTypes := #[t, t] })
    (base : Nat) (e : TypeId) (i : TypeInfo) (z : Value) (bytes : Nat) (ht : P.underlying t = some (.slice e)) (hi : P.info? e = some i) (hz : i.zero = some z)
    (hsize : i.size = 1) (hby : i.bytes = bytes) (hzs : z.cells.size = 1)
    (v : Value) (n : Nat) (xs : List Value) (hs : a.eval s = v) (hown : w.ownsRow base e 1 v n xs) (B : Nat) (xv : Value) (ys : List Int) (hx : a.eval x = xv) (hr : RdInts w B xv ys)
    (h63 : n + ys.length ≤ maxLen) (hbytes : (n + ys.length) * bytes ≤ 140737488355328) (hbase : base ≤ w.heap.size)
    (h : ∀ A' c' w', w'.ownsRow base e 1 (.slice A' (n + ys.length) c') (n + ys.length) (xs ++ ys.map (Value.int .i64)) → w.grownBy w' v.ownBlock →
      ((Value.slice A' (n + ys.length) c').ownBlock = v.ownBlock ∨ (Value.slice A' (n + ys.length) c').ownBlock = some w.heap.size) → K (a.put o.dst (.slice A' (n + ys.length) c')) w') :
    if Region.wanted o (yielded ops a.tmps) = true then Oper.wp P o a w K Q else E := by
  have hw : Region.wanted o (yielded ops a.tmps) = true := by simp [Region.wanted, hgd]
  rw [if_pos hw]
  exact wp_append_rd w s x t ho base e i z bytes ht hi hz hsize hby hzs v n xs hs hown B xv ys hx hr h63 hbytes hbase h

theorem wpList_append_rd {ops : Array Oper} {rest : List Oper} {o : Oper} {a : Act} {Q : Exit → Act → World → Prop} (hgd : o.guard = none) (s x : Operand) (t : TypeId)
    (ho : o.op = .call { callee := .builtin .append, args := #[s, x], argTypes := #[t, t] })
    (base : Nat) (e : TypeId) (i : TypeInfo) (z : Value) (bytes : Nat) (ht : P.underlying t = some (.slice e)) (hi : P.info? e = some i) (hz : i.zero = some z)
    (hsize : i.size = 1) (hby : i.bytes = bytes) (hzs : z.cells.size = 1)
    (v : Value) (n : Nat) (xs : List Value) (hs : a.eval s = v) (hown : w.ownsRow base e 1 v n xs) (B : Nat) (xv : Value) (ys : List Int) (hx : a.eval x = xv) (hr : RdInts w B xv ys)
    (h63 : n + ys.length ≤ maxLen) (hbytes : (n + ys.length) * bytes ≤ 140737488355328) (hbase : base ≤ w.heap.size)
    (h : ∀ A' c' w', w'.ownsRow base e 1 (.slice A' (n + ys.length) c') (n + ys.length) (xs ++ ys.map (Value.int .i64)) → w.grownBy w' v.ownBlock →
      ((Value.slice A' (n + ys.length) c').ownBlock = v.ownBlock ∨ (Value.slice A' (n + ys.length) c').ownBlock = some w.heap.size) → wpList P ops Q rest (a.put o.dst (.slice A' (n + ys.length) c')) w') : wpList P ops Q (o :: rest) a w :=
  wpList_plain hgd fun _ hK => wp_append_rd w s x t ho base e i z bytes ht hi hz hsize hby hzs v n xs hs hown B xv ys hx hr h63 hbytes hbase fun A' c' w' h2 h3 h4 => hK _ _ (h A' c' w' h2 h3 h4)

end

end Go.Proofs.Ytocpfmbieedpgaa
/-
  The walks over lists of facts: toFactS, eqFactS, szFactS.
-/
namespace Go.Proofs.Ytocpfmbieedpgaa
open Go.RowKit

theorem Try.infoFact : (Try.prog.info? 118).map (fun i => (i.zero, i.size, i.bytes)) = some (some (.agg #[.int .i64 0, .slice none 0 0]), 2, 32) := by kernel_rfl

/-- What holds at toFactS's loop: k facts are copied. -/
structure ToRel (w wr : World) (fs : List LFact) (k : Nat) (av : List Value) : Prop where
  own : OwnArgs wr (w.heap.size + 1) wr.heap.size av ((fs.take k).map (·.2))
  row : ∃ cur : Array Value, Blk wr w.heap.size 118 cur ∧ cur.toList = flat (fs.take k) av ++ zeroCells (fs.length - k)
  below : Below w.heap.size w wr
  size : w.heap.size + 1 ≤ wr.heap.size

theorem ToRel.start (w : World) (fs : List LFact) : ToRel w (w.alloc (.cells (madeCells #[.int .i64 0, .slice none 0 0] (fs.length * 2)) 118)) fs 0 [] :=
  ⟨by simpa using OwnArgs.nil, ⟨_, Blk.new _ _ _, by simp [madeCells_facts, flat]⟩, below1 _ _, by simp⟩

/-- The cells that the next fact will take. -/
theorem ToRel.room {w wr : World} {fs : List LFact} {k : Nat} {av : List Value} (hr : ToRel w wr fs k av) (hlt : k < fs.length) {w4 : World} (hb : Below wr.heap.size wr w4) :
    w4.cell? ⟨w.heap.size, k * 2, none⟩ = some (.int .i64 0) ∧ w4.cell? ⟨w.heap.size, k * 2 + 1, none⟩ = some (.slice none 0 0) ∧ w4.frozen? ⟨w.heap.size, k * 2, none⟩ = false ∧ w4.frozen? ⟨w.heap.size, k * 2 + 1, none⟩ = false := by
  obtain ⟨ho, ⟨cur, hB, hcur⟩, hbe, hsz⟩ := hr
  have hB4 := hB.below hb (by omega)
  have hl : (flat (fs.take k) av).length = k * 2 := by
    rw [flat_length _ _ (by simpa using ho.len)]
    simp
    omega
  have hz : ∀ j, j < 2 → cur[k * 2 + j]? = some (if j % 2 = 0 then .int .i64 0 else .slice none 0 0) := fun j hj => by
    rw [← Array.getElem?_toList, hcur, List.getElem?_append_right (by omega), hl, show k * 2 + j - k * 2 = j by omega]
    exact zeroCells_at _ _ (by omega)
  exact ⟨(hB4.cell _).trans (hz 0 (by omega)), (hB4.cell _).trans (hz 1 (by omega)), hB4.frozen _, hB4.frozen _⟩

theorem ToRel.step {w wr : World} {fs : List LFact} {k : Nat} {av : List Value} (hr : ToRel w wr fs k av) (hlt : k < fs.length) {w4 : World} (hb : Below wr.heap.size wr w4) {a : Value}
    (ha : OwnInts w4 wr.heap.size w4.heap.size a fs[k].2) : ToRel w ((w4.setCell ⟨w.heap.size, k * 2, none⟩ (.int .i64 fs[k].1)).setCell ⟨w.heap.size, k * 2 + 1, none⟩ a) fs (k + 1) (av ++ [a]) := by
  obtain ⟨ho, ⟨cur, hB, hcur⟩, hbe, hsz⟩ := hr
  have hB4 := hB.below hb (by omega)
  have hl : (flat (fs.take k) av).length = k * 2 := by
    rw [flat_length _ _ (by simpa using ho.len)]
    simp
    omega
  have hs4 := hb.size
  refine ⟨?_, ⟨_, (hB4.set_ _ _).set_ _ _, ?_⟩, ((hbe.trans (hb.mono hbe.size)).setCell (Nat.le_refl _) _).setCell (Nat.le_refl _) _, by simp; omega⟩
  · have h1 := ((ho.below hb (Nat.le_refl _)).snoc ha (by omega) hs4)
    have h2 := (h1.set (p := ⟨w.heap.size, k * 2, none⟩) (.inl (by simp)) (.int .i64 fs[k].1)).set (p := ⟨w.heap.size, k * 2 + 1, none⟩) (.inl (by simp)) a
    have hs : ((w4.setCell ⟨w.heap.size, k * 2, none⟩ (.int .i64 fs[k].1)).setCell ⟨w.heap.size, k * 2 + 1, none⟩ a).heap.size = w4.heap.size := by simp
    rw [take_snoc fs k hlt, List.map_append, hs]
    exact h2
  · rw [take_snoc fs k hlt, flat_snoc _ _ (by simpa using ho.len)]
    obtain ⟨m, hm⟩ : ∃ m, fs.length - k = m + 1 := ⟨fs.length - k - 1, by omega⟩
    rw [show fs.length - (k + 1) = m by omega]
    simp [Array.toList_setIfInBounds, hcur, hm, zeroCells, List.set_append_right, hl]

theorem ToRel.done {w wr : World} {fs : List LFact} {av : List Value} (hr : ToRel w wr fs fs.length av) (hm : fs.length ≤ maxLen) : OwnFacts wr w.heap.size wr.heap.size (.slice (some ⟨w.heap.size, 0, none⟩) fs.length fs.length) fs := by
  obtain ⟨ho, ⟨cur, hB, hcur⟩, hbe, hsz⟩ := hr
  simp only [List.take_length, Nat.sub_self, zeroCells, List.append_nil] at ho hcur
  have hl := flat_length fs av (by simpa using ho.len)
  have hcl : cur.size = fs.length * 2 := by rw [← Array.length_toList, hcur, hl]
  refine ⟨av, ho.mono (by omega) (Nat.le_refl _), ⟨hl, .inr ⟨w.heap.size, fs.length, cur, rfl, Nat.le_refl _, hB, Nat.le_refl _, hm, hcl, ?_⟩⟩, fun g hg => ?_⟩
  · rw [hcur, ← hl, List.take_length]
  · simp [Value.ownBlock] at hg
    omega

set_option maxHeartbeats 400000 in
theorem toFactS_any (v : Value) (fs : List LFact) (w : World) (h : RdFacts w w.heap.size v fs) (hl : fs.length ≤ 1048576) (hn : tot fs ≤ 1048576) :
    Calls Try.prog 41 #[v] w fun e w' => ∃ A' c', e = .returned (.slice A' fs.length c') ∧ OwnFacts w' w.heap.size w'.heap.size (.slice A' fs.length c') fs ∧ Below w.heap.size w w' := by
  obtain ⟨i0, hi0, hz0, hz1, hz2⟩ := info_parts Try.infoFact
  have hmk := fun W => run_make_rowN (P := Try.prog) 66 118 i0 (.agg #[.int .i64 0, .slice none 0 0]) Try.underlying66 hi0 hz0 .i64 .i64 fs.length fs.length (Nat.le_refl _) (by rw [hz2]; omega) (by omega) W
  rw [hz1] at hmk
  simp only [Value.cells] at hmk
  have H := Lib.hid h
  obtain ⟨A, c, rfl, hc, hcell⟩ := h
  go_enter Try.func41, Try.ntmps41
  go_wp2_with (fail)
  go_loopw [4] (fun i wr => ∃ (k : Nat) (av : List Value), k ≤ fs.length ∧ i = .int .i64 k ∧ ToRel w wr fs k av) (fun i _ => fs.length - (intOf i).toNat)
  case atStart => exact ⟨0, [], Nat.zero_le _, rfl, ToRel.start w fs⟩
  case round =>
    obtain ⟨k, av, hk, rfl, hr⟩ := hrel
    by_cases hlt : k < fs.length
    · obtain ⟨b, o, rfl, hbB, hx⟩ := hcell (by omega)
      obtain ⟨a, hc1, hc2, hc3⟩ := hx k hlt
      have hk1 : wr.cell? ⟨b, o + k * 2, none⟩ = some (.int .i64 fs[k].1) := (hr.below.cell (p := ⟨b, o + k * 2, none⟩) hbB).trans hc1
      have hk2 : wr.cell? ⟨b, o + k * 2 + 1, none⟩ = some a := (hr.below.cell (p := ⟨b, o + k * 2 + 1, none⟩) hbB).trans hc2
      have HA := Lib.hid hc3
      obtain ⟨A3, c3, rfl, hc4, _⟩ := hc3
      clear hx hc1 hc2 hcell
      have hln := len_le_tot fs k hlt
      go_wp2_with (fail)
      refine (toFact_any _ fs[k] _ ⟨_, rfl, (HA.out.below hr.below (Nat.le_refl _)).more hr.below.size⟩ (by omega)).mono ?_
      rintro e w4 ⟨A4, c4, rfl, ho4, hb4⟩
      obtain ⟨r1, r2, r3, r4⟩ := hr.room hlt hb4
      have hstep := hr.step hlt hb4 ho4
      go_wp2_with (fail)
      go_roundw
      case rel => exact ⟨k + 1, _, by omega, by go_num, hstep⟩
      case measure => simp [intOf]; omega
    · have hkn : k = fs.length := by omega
      have HO := Lib.hid (show OwnFacts wr w.heap.size wr.heap.size (.slice (some ⟨w.heap.size, 0, none⟩) fs.length fs.length) fs from ToRel.done (by rw [← hkn]; exact hr) (by unfold maxLen; omega))
      have hbe := hr.below
      clear hkn hr hcell
      go_wp2_with (fail)
      go_ret
      exact ⟨_, _, rfl, HO.out, hbe⟩

/-- 'the first k of both are the same', kept from the walk. -/
def FSameTo (xs ys : List LFact) (k : Nat) : Prop := xs.take k = ys.take k
theorem FSameTo.step {xs ys : List LFact} {k : Nat} (h : FSameTo xs ys k) (h1 : k < xs.length) (h2 : k < ys.length) (e : xs[k] = ys[k]) : FSameTo xs ys (k + 1) := by
  unfold FSameTo at h ⊢
  rw [take_snoc xs k h1, take_snoc ys k h2, h, e]
theorem FSameTo.eq {xs ys : List LFact} (h : FSameTo xs ys xs.length) (hl : xs.length = ys.length) : xs = ys := by
  unfold FSameTo at h
  rwa [List.take_length, hl, List.take_length] at h

set_option maxHeartbeats 400000 in
set_option maxRecDepth 100000 in
theorem eqFactS_any (va vb : Value) (xs ys : List LFact) (w : World) (ha : RdFacts w w.heap.size va xs) (hb : RdFacts w w.heap.size vb ys) (hx : xs.length ≤ 1048576) (hy : ys.length ≤ 1048576) (htx : tot xs ≤ 1048576) (hty : tot ys ≤ 1048576) :
    Calls Try.prog 43 #[va, vb] w fun e w' => e = .returned (.bool (decide (xs = ys))) ∧ Below w.heap.size w w' := by
  obtain ⟨A, c, rfl, hc, ha⟩ := ha
  obtain ⟨A2, c2, rfl, hc2, hb⟩ := hb
  by_cases hl : xs.length = ys.length
  · have hl1 : ((xs.length : Int) != (ys.length : Int)) = false := by simp [hl]
    have HL := Lib.hid hl
    clear hl
    go_enter Try.func43, Try.ntmps43
    go_wp2_with (fail)
    go_loopw [5] (fun i wr => ∃ k : Nat, k ≤ xs.length ∧ i = .int .i64 k ∧ FSameTo xs ys k ∧ Below w.heap.size w wr) (fun i _ => xs.length - (intOf i).toNat)
    case atStart => exact ⟨0, Nat.zero_le _, rfl, rfl, Below.refl _ _⟩
    case round =>
      obtain ⟨k, hk, rfl, hs, hbe⟩ := hrel
      by_cases hlt : k < xs.length
      · have hlt2 : k < ys.length := by have := HL.out; omega
        obtain ⟨b, o, rfl, hbB, hxx⟩ := ha (by omega)
        obtain ⟨b2, o2, rfl, hbB2, hyy⟩ := hb (by omega)
        obtain ⟨a, p1, p2, p3⟩ := hxx k hlt
        obtain ⟨a', q1, q2, q3⟩ := hyy k hlt2
        have k1 : wr.cell? ⟨b, o + k * 2, none⟩ = some (.int .i64 xs[k].1) := (hbe.cell (p := ⟨b, o + k * 2, none⟩) hbB).trans p1
        have k2 : wr.cell? ⟨b, o + k * 2 + 1, none⟩ = some a := (hbe.cell (p := ⟨b, o + k * 2 + 1, none⟩) hbB).trans p2
        have k3 : wr.cell? ⟨b2, o2 + k * 2, none⟩ = some (.int .i64 ys[k].1) := (hbe.cell (p := ⟨b2, o2 + k * 2, none⟩) hbB2).trans q1
        have k4 : wr.cell? ⟨b2, o2 + k * 2 + 1, none⟩ = some a' := (hbe.cell (p := ⟨b2, o2 + k * 2 + 1, none⟩) hbB2).trans q2
        have hln := len_le_tot xs k hlt
        have hln2 := len_le_tot ys k hlt2
        have HA := Lib.hid p3
        have HA2 := Lib.hid q3
        obtain ⟨A3, c3, rfl, hc3, _⟩ := p3
        obtain ⟨A4, c4, rfl, hc4, _⟩ := q3
        clear hxx hyy ha hb p1 p2 q1 q2
        go_wp2_with (fail)
        go_still_tail 8, (by kernel_rfl)
        change wpList _ _ _ _ _ wr.drew
        obtain ⟨w2, hw2⟩ : ∃ w2, w2 = wr.drew := ⟨_, rfl⟩
        rw [← hw2]
        have hbe2 : Below w.heap.size w w2 := by rw [hw2]; exact hbe.drew
        clear hw2
        go_wp2_with (fail)
        refine (eqFact_any _ _ xs[k] ys[k] _ ⟨_, rfl, (HA.out.below hbe2 (Nat.le_refl _)).more hbe2.size⟩ ⟨_, rfl, (HA2.out.below hbe2 (Nat.le_refl _)).more hbe2.size⟩ (by omega) (by omega)).mono ?_
        rintro e w4 ⟨rfl, hb4⟩
        have hB4 := hbe2.trans (hb4.mono hbe2.size)
        by_cases he : xs[k] = ys[k]
        · have hdb : decide (xs[k] = ys[k]) = true := by simp [he]
          have HS := Lib.hid (hs.step hlt hlt2 he)
          clear he hs
          go_wp2_with (fail)
          go_roundw
          case rel => exact ⟨k + 1, by omega, by go_num, HS.out, hB4⟩
          case measure => simp [intOf]; omega
        · have hdb : decide (xs[k] = ys[k]) = false := by simp [he]
          have HE := Lib.hid (show xs ≠ ys from fun e => he (by subst e; rfl))
          clear he hs
          go_wp2_with (fail)
          go_ret
          exact ⟨ret_bool (by simp [HE.out]), hB4⟩
      · have hkn : k = xs.length := by omega
        have HE := Lib.hid (show xs = ys from FSameTo.eq (by rw [← hkn]; exact hs) HL.out)
        clear hkn hs ha hb
        go_wp2_with (fail)
        go_ret
        exact ⟨ret_bool (by simp [HE.out]), hbe⟩
  · have hl1 : ((xs.length : Int) != (ys.length : Int)) = true := by simp; omega
    have HE := Lib.hid (show xs ≠ ys from fun e => hl (by rw [e]))
    clear ha hb hl
    go_enter Try.func43, Try.ntmps43
    go_wp2_with (fail)
    go_ret
    exact ⟨ret_bool (by simp [HE.out]), Below.refl _ _⟩

/-- What szFactS answers: -1, or what is left when the facts and all their integers are taken. -/
def SzResF (r left : Int) (fs : List LFact) : Prop := r = -1 ∨ (0 ≤ r ∧ r + fs.length + tot fs = left)
def SzToF (r left : Int) (fs : List LFact) (k : Nat) : Prop := 0 ≤ r ∧ r + fs.length + tot (fs.take k) = left

set_option maxHeartbeats 400000 in
theorem szFactS_any (v : Value) (fs : List LFact) (left : Int) (w : World) (h : RdFacts w w.heap.size v fs) (h0 : 0 ≤ left) (hl : left ≤ 1048576) (hn : fs.length ≤ 9223372036854775807) (hm : ∀ k (h : k < fs.length), fs[k].2.length ≤ 9223372036854775807) :
    Calls Try.prog 39 #[v, .int .i64 left] w fun e w' => ∃ r, e = .returned (.int .i64 r) ∧ SzResF r left fs ∧ Below w.heap.size w w' := by
  obtain ⟨A, c, rfl, hc, hcell⟩ := h
  by_cases hneg : left - (fs.length : Int) < 0
  · go_enter Try.func39, Try.ntmps39
    go_wp2_with (fail)
    go_ret
    exact ⟨_, rfl, .inl rfl, Below.refl _ _⟩
  · go_enter Try.func39, Try.ntmps39
    go_wp2_with (fail)
    go_loopw [1, 5] (fun l i wr => ∃ (k : Nat) (r : Int), k ≤ fs.length ∧ i = .int .i64 k ∧ l = .int .i64 r ∧ SzToF r left fs k ∧ Below w.heap.size w wr) (fun _ i _ => fs.length - (intOf i).toNat)
    case atStart => exact ⟨0, _, Nat.zero_le _, rfl, rfl, ⟨by omega, by simp [tot]⟩, Below.refl _ _⟩
    case round =>
      obtain ⟨k, r, hk, rfl, rfl, hs, hbe⟩ := hrel
      by_cases hlt : k < fs.length
      · obtain ⟨b, o, rfl, hbB, hx⟩ := hcell (by omega)
        obtain ⟨a, p1, p2, p3⟩ := hx k hlt
        have k1 : wr.cell? ⟨b, o + k * 2, none⟩ = some (.int .i64 fs[k].1) := (hbe.cell (p := ⟨b, o + k * 2, none⟩) hbB).trans p1
        have k2 : wr.cell? ⟨b, o + k * 2 + 1, none⟩ = some a := (hbe.cell (p := ⟨b, o + k * 2 + 1, none⟩) hbB).trans p2
        have HA := Lib.hid p3
        obtain ⟨A3, c3, rfl, hc3, _⟩ := p3
        have hmk := hm k hlt
        have htk := tot_take fs k hlt
        have hcs := szV_cases r fs[k].2.length
        have hr0 := hs.1
        have hr1 := hs.2
        have HT := Lib.hid (And.intro htk hr1)
        clear htk hr1 hx p1 p2 hcell
        go_wp2_with (fail)
        refine (szFact_any _ fs[k] r _ ⟨_, rfl, (HA.out.below hbe (Nat.le_refl _)).more hbe.size⟩ hr0 (by have := HT.out; omega) hmk).mono ?_
        rintro e w4 ⟨rfl, hb4⟩
        have hB4 := hbe.trans (hb4.mono hbe.size)
        rcases hcs with ⟨e1, _⟩ | ⟨e1, e2⟩
        · rw [e1]
          clear e1
          go_wp2_with (fail)
          go_ret
          exact ⟨_, rfl, .inl rfl, hB4⟩
        · have h1 : ¬ szV r fs[k].2.length < 0 := by omega
          have HS := Lib.hid (show SzToF (szV r fs[k].2.length) left fs (k + 1) from ⟨e1, by have := HT.out; omega⟩)
          clear e2
          go_wp2_with (fail)
          go_roundw
          case rel => exact ⟨k + 1, _, by omega, by go_num, rfl, HS.out, hB4⟩
          case measure => simp [intOf]; omega
      · have hkn : k = fs.length := by omega
        have HE := Lib.hid (show SzResF r left fs from .inr ⟨hs.1, by have := hs.2; rw [hkn, List.take_length] at this; exact this⟩)
        clear hkn hs hcell
        go_wp2_with (fail)
        go_ret
        exact ⟨_, rfl, HE.out, hbe⟩

end Go.Proofs.Ytocpfmbieedpgaa
/-
  Marks: what markIntS, markFactS leave and heldIntS, heldFactS find. The words, and the walks over integers.
-/
namespace Go.Proofs.Ytocpfmbieedpgaa
open Go.RowKit

section
variable {lo hi lo' hi' : Nat} {w w1 w' : World}
theorem OwnFacts.only {v : Value} {fs : List LFact} (h : OwnFacts w lo hi v fs) (ho : Only lo' hi' w w') (hd : hi ≤ lo' ∨ hi' ≤ lo) : OwnFacts w' lo hi v fs := by
  obtain ⟨av, ha, hr, hlt⟩ := h
  exact ⟨av, ⟨ha.len, fun i h1 h2 => (ha.own i h1 h2).only ho hd, ha.apart⟩, ownsRow_only hr (fun g hg => ho.block g (hr.lt g hg).2 (by have := hr.lt g hg; have := hlt g hg; omega)), hlt⟩

end

end Go.Proofs.Ytocpfmbieedpgaa
/-
  The walks that copy a fact: the program's copyFact, the specification's l1Copy.
-/
namespace Go.Proofs.Ytocpfmbieedpgaa
open Go.RowKit

theorem Only.keepsRd {lo hi : Nat} {w w' : World} (h : Only lo hi w w') {v : Value} {xs : List Int} {B : Nat} (hr : RdInts w B v xs) (hB : B ≤ lo) (hs : B ≤ w.heap.size) : RdInts w' w'.heap.size v xs :=
  (hr.below (h.below hB hs) (Nat.le_refl _)).more (Nat.le_trans hs h.size)
theorem Only.blk {lo hi : Nat} {w w' : World} (h : Only lo hi w w') {g : Nat} {t : TypeId} {cs : Array Value} (hb : Blk w g t cs) (hg : g < lo ∨ hi ≤ g) : Blk w' g t cs := (h.block g hb.lt hg).trans hb

end Go.Proofs.Ytocpfmbieedpgaa
/-
  The walk of the specification's l1Copy.
-/
namespace Go.Proofs.Ytocpfmbieedpgaa
open Go.RowKit

/-- What holds at l1Copy's loop: k integers are copied. -/
structure CpRel (w wr : World) (f : LFact) (A : Option Addr) (c k : Nat) (A' : Option Addr) (c' : Nat) : Prop where
  below : Below w.heap.size w wr
  src : Blk wr w.heap.size 118 #[.int .i64 f.1, .slice A f.2.length c]
  res : Blk wr (w.heap.size + 1) 118 #[.int .i64 0, .slice none 0 0]
  out : Blk wr (w.heap.size + 2) 118 #[.int .i64 f.1, .slice A' k c']
  own : wr.ownsRow (w.heap.size + 3) 3 1 (.slice A' k c') k ((f.2.take k).map (Value.int .i64))

theorem blk_ne_row {w : World} {base n size g : Nat} {e t : TypeId} {v : Value} {xs : List Value} {cs : Array Value} (h : w.ownsRow base e size v n xs) (hb : Blk w g t cs) (hne : e ≠ t) : v.ownBlock ≠ some g := by
  rcases h.2 with ⟨rfl, _⟩ | ⟨g', cap, cur, rfl, _, hh, _⟩
  · simp [Value.ownBlock]
  · intro he
    have : g' = g := by simpa [Value.ownBlock] using he
    subst this
    unfold Blk at hb
    rw [hh] at hb
    injection hb with hb
    injection hb with _ hb
    exact hne hb
theorem grown_from_alloc_drew {w w' : World} {o : Obj} {row : Option Nat} (hg : ((w.alloc o).drew).grownBy w' row) : w.grownBy w' row :=
  ⟨hg.os, hg.tape, hg.output, Nat.le_trans (by show w.heap.size ≤ (w.alloc o).heap.size; simp) hg.size, fun i hi hne => (hg.block i (Nat.lt_of_lt_of_le hi (by show w.heap.size ≤ (w.alloc o).heap.size; simp)) hne).trans (Below.heap_alloc _ _ _ hi)⟩
theorem own_alloc_drew {w : World} {base size n : Nat} {e : TypeId} {v : Value} {xs : List Value} (h : w.ownsRow base e size v n xs) (o : Obj) : ((w.alloc o).drew).ownsRow base e size v n xs := h.alloc o
theorem news_alloc_drew (w : World) (x : Value) (t : TypeId) : ∀ j u, [x][j]? = some u → ((w.alloc (.cells #[x] t)).drew).cell? ((⟨w.heap.size, 0, none⟩ : Addr).add j) = some u := cell_one_new w x t

theorem CpRel.start (w : World) (f : LFact) (A : Option Addr) (c : Nat) : CpRel w (((w.alloc (Obj.cells #[Value.int IntKind.i64 f.1, Value.slice A f.2.length c] 118)).alloc (Obj.cells #[Value.int IntKind.i64 0, Value.slice none 0 0] 118)).alloc (Obj.cells #[Value.int IntKind.i64 f.1, Value.slice none 0 0] 118)) f A c 0 none 0 :=
  ⟨below3 _ _ _ _, ((Blk.new w _ _).alloc _).alloc _, by simpa using (Blk.new (w.alloc (Obj.cells #[Value.int IntKind.i64 f.1, Value.slice A f.2.length c] 118)) 118 #[.int .i64 0, .slice none 0 0]).alloc (Obj.cells #[Value.int IntKind.i64 f.1, Value.slice none 0 0] 118),
    by simpa using Blk.new ((w.alloc (Obj.cells #[Value.int IntKind.i64 f.1, Value.slice A f.2.length c] 118)).alloc (Obj.cells #[Value.int IntKind.i64 0, Value.slice none 0 0] 118)) 118 #[.int .i64 f.1, .slice none 0 0],
    by simpa using World.ownsRow_nil _ _ _ _⟩

theorem CpRel.step {w wr w2 : World} {f : LFact} {A A' : Option Addr} {c k c' g cap : Nat} (hr : CpRel w wr f A c k A' c') (hlt : k < f.2.length) (hg : wr.grownBy w2 (Value.slice A' k c').ownBlock)
    (hown : w2.ownsRow (w.heap.size + 3) 3 1 (.slice (some ⟨g, 0, none⟩) (k + 1) cap) (k + 1) ((f.2.take k).map (Value.int .i64) ++ [.int .i64 f.2[k]])) :
    CpRel w (w2.setCell ⟨w.heap.size + 2, 1, none⟩ (.slice (some ⟨g, 0, none⟩) (k + 1) cap)) f A c (k + 1) (some ⟨g, 0, none⟩) cap := by
  obtain ⟨h1, h2, h3, h4, h5⟩ := hr
  have keep : ∀ {b : Nat} {cs : Array Value}, Blk wr b 118 cs → Blk w2 b 118 cs := fun hb => (hg.block _ hb.lt (fun e => blk_ne_row h5 hb (by decide) e.symm)).trans hb
  have hs := h4.lt
  refine ⟨(h1.grown hg h1.size (fun b hb => by have := (h5.lt b hb).1; omega)).setCell (by show w.heap.size ≤ w.heap.size + 2; omega) _, (keep h2).far (by show w.heap.size ≠ w.heap.size + 2; omega) _, (keep h3).far (by show w.heap.size + 1 ≠ w.heap.size + 2; omega) _, (keep h4).set_ 1 _, ?_⟩
  rw [take_snoc f.2 k hlt, List.map_append]
  exact ownsRow_only hown (fun b hb => Below.heap_setCell _ _ _ _ (fun e => blk_ne_row hown (keep h4) (by decide) (by rw [hb, e])))

set_option maxHeartbeats 1000000 in
set_option maxRecDepth 100000 in
theorem l1Copy_any (v : Value) (f : LFact) (w : World) (h : RdFact w w.heap.size v f) (hn : f.2.length ≤ 1073741824) :
    Calls Try.prog 149 #[v] w fun e w' => ∃ A' c', e = .returned (.agg #[.int .i64 f.1, .slice A' f.2.length c']) ∧ OwnInts w' w.heap.size w'.heap.size (.slice A' f.2.length c') f.2 ∧ Below w.heap.size w w' := by
  obtain ⟨i0, hi0, hz0, hz1, hz2⟩ := info_parts Try.infoInt
  obtain ⟨a, rfl, h⟩ := h
  obtain ⟨A, c, rfl, hc, hcell⟩ := h
  go_enter Try.func149, Try.ntmps149
  go_wp2_with (fail)
  go_loopw [4] (fun i wr => ∃ (k : Nat) (A' : Option Addr) (c' : Nat), k ≤ f.2.length ∧ i = .int .i64 k ∧ CpRel w wr f A c k A' c') (fun i _ => f.2.length - (intOf i).toNat)
  case atStart => exact ⟨0, none, 0, Nat.zero_le _, rfl, CpRel.start w f A c⟩
  case round =>
    obtain ⟨k, A', c', hk, rfl, hr⟩ := hrel
    have q0 : wr.cell? ⟨w.heap.size, 1, none⟩ = some (.slice A f.2.length c) := hr.src.cell 1
    by_cases hlt : k < f.2.length
    · obtain ⟨b, o, rfl, hbB, hx⟩ := hcell (by omega)
      have q1 : wr.cell? ⟨w.heap.size + 2, 1, none⟩ = some (.slice A' k c') := hr.out.cell 1
      have q2 : wr.cell? ⟨b, o + k, none⟩ = some (.int .i64 f.2[k]) := (hr.below.cell (p := ⟨b, o + k, none⟩) hbB).trans (hx k hlt)
      have hbs := hr.out.lt
      clear hx hcell
      go_wp2_with (fail)
      have hf1 := hr.out.frozen 1
      have HR := Lib.hid hr
      go_region_law (first
        | (refine step_append_lies _ rfl (.tmp 16) (.tmp 22) 23 rfl (w.heap.size + 3) 3 i0 (.int .i64 0) 1 8 Try.underlying23 hi0 hz0 hz1 hz2 rfl (by decide) (.slice A' k c') k ((f.2.take k).map (Value.int .i64)) rfl ?_ ⟨_, 0, none⟩ 1 1 [.int .i64 f.2[k]] rfl rfl ?_ ?_ (by omega) (by unfold maxLen; omega) (by omega) ?_ _ rfl ?_
           · exact own_alloc_drew HR.out.own _
           · exact news_alloc_drew wr _ _
           · intro u hu; simp at hu; subst hu; rfl
           · simp; omega
           intro g cap w2 hown hgr hat hlt2
           have hst := HR.out.step hlt (grown_from_alloc_drew (w := wr) hgr) hown
           have hgg := grown_from_alloc_drew (w := wr) hgr
           have e1 : w2.cell? ⟨w.heap.size + 2, 1, none⟩ = some (.slice A' k c') := hgg.cell q1 (fun e => blk_ne_row HR.out.own HR.out.out (by decide) e.symm)
           have e2 : w2.frozen? ⟨w.heap.size + 2, 1, none⟩ = false := (hgg.frozen_far _ hbs (fun e => blk_ne_row HR.out.own HR.out.out (by decide) e.symm)).trans hf1
           have HS := Lib.hid hst
           clear hst hgg hown hgr hat))
      all_goals
        go_wp2_with (fail)
        go_roundw
        case rel => exact ⟨k + 1, _, _, by omega, by go_num, HS.out⟩
        case measure => simp [intOf]; omega
    · have hkn : f.2.length = k := by omega
      subst hkn
      have c0 : wr.cell? ⟨w.heap.size + 2, 0, none⟩ = some (.int .i64 f.1) := hr.out.cell 0
      have c1 : wr.cell? ⟨w.heap.size + 2, 1, none⟩ = some (.slice A' f.2.length c') := hr.out.cell 1
      have d0 : wr.cell? ⟨w.heap.size + 1, 0, none⟩ = some (.int .i64 0) := hr.res.cell 0
      have d1 : wr.cell? ⟨w.heap.size + 1, 1, none⟩ = some (.slice none 0 0) := hr.res.cell 1
      have f0 := hr.res.frozen 0
      have f1 := hr.res.frozen 1
      have HO : OwnInts wr (w.heap.size + 3) wr.heap.size (.slice A' f.2.length c') f.2 := ⟨by have := hr.own; rwa [List.take_length] at this, fun g hg' => (hr.own.lt g hg').2⟩
      have hbe := hr.below
      clear hr hcell
      go_wp2_with (fail)
      refine bodyPost_ret (v := .agg #[.int .i64 f.1, .slice A' f.2.length c']) (by simp [results, Try.results149, go_sem, d0, d1]) rfl ⟨_, _, rfl, ?_, ?_⟩
      · exact ((HO.set (.inl (by show w.heap.size + 1 < w.heap.size + 3; omega)) _).set (.inl (by show w.heap.size + 1 < w.heap.size + 3; omega)) _).mono (by omega) (by simp)
      · exact (hbe.setCell (by show w.heap.size ≤ w.heap.size + 1; omega) _).setCell (by show w.heap.size ≤ w.heap.size + 1; omega) _

end Go.Proofs.Ytocpfmbieedpgaa
/-
  Marks on results, read again: the numbers lie in cells that a list names, each once. The words, and the walks of markIntS, heldIntS over such lists.
-/
namespace Go.Proofs.Ytocpfmbieedpgaa
open Go.RowKit

/-- The cells ps hold k, k + 1, .. -/
def HoldsFrom (w : World) (k : Int) (ps : List Addr) : Prop := ∀ i (h : i < ps.length), w.cell? ps[i] = some (.int .i64 (k + (i : Int)))
/-- The cells ps hold k, k + 1, ..; the others are as they were. -/
structure SeqAt (lo hi : Nat) (k : Int) (ps : List Addr) (w w' : World) : Prop where
  marked : Marked lo hi w w'
  holds : HoldsFrom w' k ps
  other : ∀ p : Addr, p.block < w.heap.size → p ∉ ps → w'.cell? p = w.cell? p

section
variable {lo hi : Nat} {w w1 w' : World} {k : Int} {ps qs : List Addr}
theorem HoldsFrom.nil : HoldsFrom w k [] := fun i h => absurd h (by simp)
theorem HoldsFrom.left (h : HoldsFrom w k (ps ++ qs)) : HoldsFrom w k ps := fun i hi => by
  have := h i (by simp; omega)
  rwa [List.getElem_append_left hi] at this
theorem HoldsFrom.right (h : HoldsFrom w k (ps ++ qs)) : HoldsFrom w (k + (ps.length : Int)) qs := fun i hi => by
  have := h (ps.length + i) (by simp; omega)
  rw [List.getElem_append_right (by omega)] at this
  simp only [Nat.add_sub_cancel_left] at this
  rw [this]
  congr 2
  omega
theorem HoldsFrom.append (h : HoldsFrom w k ps) (h2 : HoldsFrom w (k + (ps.length : Int)) qs) : HoldsFrom w k (ps ++ qs) := fun i hi => by
  by_cases hl : i < ps.length
  · rw [List.getElem_append_left hl]
    exact h i hl
  · rw [List.getElem_append_right (by omega)]
    simp at hi
    rw [h2 (i - ps.length) (by omega)]
    congr 2
    omega
theorem HoldsFrom.lt (h : HoldsFrom w k ps) {p : Addr} (hp : p ∈ ps) : p.block < w.heap.size := by
  obtain ⟨i, hi, rfl⟩ := List.getElem_of_mem hp
  exact World.block_lt_of_cell? _ _ (h i hi)
theorem HoldsFrom.kept (h : HoldsFrom w k ps) (hc : ∀ p ∈ ps, w'.cell? p = w.cell? p) : HoldsFrom w' k ps := fun i hi => (hc _ (List.getElem_mem hi)).trans (h i hi)
theorem HoldsFrom.below (h : HoldsFrom w k ps) (hb : Below w.heap.size w w') : HoldsFrom w' k ps := h.kept fun _ hp => hb.cell (h.lt hp)
theorem SeqAt.below (h : Below w.heap.size w w') : SeqAt lo hi k [] w w' := ⟨Marked.of_below h, HoldsFrom.nil, fun _ hp _ => h.cell hp⟩
theorem SeqAt.store {p : Addr} {x : Int} (hp : lo ≤ p.block ∧ p.block < hi) (hc : w.cell? p = some (.int .i64 x)) (k : Int) : SeqAt lo hi k [p] w (w.setCell p (.int .i64 k)) := by
  refine ⟨Marked.store hp hc k, fun i hi => ?_, fun q _ hq => World.cell?_setCell_other _ _ _ _ (fun e => hq (by simp [e]))⟩
  obtain rfl : i = 0 := by simpa using hi
  simpa using World.cell?_setCell_same _ _ (.int .i64 k) hc
theorem SeqAt.append (h : SeqAt lo hi k ps w w1) (h2 : SeqAt lo hi (k + (ps.length : Int)) qs w1 w') (hd : ∀ p ∈ ps, p ∉ qs) : SeqAt lo hi k (ps ++ qs) w w' := by
  refine ⟨h.marked.trans h2.marked, (h.holds.kept fun p hp => h2.other p (h.holds.lt hp) (hd p hp)).append h2.holds, fun p hp hq => ?_⟩
  simp only [List.mem_append, not_or] at hq
  exact (h2.other p (Nat.lt_of_lt_of_le hp h.marked.only.size) hq.2).trans (h.other p hp hq.1)
theorem SeqAt.then_below (h : SeqAt lo hi k ps w w1) (hb : Below w1.heap.size w1 w') : SeqAt lo hi k ps w w' := by
  have := h.append (qs := []) (SeqAt.below (lo := lo) (hi := hi) hb) (fun _ _ hq => by simp at hq)
  simpa using this
theorem SeqAt.below_then (hb : Below w.heap.size w w1) (h : SeqAt lo hi k ps w1 w') : SeqAt lo hi k ps w w' := by
  have h0 : SeqAt lo hi k [] w w1 := SeqAt.below hb
  have := h0.append (by simpa using h) (fun _ hp => by simp at hp)
  simpa using this
end

/-- The first j groups of leaves. -/
def preL (el : Nat → List Addr) (j : Nat) : List Addr := ((List.range j).map el).flatten
theorem preL_zero (el : Nat → List Addr) : preL el 0 = [] := rfl
theorem preL_succ (el : Nat → List Addr) (j : Nat) : preL el (j + 1) = preL el j ++ el j := by
  unfold preL
  rw [List.range_succ, List.map_append, List.flatten_append]
  simp
theorem preL_split (el : Nat → List Addr) : ∀ n j, j ≤ n → ∃ rest, preL el n = preL el j ++ rest
  | 0, j, h => ⟨[], by rw [show j = 0 by omega]; rfl⟩
  | n + 1, j, h => by
    by_cases e : j = n + 1
    · exact ⟨[], by rw [e]; simp⟩
    · obtain ⟨r, hr⟩ := preL_split el n j (by omega)
      exact ⟨r ++ el n, by rw [preL_succ, hr, List.append_assoc]⟩
theorem preL_nodup {el : Nat → List Addr} {n j : Nat} (h : (preL el n).Nodup) (hj : j < n) : (preL el j ++ el j).Nodup := by
  obtain ⟨r, hr⟩ := preL_split el n (j + 1) hj
  rw [hr, List.nodup_append] at h
  rw [← preL_succ]
  exact h.1
theorem preL_holds {w : World} {k : Int} {el : Nat → List Addr} {n j : Nat} (h : HoldsFrom w k (preL el n)) (hj : j < n) : HoldsFrom w (k + ((preL el j).length : Int)) (el j) := by
  obtain ⟨r, hr⟩ := preL_split el n (j + 1) hj
  rw [hr] at h
  have := h.left
  rw [preL_succ] at this
  exact this.right
theorem mem_preL {el : Nat → List Addr} : ∀ {n : Nat} {p : Addr}, p ∈ preL el n ↔ ∃ j, j < n ∧ p ∈ el j
  | 0, p => by simp [preL]
  | n + 1, p => by
    rw [preL_succ, List.mem_append, mem_preL]
    constructor
    · rintro (⟨j, hj, hp⟩ | hp)
      · exact ⟨j, by omega, hp⟩
      · exact ⟨n, by omega, hp⟩
    · rintro ⟨j, hj, hp⟩
      by_cases e : j = n
      · exact .inr (e ▸ hp)
      · exact .inl ⟨j, by omega, hp⟩
/-- Groups that are once each and apart from each other. -/
theorem preL_nodup_of {el : Nat → List Addr} : ∀ {n : Nat}, (∀ j, j < n → (el j).Nodup) → (∀ i j, i < j → j < n → ∀ p ∈ el i, p ∉ el j) → (preL el n).Nodup
  | 0, _, _ => by simp [preL]
  | n + 1, h1, h2 => by
    rw [preL_succ, List.nodup_append]
    refine ⟨preL_nodup_of (fun j hj => h1 j (by omega)) (fun i j hij hj => h2 i j hij (by omega)), h1 n (by omega), fun a ha b hb e => ?_⟩
    obtain ⟨j, hj, hp⟩ := mem_preL.1 ha
    exact h2 j n hj (by omega) a hp (e ▸ hb)
theorem preL_length_le {el : Nat → List Addr} {n j : Nat} (h : j ≤ n) : (preL el j).length ≤ (preL el n).length := by
  obtain ⟨r, hr⟩ := preL_split el n j h
  rw [hr]
  simp

/-- A slice of n numbers in blocks from lo on and below hi that may be written; ps are its cells. -/
def LvInts (w : World) (lo hi : Nat) (v : Value) (n : Nat) (ps : List Addr) : Prop :=
  ∃ A c, v = .slice A n c ∧ n ≤ c ∧ ps.length = n ∧ (0 < n → ∃ b o, A = some ⟨b, o, none⟩ ∧ lo ≤ b ∧ b < hi ∧ ps = (List.range n).map (fun k => ⟨b, o + k, none⟩) ∧
    ∀ k, k < n → w.frozen? ⟨b, o + k, none⟩ = false ∧ ∃ x, w.cell? ⟨b, o + k, none⟩ = some (.int .i64 x))
theorem LvInts.marked {w w' : World} {lo hi lo' hi' n : Nat} {v : Value} {ps : List Addr} (h : LvInts w lo hi v n ps) (hm : Marked lo' hi' w w') : LvInts w' lo hi v n ps := by
  obtain ⟨A, c, rfl, hcc, hl, h⟩ := h
  refine ⟨A, c, rfl, hcc, hl, fun hn => ?_⟩
  obtain ⟨b, o, rfl, h1, h2, hp, hx⟩ := h hn
  refine ⟨b, o, rfl, h1, h2, hp, fun k hk => ?_⟩
  obtain ⟨hf, x, hc⟩ := hx k hk
  exact ⟨(hm.frozen _ (World.block_lt_of_cell? _ _ hc)).trans hf, hm.int hc⟩
theorem LvInts.mono {w : World} {lo hi lo' hi' n : Nat} {v : Value} {ps : List Addr} (h : LvInts w lo hi v n ps) (h1 : lo' ≤ lo) (h2 : hi ≤ hi') : LvInts w lo' hi' v n ps := by
  obtain ⟨A, c, rfl, hcc, hl, h⟩ := h
  refine ⟨A, c, rfl, hcc, hl, fun hn => ?_⟩
  obtain ⟨b, o, rfl, h3, h4, hp, hx⟩ := h hn
  exact ⟨b, o, rfl, by omega, by omega, hp, hx⟩
theorem LvInts.block {w : World} {lo hi n : Nat} {v : Value} {ps : List Addr} (h : LvInts w lo hi v n ps) {p : Addr} (hp : p ∈ ps) : lo ≤ p.block ∧ p.block < hi := by
  obtain ⟨A, c, rfl, _, hl, h⟩ := h
  have hn : 0 < n := by rw [← hl]; exact List.length_pos_of_mem hp
  obtain ⟨b, o, rfl, h1, h2, rfl, _⟩ := h hn
  simp only [List.mem_map, List.mem_range] at hp
  obtain ⟨k, _, rfl⟩ := hp
  exact ⟨h1, h2⟩
theorem LvInts.nodup {w : World} {lo hi n : Nat} {v : Value} {ps : List Addr} (h : LvInts w lo hi v n ps) : ps.Nodup := by
  obtain ⟨A, c, rfl, _, hl, h⟩ := h
  rcases Nat.eq_zero_or_pos n with h0 | hn
  · rw [h0] at hl
    rw [List.eq_nil_of_length_eq_zero hl]
    exact List.nodup_nil
  · obtain ⟨b, o, rfl, h1, h2, rfl, _⟩ := h hn
    rw [List.nodup_iff_pairwise_ne, List.pairwise_map]
    exact List.Pairwise.imp (fun {a b} hab e => by injection e with _ e2 _; omega) List.pairwise_lt_range
theorem OwnInts.leaves {w : World} {lo hi : Nat} {v : Value} {xs : List Int} (h : OwnInts w lo hi v xs) : ∃ ps, LvInts w lo hi v xs.length ps := by
  obtain ⟨A2, c2, e2, hcc, _⟩ := h.rd
  obtain ⟨A, c, rfl, hx⟩ := h.wr
  injection e2 with _ _ e2
  subst e2
  rcases Nat.eq_zero_or_pos xs.length with h0 | hn
  · exact ⟨[], A, c, rfl, hcc, by simp [h0], fun hn => absurd hn (by omega)⟩
  · obtain ⟨b, o, rfl, h1, h2, hx⟩ := hx hn
    exact ⟨(List.range xs.length).map (fun k => ⟨b, o + k, none⟩), _, c, rfl, hcc, by simp, fun _ => ⟨b, o, rfl, h1, h2, rfl, hx⟩⟩

set_option maxHeartbeats 400000 in
theorem lmarkIntS_any (v : Value) (n : Nat) (ps : List Addr) (k : Int) (lo hi : Nat) (w : World) (h : LvInts w lo hi v n ps) (hk0 : 0 ≤ k) (hk : k + n ≤ 4611686018427387904) :
    Calls Try.prog 31 #[v, .int .i64 k] w fun e w' => e = .returned (.int .i64 (k + n)) ∧ SeqAt lo hi k ps w w' := by
  have H := Lib.hid h
  have hnd := h.nodup
  obtain ⟨A, c, rfl, hcc, hl, h⟩ := h
  go_enter Try.func31, Try.ntmps31
  go_wp2_with (fail)
  go_loopw [1, 5] (fun m i wr => ∃ j : Nat, j ≤ n ∧ i = .int .i64 j ∧ m = .int .i64 (k + j) ∧ SeqAt lo hi k (ps.take j) w wr) (fun _ i _ => n - (intOf i).toNat)
  case atStart => exact ⟨0, Nat.zero_le _, rfl, by simp, by simpa using SeqAt.below (Below.refl _ _)⟩
  case round =>
    obtain ⟨j, hj, rfl, rfl, hs⟩ := hrel
    by_cases hlt : j < n
    · obtain ⟨b, o, rfl, h1, h2, hp, hx⟩ := h (by omega)
      obtain ⟨hf, x, hc⟩ := hx j hlt
      obtain ⟨y, hc1⟩ := hs.marked.int hc
      have hf1 : wr.frozen? ⟨b, o + j, none⟩ = false := (hs.marked.frozen _ (World.block_lt_of_cell? _ _ hc)).trans hf
      have hst := hs.append (SeqAt.store (lo := lo) (hi := hi) (p := ⟨b, o + j, none⟩) ⟨h1, h2⟩ hc1 (k + ((ps.take j).length : Int))) (fun q hq hq2 => by
        have hat : ps[j]'(by omega) = ⟨b, o + j, none⟩ := by simp [hp]
        simp only [List.mem_singleton] at hq2
        rw [hq2, ← hat] at hq
        rw [← List.take_append_drop j ps, List.drop_eq_getElem_cons (by omega)] at hnd
        rw [List.nodup_append] at hnd
        exact hnd.2.2 _ hq _ (List.mem_cons_self) rfl)
      have htk : ps.take j ++ [(⟨b, o + j, none⟩ : Addr)] = ps.take (j + 1) := by
        rw [take_snoc ps j (by omega)]
        simp [hp]
      rw [htk, show (ps.take j).length = j by rw [List.length_take]; omega] at hst
      have HS := Lib.hid hst
      clear hst hs hp hx htk hnd
      go_wp2_with (fail)
      go_roundw
      case rel => exact ⟨j + 1, by omega, by go_num, by go_num, HS.out⟩
      case measure => simp [intOf]; omega
    · have hkn : j = n := by omega
      have HK := Lib.hid (show k + (j : Int) = k + n by rw [hkn])
      have HS := Lib.hid (show SeqAt lo hi k ps w wr by rw [hkn, ← hl, List.take_length] at hs; exact hs)
      clear hkn hs h
      go_wp2_with (fail)
      go_ret
      exact ⟨ret_int HK.out, HS.out⟩

theorem LvInts.rd {w : World} {lo hi n : Nat} {v : Value} {ps : List Addr} {k : Int} (h : LvInts w lo hi v n ps) (hh : HoldsFrom w k ps) : RdInts w w.heap.size v (seqI k n) := by
  obtain ⟨A, c, rfl, hcc, hl, h⟩ := h
  refine ⟨A, c, by rw [seqI_length], by rw [seqI_length]; exact hcc, fun hn => ?_⟩
  rw [seqI_length] at hn
  obtain ⟨b, o, rfl, h1, h2, hp, hx⟩ := h hn
  have hat : ∀ j (hj : j < n), w.cell? ⟨b, o + j, none⟩ = some (.int .i64 (k + (j : Int))) := fun j hj => by
    have := hh j (by omega)
    simpa [hp] using this
  refine ⟨b, o, rfl, World.block_lt_of_cell? _ _ (hat 0 hn), fun j hj => ?_⟩
  rw [seqI_at]
  exact hat j (by rwa [seqI_length] at hj)

theorem lheldIntS_any (v : Value) (n : Nat) (ps : List Addr) (k : Int) (lo hi : Nat) (w : World) (h : LvInts w lo hi v n ps) (hh : HoldsFrom w k ps) (hk0 : 0 ≤ k) (hk : k + n ≤ 4611686018427387904) :
    Calls Try.prog 78 #[v, .int .i64 k] w fun e w' => e = .returned (.int .i64 (k + n)) ∧ w = w' :=
  heldIntS_any v n k w (h.rd hh) hk0 hk

end Go.Proofs.Ytocpfmbieedpgaa
/-
  Marks on lists of literals and on rules that are results, read again: markLitS, heldLitS, markAtom, heldAtom, markRule, heldRule.
-/
namespace Go.Proofs.Ytocpfmbieedpgaa
open Go.RowKit

/-- The leaves of literal k of a row at offset o of block b. -/
def litEl (b o : Nat) (qs : Nat → List Addr) (k : Nat) : List Addr := ⟨b, o + k * 3, none⟩ :: ⟨b, o + k * 3 + 1, none⟩ :: qs k
/-- A slice of literals in blocks from lo on and below hi that may be written; ps are its leaves. -/
def LvLits (w : World) (lo hi : Nat) (v : Value) (ls : List LLit) (ps : List Addr) : Prop :=
  ∃ A c, v = .slice A ls.length c ∧ ls.length ≤ c ∧ (ls.length = 0 → ps = []) ∧ (0 < ls.length → ∃ b o qs, A = some ⟨b, o, none⟩ ∧ lo ≤ b ∧ b < hi ∧ ps = preL (litEl b o qs) ls.length ∧
    ∀ k (h : k < ls.length), (w.frozen? ⟨b, o + k * 3, none⟩ = false ∧ w.frozen? ⟨b, o + k * 3 + 1, none⟩ = false) ∧ ∃ x y u2,
      w.cell? ⟨b, o + k * 3, none⟩ = some (.int .i64 x) ∧ w.cell? ⟨b, o + k * 3 + 1, none⟩ = some (.int .i64 y) ∧ w.cell? ⟨b, o + k * 3 + 2, none⟩ = some u2 ∧ LvInts w lo hi u2 ls[k].2.2.length (qs k))
theorem LvLits.marked {w w' : World} {lo hi lo' hi' : Nat} {v : Value} {ls : List LLit} {ps : List Addr} (h : LvLits w lo hi v ls ps) (hm : Marked lo' hi' w w') : LvLits w' lo hi v ls ps := by
  obtain ⟨A, c, rfl, hc, h0, h⟩ := h
  refine ⟨A, c, rfl, hc, h0, fun hn => ?_⟩
  obtain ⟨b, o, qs, rfl, h1, h2, hp, hx⟩ := h hn
  refine ⟨b, o, qs, rfl, h1, h2, hp, fun k hk => ?_⟩
  obtain ⟨⟨f0, f1⟩, x, y, u2, c0, c1, c2, hI⟩ := hx k hk
  obtain ⟨x', d0⟩ := hm.int c0
  obtain ⟨y', d1⟩ := hm.int c1
  have hI' := hI.marked hm
  obtain ⟨A2, c2', rfl, _⟩ := hI
  exact ⟨⟨(hm.frozen _ (World.block_lt_of_cell? _ _ c0)).trans f0, (hm.frozen _ (World.block_lt_of_cell? _ _ c1)).trans f1⟩, _, _, _, d0, d1, hm.slice c2, hI'⟩
theorem litEl_len {w : World} {lo hi n : Nat} {u : Value} {b o : Nat} {qs : Nat → List Addr} {k : Nat} (h : LvInts w lo hi u n (qs k)) : (litEl b o qs k).length = 2 + n := by
  obtain ⟨_, _, _, _, hl, _⟩ := h
  simp [litEl, hl]
  omega

set_option maxHeartbeats 1000000 in
set_option maxRecDepth 100000 in
theorem lmarkLitS_any (v : Value) (ls : List LLit) (ps : List Addr) (k : Int) (lo hi : Nat) (w : World) (h : LvLits w lo hi v ls ps) (hnd : ps.Nodup) (hk0 : 0 ≤ k) (hk : k ≤ 4294967296) (hn : ps.length ≤ 1073741824) :
    Calls Try.prog 77 #[v, .int .i64 k] w fun e w' => e = .returned (.int .i64 (k + ps.length)) ∧ SeqAt lo hi k ps w w' := by
  have H := Lib.hid h
  have HND := Lib.hid hnd
  clear hnd
  obtain ⟨A, c, rfl, hc, h0, h⟩ := h
  have hcap : ls.length ≤ 9223372036854775807 := by
    rcases Nat.eq_zero_or_pos ls.length with e | hp
    · omega
    · obtain ⟨b, o, qs, rfl, h1, h2, rfl, hx⟩ := h hp
      have : ∀ j, j ≤ ls.length → j ≤ (preL (litEl b o qs) j).length := by
        intro j
        induction j with
        | zero => intro _; omega
        | succ j ih =>
          intro hj
          have := ih (by omega)
          rw [preL_succ, List.length_append]
          simp [litEl]
          omega
      have := this ls.length (Nat.le_refl _)
      omega
  rcases Nat.eq_zero_or_pos ls.length with hz | hp
  · have hps := h0 hz
    subst hps
    have HZ := Lib.hid hz
    have hz' : ¬ (0 : Int) < (ls.length : Int) := by omega
    clear hz h h0
    go_enter Try.func77, Try.ntmps77
    go_wp2_with (fail)
    go_loopw [1, 5] (fun m i wr => i = .int .i64 0 ∧ m = .int .i64 k ∧ wr = w) (fun _ i _ => 0)
    case atStart => exact ⟨rfl, rfl, rfl⟩
    case round =>
      obtain ⟨rfl, rfl, rfl⟩ := hrel
      go_wp2_with (fail)
      go_ret
      exact ⟨ret_int (by simp), SeqAt.below (Below.refl _ _)⟩
  · obtain ⟨b, o, qs, rfl, h1, h2, rfl, hx⟩ := h hp
    have HX := Lib.hid hx
    clear hx h
    go_enter Try.func77, Try.ntmps77
    go_wp2_with (fail)
    go_loopw [1, 5] (fun m i wr => ∃ (j : Nat) (q : Int), j ≤ ls.length ∧ i = .int .i64 j ∧ m = .int .i64 q ∧ q = k + ((preL (litEl b o qs) j).length : Int) ∧ SeqAt lo hi k (preL (litEl b o qs) j) w wr) (fun _ i _ => ls.length - (intOf i).toNat)
    case atStart => exact ⟨0, k, Nat.zero_le _, rfl, rfl, by simp [preL_zero], SeqAt.below (Below.refl _ _)⟩
    case round =>
      obtain ⟨j, q, hj, rfl, rfl, hq, hs⟩ := hrel
      by_cases hlt : j < ls.length
      · obtain ⟨⟨f0, f1⟩, x, y, u2, c0, c1, c2, hI⟩ := HX.out j hlt
        have hlen := litEl_len (b := b) (o := o) hI
        have hpl : (preL (litEl b o qs) (j + 1)).length ≤ (preL (litEl b o qs) ls.length).length := preL_length_le hlt
        rw [preL_succ, List.length_append, hlen] at hpl
        obtain ⟨x', d0⟩ := hs.marked.int c0
        obtain ⟨y', d1⟩ := hs.marked.int c1
        have hI2 := hI.marked hs.marked
        have g0 : wr.frozen? ⟨b, o + j * 3, none⟩ = false := (hs.marked.frozen _ (World.block_lt_of_cell? _ _ c0)).trans f0
        have g1 : wr.frozen? ⟨b, o + j * 3 + 1, none⟩ = false := (hs.marked.frozen _ (World.block_lt_of_cell? _ _ c1)).trans f1
        obtain ⟨A3, c3, rfl, hcc3, hl3, _⟩ := hI
        have d2 := hs.marked.slice c2
        have m0 := SeqAt.store (lo := lo) (hi := hi) (p := ⟨b, o + j * 3, none⟩) ⟨h1, h2⟩ d0 q
        obtain ⟨y2, e1⟩ := m0.marked.int d1
        have e2 := m0.marked.slice d2
        have k1 : (wr.setCell ⟨b, o + j * 3, none⟩ (.int .i64 q)).frozen? ⟨b, o + j * 3 + 1, none⟩ = false := (m0.marked.frozen _ (World.block_lt_of_cell? _ _ d1)).trans g1
        have m1 := SeqAt.store (lo := lo) (hi := hi) (p := ⟨b, o + j * 3 + 1, none⟩) ⟨h1, h2⟩ e1 (q + 1)
        have e3 := m1.marked.slice e2
        have hI3 := (hI2.marked m0.marked).marked m1.marked
        have HI := Lib.hid hI3
        have HS := Lib.hid (And.intro hs (And.intro m0 (And.intro m1 hq)))
        have hq0 : 0 ≤ q := by omega
        have hq1 : q ≤ 8589934592 := by omega
        have hl3' : ls[j].2.2.length ≤ 1073741824 := by omega
        have HLE := Lib.hid hlen
        clear hI2 hI3 m0 m1 hs hq hlen hpl e2 d2 c2 c0 c1 hl3
        go_wp2_with (fail)
        refine (lmarkIntS_any _ _ (qs j) (q + 1 + 1) lo hi _ HI.out (by omega) (by omega)).mono ?_
        rintro e w3 ⟨rfl, hm3⟩
        obtain ⟨hs, m0, m1, hq⟩ := HS.out
        have hnd := preL_nodup HND.out hlt
        have hst : SeqAt lo hi k (preL (litEl b o qs) (j + 1)) w w3 := by
          rw [preL_succ]
          refine hs.append ?_ (fun p hp hp2 => (List.nodup_append.1 hnd).2.2 p hp p hp2 rfl)
          rw [← hq]
          have hn2 := (List.nodup_append.1 hnd).2.1
          have hm01 := m0.append (qs := [⟨b, o + j * 3 + 1, none⟩]) (by simpa using m1) (by simp [litEl] at hn2 ⊢)
          refine hm01.append (qs := qs j) ?_ (fun p hp hp2 => ?_)
          · simpa [Int.add_assoc] using hm3
          · simp only [litEl, List.nodup_cons, List.mem_cons, not_or] at hn2
            simp only [List.mem_append, List.mem_singleton] at hp
            rcases hp with rfl | rfl
            · exact hn2.1.2 hp2
            · exact hn2.2.1 hp2
        have HQ := Lib.hid (And.intro (show q + 1 + 1 + (ls[j].2.2.length : Int) = k + ((preL (litEl b o qs) (j + 1)).length : Int) by
          rw [preL_succ, List.length_append, HLE.out, hq]
          omega) hst)
        clear hs m0 m1 hq hnd hst hm3
        go_wp2_with (fail)
        go_roundw
        case rel => exact ⟨j + 1, _, by omega, by go_num, rfl, HQ.out.1, HQ.out.2⟩
        case measure => simp [intOf]; omega
      · have hkn : j = ls.length := by omega
        have HK := Lib.hid (show q = k + ((preL (litEl b o qs) ls.length).length : Int) by rw [hq, hkn])
        have HS := Lib.hid (show SeqAt lo hi k (preL (litEl b o qs) ls.length) w wr by rw [hkn] at hs; exact hs)
        clear hkn hs hq
        go_wp2_with (fail)
        go_ret
        exact ⟨ret_int HK.out, HS.out⟩

theorem preL_lits_le (b o : Nat) (qs : Nat → List Addr) : ∀ j, j ≤ (preL (litEl b o qs) j).length
  | 0 => by simp [preL_zero]
  | j + 1 => by
    have := preL_lits_le b o qs j
    rw [preL_succ, List.length_append]
    simp [litEl]
    omega

/-- A rule of blocks from lo on and below hi that may be written; ps are its leaves. -/
def LvRule (w : World) (lo hi : Nat) (v : Value) (r : LRule) (ps : List Addr) : Prop :=
  ∃ p a b qs rs, v = .agg #[.int .i64 p, a, b] ∧ ps = qs ++ rs ∧ LvInts w lo hi a r.1.2.length qs ∧ LvLits w lo hi b r.2 rs
theorem LvRule.marked {w w' : World} {lo hi lo' hi' : Nat} {v : Value} {r : LRule} {ps : List Addr} (h : LvRule w lo hi v r ps) (hm : Marked lo' hi' w w') : LvRule w' lo hi v r ps := by
  obtain ⟨p, a, b, qs, rs, rfl, rfl, h1, h2⟩ := h
  exact ⟨p, a, b, qs, rs, rfl, rfl, h1.marked hm, h2.marked hm⟩

set_option maxHeartbeats 400000 in
theorem lmarkRule_any (v : Value) (r : LRule) (ps : List Addr) (k : Int) (lo hi : Nat) (w : World) (h : LvRule w lo hi v r ps) (hnd : ps.Nodup) (hk0 : 0 ≤ k) (hk : k ≤ 1073741824) (hn : ps.length ≤ 1073741824) :
    Calls Try.prog 32 #[v, .int .i64 k] w fun e w' => e = .returned (.int .i64 (k + ps.length)) ∧ SeqAt lo hi k ps w w' := by
  obtain ⟨p, a, b, qs, rs, rfl, rfl, h, h2⟩ := h
  have H := Lib.hid h
  have H2 := Lib.hid h2
  have HND := Lib.hid (List.nodup_append.1 hnd)
  rw [List.length_append] at hn
  obtain ⟨A, c, rfl, _, hl, _⟩ := h
  obtain ⟨A2, c2, rfl, _⟩ := h2
  clear hnd
  go_enter Try.func32, Try.ntmps32
  go_wp2_with (fail)
  obtain ⟨w1, hw1⟩ : ∃ w1, w1 = w.alloc (Obj.cells #[Value.int IntKind.i64 p, Value.slice A r.1.2.length c, Value.slice A2 r.2.length c2] 28) := ⟨_, rfl⟩
  have B1 : Below w.heap.size w w1 := by rw [hw1]; exact below1 _ _
  have x1 : Blk w1 w.heap.size 28 #[.int .i64 p, .slice A r.1.2.length c, .slice A2 r.2.length c2] := by rw [hw1]; exact Blk.new _ _ _
  have M1 : Marked lo hi w w1 := Marked.of_below B1
  rw [← hw1]
  clear hw1
  have hmA : Calls Try.prog 76 #[.agg #[.int .i64 p, .slice A r.1.2.length c], .int .i64 k] w1 fun e w' => e = .returned (.int .i64 (k + (r.1.2.length : Int))) ∧ SeqAt lo hi k qs w1 w' := by
    have HL := Lib.hid hl
    clear hl
    go_enter Try.func76, Try.ntmps76
    go_wp2_with (fail)
    refine (lmarkIntS_any _ _ qs k lo hi _ ((H.out.marked M1).marked (Marked.of_below (below1 _ _) : Marked lo hi _ _)) hk0 (by have := HL.out; omega)).mono ?_
    rintro e w2 ⟨rfl, hm2⟩
    have HM := Lib.hid (SeqAt.below_then (below1 _ _) hm2)
    go_wp2_with (fail)
    go_ret
    exact ⟨rfl, HM.out⟩
  refine hmA.mono ?_
  rintro e w2 ⟨rfl, hm2⟩
  have y1 : w2.cell? ⟨w.heap.size, 1, none⟩ = some (.slice A r.1.2.length c) := hm2.marked.slice (x1.cell 1)
  have y2 : w2.cell? ⟨w.heap.size, 2, none⟩ = some (.slice A2 r.2.length c2) := hm2.marked.slice (x1.cell 2)
  go_wp2_with (fail)
  refine (lmarkLitS_any _ r.2 rs _ lo hi _ ((H2.out.marked M1).marked hm2.marked) HND.out.2.1 (by omega) (by omega) (by omega)).mono ?_
  rintro e w3 ⟨rfl, hm3⟩
  have HS := Lib.hid (SeqAt.below_then B1 (hm2.append (qs := rs) (by rw [hl]; exact hm3) (fun q hq hq2 => HND.out.2.2 q hq q hq2 rfl)))
  have HK := Lib.hid (show k + (r.1.2.length : Int) + (rs.length : Int) = k + ((qs ++ rs).length : Int) by rw [List.length_append]; omega)
  clear hm2 hm3
  go_wp2_with (fail)
  go_ret
  exact ⟨ret_int HK.out, HS.out⟩

end Go.Proofs.Ytocpfmbieedpgaa
/-
  Words for rows of operations of the call's own: what a loop collects, what is read of it, its leaves. No walk.
-/
namespace Go.Proofs.Ytocpfmbieedpgaa
open Go.RowKit

/-- The cells of operations, an operation's three behind each other. -/
def flat3 : List LLit → List Value → List Value
  | l :: ls, a :: av => .int .i64 l.1 :: .int .i64 l.2.1 :: a :: flat3 ls av
  | _, _ => []
theorem flat3_length : ∀ (ls : List LLit) (av : List Value), av.length = ls.length → (flat3 ls av).length = ls.length * 3
  | [], [], _ => rfl
  | [], _ :: _, h => by simp at h
  | _ :: _, [], h => by simp at h
  | l :: ls, a :: av, h => by
    have := flat3_length ls av (by simpa using h)
    simp only [flat3, List.length_cons, this]
    omega
theorem flat3_at : ∀ (ls : List LLit) (av : List Value) (_ : av.length = ls.length) (k : Nat) (hk : k < ls.length),
    (flat3 ls av)[k * 3]? = some (.int .i64 ls[k].1) ∧ (flat3 ls av)[k * 3 + 1]? = some (.int .i64 ls[k].2.1) ∧ (flat3 ls av)[k * 3 + 2]? = av[k]?
  | [], _, _, k, hk => absurd hk (by simp)
  | _ :: _, [], h, _, _ => by simp at h
  | l :: ls, a :: av, h, 0, _ => by simp [flat3]
  | l :: ls, a :: av, h, k + 1, hk => by
    have := flat3_at ls av (by simpa using h) k (by simpa using hk)
    simpa [flat3, Nat.add_mul] using this
theorem flat3_append : ∀ (ls : List LLit) (av : List Value) (_ : av.length = ls.length) (ms : List LLit) (bv : List Value), flat3 (ls ++ ms) (av ++ bv) = flat3 ls av ++ flat3 ms bv
  | [], [], _, _, _ => by simp [flat3]
  | [], _ :: _, h, _, _ => by simp at h
  | _ :: _, [], h, _, _ => by simp at h
  | l :: ls, a :: av, h, ms, bv => by
    have := flat3_append ls av (by simpa using h) ms bv
    simp [flat3, this]

/-- A row of operations of the call's own, its rows of integers named, no two of these in one block. -/
structure OwnOX (w : World) (lo hi : Nat) (v : Value) (os : List LLit) (av : List Value) : Prop where
  args : OwnArgs w lo hi av (os.map (·.2.2))
  row : w.ownsRow lo 78 3 v os.length (flat3 os av)
  lt : ∀ g, v.ownBlock = some g → g < hi
def OwnOps (w : World) (lo hi : Nat) (v : Value) (os : List LLit) : Prop := ∃ av, OwnOX w lo hi v os av

section
variable {w w' : World} {lo hi lo' hi' B : Nat} {v : Value} {av : List Value} {os : List LLit}
theorem OwnOX.len (h : OwnOX w lo hi v os av) : av.length = os.length := by simpa using h.args.len
theorem OwnOX.below (h : OwnOX w lo hi v os av) (hb : Below B w w') (hB : hi ≤ B) : OwnOX w' lo hi v os av := ⟨h.args.below hb hB, ownsRow_below h.row h.lt hb hB, h.lt⟩
theorem OwnOX.mono (h : OwnOX w lo hi v os av) (h1 : lo' ≤ lo) (h2 : hi ≤ hi') : OwnOX w lo' hi' v os av := ⟨h.args.mono h1 h2, ownsRow_mono h.row h1, fun g hg => by have := h.lt g hg; omega⟩
theorem OwnOX.only (h : OwnOX w lo hi v os av) (ho : Only lo' hi' w w') (hd : hi ≤ lo' ∨ hi' ≤ lo) : OwnOX w' lo hi v os av :=
  ⟨⟨h.args.len, fun i a b => (h.args.own i a b).only ho hd, h.args.apart⟩, ownsRow_only h.row fun g hg => ho.block g (h.row.lt g hg).2 (by have := h.row.lt g hg; have := h.lt g hg; omega), h.lt⟩
theorem OwnOX.form (h : OwnOX w lo hi v os av) : ∃ A c, v = .slice A os.length c ∧ (0 < os.length → ∃ g, A = some ⟨g, 0, none⟩ ∧ lo ≤ g ∧ g < hi) := by
  rcases h.row.2 with ⟨rfl, h0⟩ | ⟨g, cap, _, rfl, hb, _⟩
  · exact ⟨none, 0, by rw [h0], fun hn => by omega⟩
  · exact ⟨_, _, rfl, fun _ => ⟨g, rfl, hb, h.lt g rfl⟩⟩
theorem OwnOX.nil : OwnOX w lo hi (.slice none 0 0) [] [] := ⟨.nil, World.ownsRow_nil _ _ _ _, fun g hg => (by cases hg)⟩
theorem OwnOps.below (h : OwnOps w lo hi v os) (hb : Below B w w') (hB : hi ≤ B) : OwnOps w' lo hi v os := by
  obtain ⟨av, h⟩ := h
  exact ⟨av, h.below hb hB⟩
theorem OwnOps.mono (h : OwnOps w lo hi v os) (h1 : lo' ≤ lo) (h2 : hi ≤ hi') : OwnOps w lo' hi' v os := by
  obtain ⟨av, h⟩ := h
  exact ⟨av, h.mono h1 h2⟩
theorem OwnOps.only (h : OwnOps w lo hi v os) (ho : Only lo' hi' w w') (hd : hi ≤ lo' ∨ hi' ≤ lo) : OwnOps w' lo hi v os := by
  obtain ⟨av, h⟩ := h
  exact ⟨av, h.only ho hd⟩
theorem OwnOps.form (h : OwnOps w lo hi v os) : ∃ A c, v = .slice A os.length c := by
  obtain ⟨av, h⟩ := h
  obtain ⟨A, c, e, _⟩ := h.form
  exact ⟨A, c, e⟩
theorem OwnOps.nil : OwnOps w lo hi (.slice none 0 0) [] := ⟨[], OwnOX.nil⟩
theorem ownOps_nil (h : os = []) (e : v = .slice none 0 0) : OwnOps w lo hi v os := by subst h; subst e; exact OwnOps.nil

/-- What is read of a row of operations: its cells, each operation's own row of integers. -/
theorem OwnOX.get {g c : Nat} (h : OwnOX w lo hi (.slice (some ⟨g, 0, none⟩) os.length c) os av) {k : Nat} (hk : k < os.length) :
    w.cell? ⟨g, k * 3, none⟩ = some (.int .i64 os[k].1) ∧ w.cell? ⟨g, k * 3 + 1, none⟩ = some (.int .i64 os[k].2.1) ∧ w.cell? ⟨g, k * 3 + 2, none⟩ = some (av[k]'(by rw [h.len]; exact hk)) ∧
    (∀ i, w.frozen? ⟨g, i, none⟩ = false) ∧ OwnInts w lo hi (av[k]'(by rw [h.len]; exact hk)) os[k].2.2 := by
  have hl := h.len
  have hcells := @World.ownsRow.cells w lo 78 3 _ os.length (flat3 os av) h.row g rfl
  obtain ⟨e0, e1, e2⟩ := flat3_at os av hl k hk
  have hka : k < av.length := by omega
  rw [List.getElem?_eq_getElem hka] at e2
  have h0 := hcells _ _ e0
  have h1 := hcells _ _ e1
  have h2 := hcells _ _ e2
  rw [Go.WideShapes.add_plain, Nat.zero_add] at h0 h1 h2
  refine ⟨h0, h1, h2, fun i => ?_, by have := h.args.own k (by simpa using hk) hka; simpa using this⟩
  rcases h.row.2 with ⟨e, _⟩ | ⟨g', cap, cur, e, _, hgg, _⟩
  · cases e
  · injection e with e3 _ _
    injection e3 with e3
    injection e3 with e3 _ _
    subst e3
    simp [World.frozen?, hgg]
theorem OwnOps.rd (h : OwnOps w lo hi v os) : RdLits w hi v os := by
  obtain ⟨av, h⟩ := h
  have hrow := h.row.2
  rcases Nat.eq_zero_or_pos os.length with h0 | hn
  · rcases hrow with ⟨rfl, _⟩ | ⟨g, cap, cur, rfl, hb, hg, hn, _⟩
    · exact ⟨none, 0, by rw [h0], by omega, fun hn => absurd hn (by omega)⟩
    · exact ⟨_, cap, rfl, hn, fun hn => absurd hn (by omega)⟩
  · rcases hrow with ⟨_, e⟩ | ⟨g, cap, cur, rfl, hb, hg, hcap, _⟩
    · omega
    · refine ⟨_, cap, rfl, hcap, fun _ => ⟨g, 0, rfl, h.lt g rfl, fun k hk => ?_⟩⟩
      obtain ⟨c0, c1, c2, _, ho⟩ := h.get hk
      exact ⟨_, _, _, by simpa using c0, by simpa using c1, by simpa using c2, rfl, rfl, ho.rd⟩

/-- The block of a row of integers is no block of a row of operations. -/
theorem opsT_ne {n : Nat} {a : Value} {zs : List Value} {xs : List Int} {g : Nat} (hr : w.ownsRow lo' 78 3 v n zs) (hv : v.ownBlock = some g) (ha : OwnInts w lo hi a xs) : a.ownBlock ≠ some g := by
  rcases hr.2 with ⟨rfl, _⟩ | ⟨g1, c1, cur1, rfl, _, h1, _⟩
  · cases hv
  · have e : g1 = g := by simpa [Value.ownBlock] using hv
    subst e
    exact blk_ne_row ha.1 (show Blk w g1 78 cur1 from h1) (by decide)

/-- The leaves of a row of operations of the call's own, each once. -/
theorem OwnOps.leaves (h : OwnOps w lo hi v os) : ∃ ps, LvLits w lo hi v os ps ∧ ps.Nodup := by
  have hrd := h.rd
  obtain ⟨av, h⟩ := h
  have hl := h.len
  obtain ⟨A, c, rfl, hform⟩ := h.form
  obtain ⟨A0, c0, e0, hcc, _⟩ := hrd
  injection e0 with _ _ e0
  subst e0
  rcases Nat.eq_zero_or_pos os.length with h0 | hn
  · exact ⟨[], ⟨A, c, rfl, hcc, fun _ => rfl, fun hn => absurd hn (by omega)⟩, List.nodup_nil⟩
  · obtain ⟨g, rfl, h1, h2⟩ := hform hn
    obtain ⟨qs, hqs⟩ := Go.Deep.choose_lt (α := List Addr) (n := os.length) (p := fun k ps => ∀ hk : k < os.length, LvInts w lo hi (av[k]'(by omega)) os[k].2.2.length ps) (fun k hk => by
      obtain ⟨ps, hp⟩ := (h.get hk).2.2.2.2.leaves
      exact ⟨ps, fun _ => hp⟩)
    have hblk : ∀ k (hk : k < os.length) p, p ∈ qs k → (av[k]'(by omega)).ownBlock = some p.block := fun k hk p hp => by
      obtain ⟨A3, c3, e3, _, hle, hx⟩ := hqs k hk hk
      have hpos : 0 < os[k].2.2.length := by rw [← hle]; exact List.length_pos_of_mem hp
      obtain ⟨b, o, rfl, _, _, he, _⟩ := hx hpos
      rw [he] at hp
      simp only [List.mem_map, List.mem_range] at hp
      obtain ⟨j, _, rfl⟩ := hp
      rw [e3]
      have hown := (h.get hk).2.2.2.2
      rw [e3] at hown
      rcases hown.1.2 with ⟨e, _⟩ | ⟨g', cap, cur, e, _⟩
      · cases e
      · injection e with e4 _ _
        injection e4 with e4
        injection e4 with e4 e5 _
        subst e4
        subst e5
        rfl
    refine ⟨preL (litEl g 0 qs) os.length, ⟨_, c, rfl, hcc, fun e => absurd e (by omega), fun _ => ⟨g, 0, qs, rfl, h1, h2, rfl, fun k hk => ?_⟩⟩, preL_nodup_of (fun j hj => ?_) (fun i j hij hj p hp hq => ?_)⟩
    · obtain ⟨d0, d1, d2, fz, _⟩ := h.get hk
      exact ⟨⟨fz _, fz _⟩, _, _, _, by simpa using d0, by simpa using d1, by simpa using d2, hqs k hk hk⟩
    · have hne : ∀ p ∈ qs j, p.block ≠ g := fun p hp e => opsT_ne h.row rfl (h.get hj).2.2.2.2 (by rw [hblk j hj p hp, e])
      simp only [litEl, List.nodup_cons, List.mem_cons, not_or]
      refine ⟨⟨fun e => by injection e with _ e _; omega, fun hp => hne _ hp rfl⟩, fun hp => hne _ hp rfl, (hqs j hj hj).nodup⟩
    · have hil : i < os.length := by omega
      have hnei : ∀ p ∈ qs i, p.block ≠ g := fun p hp e => opsT_ne h.row rfl (h.get hil).2.2.2.2 (by rw [hblk i hil p hp, e])
      have hnej : ∀ p ∈ qs j, p.block ≠ g := fun p hp e => opsT_ne h.row rfl (h.get hj).2.2.2.2 (by rw [hblk j hj p hp, e])
      have hap := List.pairwise_iff_getElem.1 h.args.apart i j (by omega) (by omega) hij
      simp only [litEl, List.mem_cons] at hp hq
      rcases hp with rfl | rfl | hp
      · rcases hq with e | e | hq
        · injection e with _ e _; omega
        · injection e with _ e _; omega
        · exact hnej _ hq rfl
      · rcases hq with e | e | hq
        · injection e with _ e _; omega
        · injection e with _ e _; omega
        · exact hnej _ hq rfl
      · rcases hq with rfl | rfl | hq
        · exact hnei _ hp rfl
        · exact hnei _ hp rfl
        · exact hap _ (hblk i hil _ hp) (hblk j hj _ hq)
end

/-- Operations are collected in blocks from lo on, each with a row of its own. -/
structure ColOp (lo : Nat) (w wr : World) (os : List LLit) (A : Option Addr) (c : Nat) (av : List Value) : Prop where
  below : Below w.heap.size w wr
  lo1 : w.heap.size ≤ lo
  lo2 : lo ≤ wr.heap.size
  own : OwnOX wr lo wr.heap.size (.slice A os.length c) os av
section
variable {lo : Nat} {w wr w2 w4 : World} {os os' : List LLit} {A : Option Addr} {c g cap : Nat} {av : List Value} {s : LLit} {a : Value} {o : Obj}
theorem ColOp.nil (hb : Below w.heap.size w wr) (h1 : w.heap.size ≤ lo) (h2 : lo ≤ wr.heap.size) : ColOp lo w wr [] none 0 [] := ⟨hb, h1, h2, OwnOX.nil⟩
theorem ColOp.empty (hb : Below w.heap.size w wr) (h1 : w.heap.size ≤ lo) (h2 : lo ≤ wr.heap.size) : ColOp lo w (wr.alloc (.cells #[] 78)) [] (some ⟨wr.heap.size, 0, none⟩) 0 [] :=
  ⟨hb.alloc hb.size _, h1, by simp; omega, ⟨.nil, World.ownsRow_made wr #[] 0 h2 (by decide) rfl, fun g hg => (by simp [Value.ownBlock] at hg; subst hg; simp)⟩⟩
theorem ColOp.on (h : ColOp lo w wr os A c av) (hb : Below wr.heap.size wr w2) : ColOp lo w w2 os A c av :=
  ⟨bthen h.below hb, h.lo1, Nat.le_trans h.lo2 hb.size, (h.own.below hb (Nat.le_refl _)).mono (Nat.le_refl _) hb.size⟩
/-- A block between is written. -/
theorem ColOp.only (h : ColOp lo w wr os A c av) {lo' hi' : Nat} (ho : Only lo' hi' wr w2) (h1 : w.heap.size ≤ lo') (h2 : hi' ≤ lo) : ColOp lo w w2 os A c av :=
  ⟨Only.then_ h.below ho h1, h.lo1, Nat.le_trans h.lo2 ho.size, (h.own.only ho (.inr h2)).mono (Nat.le_refl _) ho.size⟩
theorem ColOp.ops (h : ColOp lo w wr os A c av) : OwnOps wr w.heap.size wr.heap.size (.slice A os.length c) os := ⟨av, h.own.mono h.lo1 (Nat.le_refl _)⟩
theorem ColOp.push (h : ColOp lo w wr os A c av) (e : os' = os ++ [s]) (hb : Below wr.heap.size wr w2)
    (ha : OwnInts w2 wr.heap.size w2.heap.size a s.2.2) (hg : (w2.alloc o).grownBy w4 (Value.slice A os.length c).ownBlock)
    (hown : w4.ownsRow lo 78 3 (.slice (some ⟨g, 0, none⟩) (os.length + 1) cap) (os.length + 1) (flat3 os av ++ [.int .i64 s.1, .int .i64 s.2.1, a])) :
    ColOp lo w w4 os' (some ⟨g, 0, none⟩) cap (av ++ [a]) ∧ os.length + 1 = os'.length := by
  subst e
  have hg' := grown_from_alloc hg
  have hl : os.length + 1 = (os ++ [s]).length := by simp
  have hargs := (h.own.args.below hb (Nat.le_refl _)).snoc ha h.lo2 hb.size
  have hrow2 := ownsRow_below h.own.row h.own.lt hb (Nat.le_refl _)
  have hlen : av.length = os.length := h.own.len
  have h1 := h.lo1
  have h2 := h.lo2
  have hz := hb.size
  refine ⟨⟨((bthen h.below hb).alloc (bthen h.below hb).size _).grown hg (by have := (bthen h.below hb).size; simp; omega) (fun k hk => Nat.le_trans h1 (h.own.row.lt k hk).1), h1, by have := hg'.size; omega, ⟨?_, ?_, fun g hg2 => ?_⟩⟩, hl⟩
  · rw [List.map_append]
    exact ⟨hargs.len, fun i h1 h3 => ((hargs.own i h1 h3).kept fun q hq => hg'.block q ((hargs.own i h1 h3).lt hq).2.2 (fun e => opsT_ne hrow2 e.symm (hargs.own i h1 h3) hq)).mono (Nat.le_refl _) hg'.size, hargs.apart⟩
  · rw [flat3_append _ _ hlen, ← hl]
    exact hown
  · rw [← hl] at hg2
    exact (hown.lt g hg2).2
end

theorem news1o (w : World) (u0 : Value) (t : TypeId) : ∀ j u, [u0][j]? = some u → (w.alloc (.cells #[u0] t)).cell? ((⟨w.heap.size, 0, none⟩ : Addr).add j) = some u := World.news_of_block (cs := #[u0]) (heap_alloc_new w _)
theorem news3o (w : World) (u0 u1 u2 : Value) (t : TypeId) : ∀ j u, [u0, u1, u2][j]? = some u → (w.alloc (.cells #[u0, u1, u2] t)).cell? ((⟨w.heap.size, 0, none⟩ : Addr).add j) = some u := World.news_of_block (cs := #[u0, u1, u2]) (heap_alloc_new w _)

end Go.Proofs.Ytocpfmbieedpgaa
/-
  The walks of szOp, toOp, eqOp, szOpS, toOpS, eqOpS: an operation reads as a literal does.
-/
namespace Go.Proofs.Ytocpfmbieedpgaa
open Go.RowKit

set_option maxHeartbeats 400000 in
theorem szOp_any (v : Value) (l : LLit) (left : Int) (w : World) (h : RdLit w w.heap.size v l) (h0 : 0 ≤ left) (hl : left ≤ 1048576) (hn : l.2.2.length ≤ 9223372036854775807) :
    Calls Try.prog 65 #[v, .int .i64 left] w fun e w' => e = .returned (.int .i64 (szV left l.2.2.length)) ∧ Below w.heap.size w w' := by
  obtain ⟨a, rfl, h⟩ := h
  have H := Lib.hid h
  obtain ⟨A, c, rfl, hc, _⟩ := h
  have hcs := szV_cases left l.2.2.length
  go_enter Try.func65, Try.ntmps65
  go_wp2_with (fail)
  refine (szAtom_any _ l.2 _ _ ⟨_, rfl, H.out.on (below1 _ _)⟩ h0 hl hn).mono ?_
  rintro e w1 ⟨rfl, hb⟩
  have hB := bthen (below1 _ _) hb
  rcases hcs with ⟨e1, _⟩ | ⟨e1, _⟩
  · rw [e1]
    have HV := Lib.hid e1
    clear e1
    go_wp2_with (fail)
    go_ret
    exact ⟨ret_int HV.out.symm, hB⟩
  · have h1 : ¬ szV left l.2.2.length < 0 := by omega
    go_wp2_with (fail)
    go_ret
    exact ⟨rfl, hB⟩

set_option maxHeartbeats 400000 in
theorem toOp_any (v : Value) (l : LLit) (w : World) (h : RdLit w w.heap.size v l) (hn : l.2.2.length * 8 ≤ 140737488351232) :
    Calls Try.prog 68 #[v] w fun e w' => ∃ A' c', e = .returned (.agg #[.int .i64 l.1, .int .i64 l.2.1, .slice A' l.2.2.length c']) ∧ OwnInts w' w.heap.size w'.heap.size (.slice A' l.2.2.length c') l.2.2 ∧ Below w.heap.size w w' := by
  obtain ⟨a, rfl, h⟩ := h
  have H := Lib.hid h
  obtain ⟨A, c, rfl, hc, _⟩ := h
  go_enter Try.func68, Try.ntmps68
  go_wp2_with (fail)
  refine (toAtom_any _ l.2 _ ⟨_, rfl, H.out.on (below3 _ _ _ _)⟩ hn).mono ?_
  rintro e w4 ⟨A4, c4, rfl, ho, hb⟩
  have hB := bthen (below3 _ _ _ _) hb
  have b1 : Blk w4 (w.heap.size + 1) 78 #[.int .i64 0, .int .i64 0, .slice none 0 0] := ((by simpa using (Blk.new (w.alloc (Obj.cells #[Value.int IntKind.i64 l.1, Value.int IntKind.i64 l.2.1, Value.slice A l.2.2.length c] 99)) _ _).alloc _ : Blk _ _ _ _)).below hb (by simp)
  have b2 : Blk w4 (w.heap.size + 2) 78 #[.int .i64 l.1, .int .i64 0, .slice none 0 0] := ((by simpa using Blk.new ((w.alloc (Obj.cells #[Value.int IntKind.i64 l.1, Value.int IntKind.i64 l.2.1, Value.slice A l.2.2.length c] 99)).alloc (Obj.cells #[.int .i64 0, .int .i64 0, .slice none 0 0] 78)) _ _ : Blk _ _ _ _)).below hb (by simp)
  have b1c0 : w4.cell? ⟨w.heap.size + 1, 0, none⟩ = some (.int .i64 0) := b1.cell 0
  have b1c1 : w4.cell? ⟨w.heap.size + 1, 1, none⟩ = some (.int .i64 0) := b1.cell 1
  have b1c2 : w4.cell? ⟨w.heap.size + 1, 2, none⟩ = some (.slice none 0 0) := b1.cell 2
  have b2c0 : w4.cell? ⟨w.heap.size + 2, 0, none⟩ = some (.int .i64 l.1) := b2.cell 0
  have b2c1 : w4.cell? ⟨w.heap.size + 2, 1, none⟩ = some (.int .i64 0) := b2.cell 1
  have b2c2 : w4.cell? ⟨w.heap.size + 2, 2, none⟩ = some (.slice none 0 0) := b2.cell 2
  have b1f0 := b1.frozen 0
  have b1f1 := b1.frozen 1
  have b1f2 := b1.frozen 2
  have b2f0 := b2.frozen 0
  have b2f1 := b2.frozen 1
  have b2f2 := b2.frozen 2
  go_wp2_with (fail)
  refine bodyPost_ret (v := .agg #[.int .i64 l.1, .int .i64 l.2.1, .slice A4 l.2.2.length c4]) (by simp [results, Try.results68, go_sem, b1c0, b1c1, b1c2]) rfl ⟨_, _, rfl, ?_, ?_⟩
  · refine OwnInts.mono (OwnInts.keep (lo := (((w.alloc (Obj.cells #[Value.int IntKind.i64 l.1, Value.int IntKind.i64 l.2.1, Value.slice A l.2.2.length c] 99)).alloc (Obj.cells #[.int .i64 0, .int .i64 0, .slice none 0 0] 78)).alloc (Obj.cells #[.int .i64 l.1, .int .i64 0, .slice none 0 0] 78)).heap.size) (hi := w4.heap.size) ho ?_) (by simp; omega) (by simp)
    intro g h1 h2
    simp at h1
    repeat (rw [Below.heap_setCell _ _ _ _ (by show g ≠ _; simp only []; omega)])
  · repeat (first | exact hB | refine Below.setCell ?_ (by simp <;> omega) _)

set_option maxHeartbeats 400000 in
theorem eqOp_any (v v2 : Value) (f g : LLit) (w : World) (h : RdLit w w.heap.size v f) (h2 : RdLit w w.heap.size v2 g) (hn : f.2.2.length * 8 ≤ 140737488351232) (hn2 : g.2.2.length * 8 ≤ 140737488351232) :
    Calls Try.prog 69 #[v, v2] w fun e w' => e = .returned (.bool (decide (f = g))) ∧ Below w.heap.size w w' := by
  obtain ⟨a, rfl, h⟩ := h
  have H := Lib.hid h
  obtain ⟨A, c, rfl, hc, _⟩ := h
  obtain ⟨a, rfl, h2⟩ := h2
  have H2 := Lib.hid h2
  obtain ⟨A2, c2, rfl, hc2, _⟩ := h2
  by_cases hp : f.1 = g.1
  · have hpb : (f.1 != g.1) = false := by simp [hp]
    have HE := Lib.hid (show decide (f = g) = decide (f.2 = g.2) by simp [Prod.ext_iff, hp])
    clear hp
    go_enter Try.func69, Try.ntmps69
    go_wp2_with (fail)
    refine (eqAtom_any _ _ f.2 g.2 _ ⟨_, rfl, H.out.on (below2 _ _ _)⟩ ⟨_, rfl, H2.out.on (below2 _ _ _)⟩ hn hn2).mono ?_
    rintro e w4 ⟨rfl, hb⟩
    have hB := bthen (below2 _ _ _) hb
    by_cases hd : f.2 = g.2
    · have hdb : decide (f.2 = g.2) = true := by simp [hd]
      have HD := Lib.hid hdb
      clear hd
      go_wp2_with (fail)
      go_ret
      exact ⟨ret_bool (by rw [HE.out, HD.out]), hB⟩
    · have hdb : decide (f.2 = g.2) = false := by simp [hd]
      have HD := Lib.hid hdb
      clear hd
      go_wp2_with (fail)
      go_ret
      exact ⟨ret_bool (by rw [HE.out, HD.out]), hB⟩
  · have hpb : (f.1 != g.1) = true := by simp [hp]
    have HE := Lib.hid (show decide (f = g) = false by simp [Prod.ext_iff, hp])
    clear hp
    go_enter Try.func69, Try.ntmps69
    go_wp2_with (fail)
    go_ret
    exact ⟨ret_bool HE.out.symm, below2 _ _ _⟩

theorem Try.infoOp : (Try.prog.info? 78).map (fun i => (i.zero, i.size, i.bytes)) = some (some (.agg #[.int .i64 0, .int .i64 0, .slice none 0 0]), 3, 40) := by kernel_rfl

set_option maxHeartbeats 400000 in
theorem toOpS_any (v : Value) (ls : List LLit) (w : World) (h : RdLits w w.heap.size v ls) (hl : ls.length ≤ 1048576) (hn : totL ls ≤ 1048576) :
    Calls Try.prog 25 #[v] w fun e w' => ∃ A' c', e = .returned (.slice A' ls.length c') ∧ OwnLits w' w.heap.size w'.heap.size (.slice A' ls.length c') ls ∧ Below w.heap.size w w' := by
  obtain ⟨i0, hi0, hz0, hz1, hz2⟩ := info_parts Try.infoOp
  have hmk := fun W => run_make_rowN (P := Try.prog) 31 78 i0 (.agg #[.int .i64 0, .int .i64 0, .slice none 0 0]) Try.underlying31 hi0 hz0 .i64 .i64 ls.length ls.length (Nat.le_refl _) (by rw [hz2]; omega) (by omega) W
  rw [hz1] at hmk
  simp only [Value.cells] at hmk
  have H := Lib.hid h
  obtain ⟨A, c, rfl, hc, _⟩ := h
  go_enter Try.func25, Try.ntmps25
  go_wp2_with (fail)
  go_loopw [4] (fun i wr => ∃ (k : Nat), k ≤ ls.length ∧ i = .int .i64 k ∧ ToRow 78 (.int .i64 0) (.int .i64 0) (.slice none 0 0) OLit w wr ls k) (fun i _ => ls.length - (intOf i).toNat)
  case atStart => exact ⟨0, Nat.zero_le _, rfl, ToRow.start w ls⟩
  case round =>
    obtain ⟨k, hk, rfl, hr⟩ := hrel
    by_cases hlt : k < ls.length
    · obtain ⟨b, o, u0, u1, u2, rfl, hbB, k0, k1, k2, rfl, rfl, k3⟩ := (H.out.on hr.below).get hlt
      have HA := Lib.hid k3
      obtain ⟨A3, c3, rfl, hc4, _⟩ := k3
      have hln := len_le_totL ls k hlt
      go_wp2_with (fail)
      refine (toOp_any _ ls[k] _ ⟨_, rfl, HA.out⟩ (by omega)).mono ?_
      rintro e w4 ⟨A4, c4, rfl, ho4, hb4⟩
      obtain ⟨r1, r2, r3, r4, r5, r6⟩ := hr.room hlt hb4
      have hstep := hr.step (O := OLit) OLit.keep OLit.mono hlt hb4 (u0 := .int .i64 ls[k].1) (u1 := .int .i64 ls[k].2.1) ⟨rfl, rfl, ho4⟩
      go_wp2_with (fail)
      go_roundw
      case rel => exact ⟨k + 1, by omega, by go_num, hstep⟩
      case measure => simp [intOf]; omega
    · have hkn : k = ls.length := by omega
      have HO := Lib.hid (show OwnLits wr w.heap.size wr.heap.size (.slice (some ⟨w.heap.size, 0, none⟩) ls.length ls.length) ls from ToRow.done (O := OLit) OLit.mono (by have h' := hr; rw [hkn] at h'; exact h'))
      have hbe := hr.below
      clear hkn hr
      go_wp2_with (fail)
      go_ret
      exact ⟨_, _, rfl, HO.out, hbe⟩

set_option maxHeartbeats 400000 in
set_option maxRecDepth 100000 in
theorem eqOpS_any (va vb : Value) (xs ys : List LLit) (w : World) (ha : RdLits w w.heap.size va xs) (hb : RdLits w w.heap.size vb ys) (hx : xs.length ≤ 1048576) (hy : ys.length ≤ 1048576) (htx : totL xs ≤ 1048576) (hty : totL ys ≤ 1048576) :
    Calls Try.prog 27 #[va, vb] w fun e w' => e = .returned (.bool (decide (xs = ys))) ∧ Below w.heap.size w w' := by
  have HX := Lib.hid ha
  have HY := Lib.hid hb
  obtain ⟨A, c, rfl, hc, _⟩ := ha
  obtain ⟨A2, c2, rfl, hc2, _⟩ := hb
  by_cases hl : xs.length = ys.length
  · have hl1 : ((xs.length : Int) != (ys.length : Int)) = false := by simp [hl]
    have HL := Lib.hid hl
    clear hl
    go_enter Try.func27, Try.ntmps27
    go_wp2_with (fail)
    go_loopw [5] (fun i wr => ∃ k : Nat, k ≤ xs.length ∧ i = .int .i64 k ∧ TSame xs ys k ∧ Below w.heap.size w wr) (fun i _ => xs.length - (intOf i).toNat)
    case atStart => exact ⟨0, Nat.zero_le _, rfl, rfl, Below.refl _ _⟩
    case round =>
      obtain ⟨k, hk, rfl, hs, hbe⟩ := hrel
      by_cases hlt : k < xs.length
      · have hlt2 : k < ys.length := by have := HL.out; omega
        obtain ⟨b, o, u0, u1, u2, rfl, hbB, k0, k1, k2, rfl, rfl, p3⟩ := (HX.out.on hbe).get hlt
        obtain ⟨b2, o2, v0, v1, v2, rfl, hbB2, m0, m1, m2, rfl, rfl, q3⟩ := (HY.out.on hbe).get hlt2
        have hln := len_le_totL xs k hlt
        have hln2 := len_le_totL ys k hlt2
        have HA := Lib.hid p3
        have HA2 := Lib.hid q3
        obtain ⟨A3, c3, rfl, hc3, _⟩ := p3
        obtain ⟨A4, c4, rfl, hc4, _⟩ := q3
        go_wp2_with (fail)
        go_still_tail 8, (by kernel_rfl)
        change wpList _ _ _ _ _ wr.drew
        obtain ⟨w2, hw2⟩ : ∃ w2, w2 = wr.drew := ⟨_, rfl⟩
        rw [← hw2]
        have hbe2 : Below wr.heap.size wr w2 := by rw [hw2]; exact (Below.refl _ _).drew
        clear hw2
        go_wp2_with (fail)
        refine (eqOp_any _ _ xs[k] ys[k] _ ⟨_, rfl, HA.out.on hbe2⟩ ⟨_, rfl, HA2.out.on hbe2⟩ (by omega) (by omega)).mono ?_
        rintro e w4 ⟨rfl, hb4⟩
        have hB4 := bthen hbe (bthen hbe2 hb4)
        by_cases he : xs[k] = ys[k]
        · have hdb : decide (xs[k] = ys[k]) = true := by simp [he]
          have HS := Lib.hid (hs.step hlt hlt2 he)
          clear he hs
          go_wp2_with (fail)
          go_roundw
          case rel => exact ⟨k + 1, by omega, by go_num, HS.out, hB4⟩
          case measure => simp [intOf]; omega
        · have hdb : decide (xs[k] = ys[k]) = false := by simp [he]
          have HE := Lib.hid (show xs ≠ ys from fun e => he (by subst e; rfl))
          clear he hs
          go_wp2_with (fail)
          go_ret
          exact ⟨ret_bool (by simp [HE.out]), hB4⟩
      · have hkn : k = xs.length := by omega
        have HE := Lib.hid (show xs = ys from TSame.eq (by rw [← hkn]; exact hs) HL.out)
        clear hkn hs
        go_wp2_with (fail)
        go_ret
        exact ⟨ret_bool (by simp [HE.out]), hbe⟩
  · have hl1 : ((xs.length : Int) != (ys.length : Int)) = true := by simp; omega
    have HE := Lib.hid (show xs ≠ ys from fun e => hl (by rw [e]))
    clear hl
    go_enter Try.func27, Try.ntmps27
    go_wp2_with (fail)
    go_ret
    exact ⟨ret_bool (by simp [HE.out]), Below.refl _ _⟩

set_option maxHeartbeats 400000 in
theorem szOpS_any (v : Value) (ls : List LLit) (left : Int) (w : World) (h : RdLits w w.heap.size v ls) (h0 : 0 ≤ left) (hl : left ≤ 1048576) (hn : ls.length ≤ 9223372036854775807) (hm : ∀ k (h : k < ls.length), ls[k].2.2.length ≤ 9223372036854775807) :
    Calls Try.prog 22 #[v, .int .i64 left] w fun e w' => ∃ r, e = .returned (.int .i64 r) ∧ SzRes r left (ls.length + totL ls) ∧ Below w.heap.size w w' := by
  have H := Lib.hid h
  obtain ⟨A, c, rfl, hc, _⟩ := h
  by_cases hneg : left - (ls.length : Int) < 0
  · go_enter Try.func22, Try.ntmps22
    go_wp2_with (fail)
    go_ret
    exact ⟨_, rfl, .inl rfl, Below.refl _ _⟩
  · go_enter Try.func22, Try.ntmps22
    go_wp2_with (fail)
    go_loopw [1, 5] (fun l i wr => ∃ (k : Nat) (r : Int), k ≤ ls.length ∧ i = .int .i64 k ∧ l = .int .i64 r ∧ SzTo r left ls.length (totL (ls.take k)) ∧ Below w.heap.size w wr) (fun _ i _ => ls.length - (intOf i).toNat)
    case atStart => exact ⟨0, _, Nat.zero_le _, rfl, rfl, ⟨by omega, by simp [totL]⟩, Below.refl _ _⟩
    case round =>
      obtain ⟨k, r, hk, rfl, rfl, hs, hbe⟩ := hrel
      by_cases hlt : k < ls.length
      · obtain ⟨b, o, u0, u1, u2, rfl, hbB, k0, k1, k2, rfl, rfl, p3⟩ := (H.out.on hbe).get hlt
        have HA := Lib.hid p3
        obtain ⟨A3, c3, rfl, hc3, _⟩ := p3
        have hmk := hm k hlt
        have htk := totL_take ls k hlt
        have hcs := szV_cases r ls[k].2.2.length
        have hr0 := hs.1
        have hr1 := hs.2
        have HT := Lib.hid (And.intro htk hr1)
        clear htk hr1
        go_wp2_with (fail)
        refine (szOp_any _ ls[k] r _ ⟨_, rfl, HA.out⟩ hr0 (by have := HT.out; omega) hmk).mono ?_
        rintro e w4 ⟨rfl, hb4⟩
        have hB4 := bthen hbe hb4
        rcases hcs with ⟨e1, _⟩ | ⟨e1, e2⟩
        · rw [e1]
          clear e1
          go_wp2_with (fail)
          go_ret
          exact ⟨_, rfl, .inl rfl, hB4⟩
        · have h1 : ¬ szV r ls[k].2.2.length < 0 := by omega
          have HS := Lib.hid (show SzTo (szV r ls[k].2.2.length) left ls.length (totL (ls.take (k + 1))) from ⟨e1, by have := HT.out; omega⟩)
          clear e2
          go_wp2_with (fail)
          go_roundw
          case rel => exact ⟨k + 1, _, by omega, by go_num, rfl, HS.out, hB4⟩
          case measure => simp [intOf]; omega
      · have hkn : k = ls.length := by omega
        have HE := Lib.hid (show SzRes r left (ls.length + totL ls) from .inr ⟨hs.1, by have := hs.2; rw [hkn, List.take_length] at this; omega⟩)
        clear hkn hs
        go_wp2_with (fail)
        go_ret
        exact ⟨_, rfl, HE.out, hbe⟩

end Go.Proofs.Ytocpfmbieedpgaa
/-
  The element of a row of Booleans.
-/
namespace Go.Proofs.Ytocpfmbieedpgaa
open Go

theorem Try.infoBoolQ : (Try.prog.info? 4).map (fun i => (i.zero, i.size, i.bytes)) = some (some (.bool false), 1, 1) := by kernel_rfl

end Go.Proofs.Ytocpfmbieedpgaa
