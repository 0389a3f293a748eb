/-
  The specification's renaming: the walks of l2Number and l2Atom.
-/
import Derived.Test.YtgacdehbdhhbnaaRenPure
import Derived.Test.YtgacdehbdhhbnaaRulesOf
import Derived.Test.YtgacdehbdhhbnaaSafe
import Derived.Deep.DeepCutAuto
namespace Go.Proofs.Ytgacdehbdhhbnaa
open Go.RowKit

/-- Block g is a row that holds what the variables have become. -/
def ToAt (w : World) (g : Nat) (s : Ren) : Prop := ∃ a b c d : Int, s.1 = [a, b, c, d] ∧ Blk w g 3 #[.int .i64 a, .int .i64 b, .int .i64 c, .int .i64 d]
theorem ToAt.lt {w : World} {g : Nat} {s : Ren} (h : ToAt w g s) : g < w.heap.size := by
  obtain ⟨_, _, _, _, _, hx⟩ := h
  exact hx.lt
theorem ToAt.below {w w' : World} {g B : Nat} {s : Ren} (h : ToAt w g s) (hb : Below B w w') (hg : g < B) : ToAt w' g s := by
  obtain ⟨a, b, c, d, e, hx⟩ := h
  exact ⟨a, b, c, d, e, hx.below hb hg⟩
theorem ToAt.rd {w : World} {g : Nat} {s : Ren} (h : ToAt w g s) : RdInts w w.heap.size (.slice (some ⟨g, 0, none⟩) 4 4) s.1 := by
  obtain ⟨a, b, c, d, e, hx⟩ := h
  rw [e]
  refine ⟨_, 4, rfl, Nat.le_refl _, fun _ => ⟨g, 0, rfl, hx.lt, fun k hk => ?_⟩⟩
  simp at hk
  match k, hk with
  | 0, _ => exact hx.cell 0
  | 1, _ => exact hx.cell 1
  | 2, _ => exact hx.cell 2
  | 3, _ => exact hx.cell 3
/-- The cell of a variable. -/
theorem ToAt.cell {w : World} {g : Nat} {s : Ren} (h : ToAt w g s) {v : Nat} (hv : v < 4) : w.cell? ⟨g, v, none⟩ = some (.int .i64 (s.1.getD v 0)) ∧ w.frozen? ⟨g, v, none⟩ = false := by
  obtain ⟨a, b, c, d, e, hx⟩ := h
  rw [e]
  refine ⟨?_, hx.frozen v⟩
  match v, hv with
  | 0, _ => exact hx.cell 0
  | 1, _ => exact hx.cell 1
  | 2, _ => exact hx.cell 2
  | 3, _ => exact hx.cell 3
theorem ToAt.store {w : World} {g m m' : Nat} {ts : List Int} (h : ToAt w g (ts, m)) {v : Nat} (hv : v < 4) (y : Int) : ToAt (w.setCell ⟨g, v, none⟩ (.int .i64 y)) g (ts.set v y, m') := by
  obtain ⟨a, b, c, d, e, hx⟩ := h
  simp only at e
  subst e
  match v, hv with
  | 0, _ => exact ⟨y, b, c, d, rfl, by simpa using hx.set_ 0 (.int .i64 y)⟩
  | 1, _ => exact ⟨a, y, c, d, rfl, by simpa using hx.set_ 1 (.int .i64 y)⟩
  | 2, _ => exact ⟨a, b, y, d, rfl, by simpa using hx.set_ 2 (.int .i64 y)⟩
  | 3, _ => exact ⟨a, b, c, y, rfl, by simpa using hx.set_ 3 (.int .i64 y)⟩

theorem renList_big : ∀ (xs : List Int) (s : Ren), (renList s xs).2 ≤ s.2 + xs.length
  | [], s => by simp [renList]
  | t :: xs, s => by
    have h1 := renList_big xs (renStep s t)
    have h2 : (renStep s t).2 ≤ s.2 + 1 := by
      unfold renStep
      split <;> simp
    show (renList (renStep s t) xs).2 ≤ _
    simp only [List.length_cons]
    omega
theorem renStep_yes {ts : List Int} {m v : Nat} {t : Int} (hv : v < 4) (ht : t = -1 - (v : Int)) (h : ts.getD v 0 = 0) : renStep (ts, m) t = (ts.set v (-1 - (m : Int)), m + 1) := by
  have e : (-1 - t).toNat = v := by omega
  have hb : isVarB t = true := by simp [isVarB]; omega
  unfold renStep
  rw [hb, e]
  simp only [h]
  rfl
theorem renStep_skip {ts : List Int} {m v : Nat} {t : Int} (ht : t = -1 - (v : Int)) (h : ts.getD v 0 ≠ 0) : renStep (ts, m) t = (ts, m) := by
  have e : (-1 - t).toNat = v := by omega
  unfold renStep
  rw [e]
  split
  · rename_i hc
    simp only [Bool.and_eq_true, beq_iff_eq] at hc
    exact absurd hc.2 h
  · rfl
theorem term_cases {t : Int} (h : termOk t = true) : 0 ≤ t ∨ t = -1 ∨ t = -2 ∨ t = -3 ∨ t = -4 := by simp [termOk] at h; omega

set_option maxHeartbeats 2000000 in
set_option maxRecDepth 100000 in
theorem l2Number_any (g : Nat) (s : Ren) (va : Value) (xs : List Int) (w : World) (hT : ToAt w g s) (h : RdInts w g va xs) (hn : xs.length ≤ 1048576) (hm : s.2 ≤ 4611686014132420000) (hok : xs.all termOk = true) :
    Calls Try.prog 89 #[.slice (some ⟨g, 0, none⟩) 4 4, .int .i64 (s.2 : Int), va] w fun e w' => e = .returned (.int .i64 ((renList s xs).2 : Int)) ∧ ToAt w' g (renList s xs) ∧ Only g (g + 1) w w' := by
  have HT := Lib.hid hT
  clear hT
  obtain ⟨A, c, rfl, hc, h⟩ := h
  go_enter Try.func89, Try.ntmps89
  go_wp2_with (fail)
  go_loopw [1, 7] (fun m i wr => ∃ k : Nat, k ≤ xs.length ∧ i = .int .i64 k ∧ m = .int .i64 ((renList s (xs.take k)).2 : Int) ∧ ToAt wr g (renList s (xs.take k)) ∧ Only g (g + 1) w wr) (fun _ i _ => xs.length - (intOf i).toNat)
  case atStart => exact ⟨0, Nat.zero_le _, rfl, rfl, HT.out, Only.refl _ _ _⟩
  case round =>
    obtain ⟨k, hk, rfl, rfl, ht, hon⟩ := hrel
    by_cases hlt : k < xs.length
    · obtain ⟨b, o, rfl, hbB, hx⟩ := h (by omega)
      have hbk := hx k hlt
      have hck : wr.cell? ⟨b, o + k, none⟩ = some (.int .i64 xs[k]) := by
        rw [← hbk]
        exact World.cell?_of_block (hon.block b (World.block_lt_of_cell? _ _ hbk) (.inl hbB))
      have hcnt := renList_big (xs.take k) s
      rw [List.length_take] at hcnt
      have hstep := renList_take s hlt
      have htk := term_cases (List.all_eq_true.1 hok _ (List.getElem_mem hlt))
      obtain ⟨ts, m, hs1⟩ : ∃ ts m, renList s (xs.take k) = (ts, m) := ⟨_, _, rfl⟩
      rw [hs1] at ht hcnt hstep ⊢
      have hm2 : m ≤ 4611686018427000000 := by simp only at hcnt; omega
      have HT2 := Lib.hid ht
      have HON := Lib.hid hon
      have HST := Lib.hid hstep
      clear hs1 hstep hcnt hx hbk h hok ht hon
      rcases htk with e | e | e | e | e
      · have hd : decide (xs[k] < 0) = false := by simp; omega
        have hnv : isVarB xs[k] = false := by simp [isVarB]; omega
        have HE := Lib.hid (show renList s (xs.take (k + 1)) = (ts, m) by rw [HST.out]; simp [renStep, hnv])
        clear e hnv
        go_wp2_with (fail)
        go_roundw
        case rel => exact ⟨k + 1, by omega, by go_num, by rw [HE.out], by rw [HE.out]; exact HT2.out, HON.out⟩
        case measure => simp [intOf]; omega
      · obtain ⟨c0, f0⟩ := HT2.out.cell (v := 0) (by omega)
        simp only at c0
        rw [e] at hck
        have hzz : ∃ z, z = ts.getD 0 0 := ⟨_, rfl⟩
        obtain ⟨z, hz⟩ := hzz
        rw [← hz] at c0
        by_cases h0 : z = 0
        · have hd : (z == 0) = true := by simp [h0]
          have HE := Lib.hid (show renList s (xs.take (k + 1)) = (ts.set 0 (-1 - (m : Int)), m + 1) by rw [HST.out]; exact renStep_yes (by omega) (by omega) (by rw [← hz, h0]))
          clear h0 hz e
          go_wp2_with (fail)
          go_roundw
          case rel => exact ⟨k + 1, by omega, by go_num, by rw [HE.out]; simp, by rw [HE.out]; exact HT2.out.store (by omega) _, HON.out.setCell (p := ⟨g, 0, none⟩) ⟨Nat.le_refl _, Nat.lt_succ_self _⟩ _⟩
          case measure => simp [intOf]; omega
        · have hd : (z == 0) = false := by simp [h0]
          have HE := Lib.hid (show renList s (xs.take (k + 1)) = (ts, m) by rw [HST.out]; exact renStep_skip (v := 0) (by omega) (by rw [← hz]; exact h0))
          clear h0 hz e
          go_wp2_with (fail)
          go_roundw
          case rel => exact ⟨k + 1, by omega, by go_num, by rw [HE.out], by rw [HE.out]; exact HT2.out, HON.out⟩
          case measure => simp [intOf]; omega
      · obtain ⟨c0, f0⟩ := HT2.out.cell (v := 1) (by omega)
        simp only at c0
        rw [e] at hck
        have hzz : ∃ z, z = ts.getD 1 0 := ⟨_, rfl⟩
        obtain ⟨z, hz⟩ := hzz
        rw [← hz] at c0
        by_cases h0 : z = 0
        · have hd : (z == 0) = true := by simp [h0]
          have HE := Lib.hid (show renList s (xs.take (k + 1)) = (ts.set 1 (-1 - (m : Int)), m + 1) by rw [HST.out]; exact renStep_yes (by omega) (by omega) (by rw [← hz, h0]))
          clear h0 hz e
          go_wp2_with (fail)
          go_roundw
          case rel => exact ⟨k + 1, by omega, by go_num, by rw [HE.out]; simp, by rw [HE.out]; exact HT2.out.store (by omega) _, HON.out.setCell (p := ⟨g, 1, none⟩) ⟨Nat.le_refl _, Nat.lt_succ_self _⟩ _⟩
          case measure => simp [intOf]; omega
        · have hd : (z == 0) = false := by simp [h0]
          have HE := Lib.hid (show renList s (xs.take (k + 1)) = (ts, m) by rw [HST.out]; exact renStep_skip (v := 1) (by omega) (by rw [← hz]; exact h0))
          clear h0 hz e
          go_wp2_with (fail)
          go_roundw
          case rel => exact ⟨k + 1, by omega, by go_num, by rw [HE.out], by rw [HE.out]; exact HT2.out, HON.out⟩
          case measure => simp [intOf]; omega
      · obtain ⟨c0, f0⟩ := HT2.out.cell (v := 2) (by omega)
        simp only at c0
        rw [e] at hck
        have hzz : ∃ z, z = ts.getD 2 0 := ⟨_, rfl⟩
        obtain ⟨z, hz⟩ := hzz
        rw [← hz] at c0
        by_cases h0 : z = 0
        · have hd : (z == 0) = true := by simp [h0]
          have HE := Lib.hid (show renList s (xs.take (k + 1)) = (ts.set 2 (-1 - (m : Int)), m + 1) by rw [HST.out]; exact renStep_yes (by omega) (by omega) (by rw [← hz, h0]))
          clear h0 hz e
          go_wp2_with (fail)
          go_roundw
          case rel => exact ⟨k + 1, by omega, by go_num, by rw [HE.out]; simp, by rw [HE.out]; exact HT2.out.store (by omega) _, HON.out.setCell (p := ⟨g, 2, none⟩) ⟨Nat.le_refl _, Nat.lt_succ_self _⟩ _⟩
          case measure => simp [intOf]; omega
        · have hd : (z == 0) = false := by simp [h0]
          have HE := Lib.hid (show renList s (xs.take (k + 1)) = (ts, m) by rw [HST.out]; exact renStep_skip (v := 2) (by omega) (by rw [← hz]; exact h0))
          clear h0 hz e
          go_wp2_with (fail)
          go_roundw
          case rel => exact ⟨k + 1, by omega, by go_num, by rw [HE.out], by rw [HE.out]; exact HT2.out, HON.out⟩
          case measure => simp [intOf]; omega
      · obtain ⟨c0, f0⟩ := HT2.out.cell (v := 3) (by omega)
        simp only at c0
        rw [e] at hck
        have hzz : ∃ z, z = ts.getD 3 0 := ⟨_, rfl⟩
        obtain ⟨z, hz⟩ := hzz
        rw [← hz] at c0
        by_cases h0 : z = 0
        · have hd : (z == 0) = true := by simp [h0]
          have HE := Lib.hid (show renList s (xs.take (k + 1)) = (ts.set 3 (-1 - (m : Int)), m + 1) by rw [HST.out]; exact renStep_yes (by omega) (by omega) (by rw [← hz, h0]))
          clear h0 hz e
          go_wp2_with (fail)
          go_roundw
          case rel => exact ⟨k + 1, by omega, by go_num, by rw [HE.out]; simp, by rw [HE.out]; exact HT2.out.store (by omega) _, HON.out.setCell (p := ⟨g, 3, none⟩) ⟨Nat.le_refl _, Nat.lt_succ_self _⟩ _⟩
          case measure => simp [intOf]; omega
        · have hd : (z == 0) = false := by simp [h0]
          have HE := Lib.hid (show renList s (xs.take (k + 1)) = (ts, m) by rw [HST.out]; exact renStep_skip (v := 3) (by omega) (by rw [← hz]; exact h0))
          clear h0 hz e
          go_wp2_with (fail)
          go_roundw
          case rel => exact ⟨k + 1, by omega, by go_num, by rw [HE.out], by rw [HE.out]; exact HT2.out, HON.out⟩
          case measure => simp [intOf]; omega
    · have hkn : k = xs.length := by omega
      have HF := Lib.hid (show renList s (xs.take k) = renList s xs by rw [hkn, List.take_length])
      clear hkn
      go_wp2_with (fail)
      go_ret
      exact ⟨ret_int (by rw [HF.out]), HF.out ▸ ht, hon⟩

/-- What holds at l2Atom's loop: k terms are renamed. -/
structure AtRel (w wr : World) (p : Int) (A : Option Addr) (n c : Nat) (ys : List Int) (A' : Option Addr) (c' : Nat) : Prop where
  below : Below w.heap.size w wr
  src : Blk wr w.heap.size 42 #[.int .i64 p, .slice A n c]
  res : Blk wr (w.heap.size + 1) 42 #[.int .i64 0, .slice none 0 0]
  out : Blk wr (w.heap.size + 2) 42 #[.int .i64 p, .slice A' ys.length c']
  own : wr.ownsRow (w.heap.size + 3) 3 1 (.slice A' ys.length c') ys.length (ys.map (Value.int .i64))
theorem blk_ne_own {w : World} {base n size g : Nat} {e t : TypeId} {v : Value} {xs : List Value} {cs : Array Value} (h : w.ownsRow base e size v n xs) (hb : Blk w g t cs) (hne : e ≠ t) : v.ownBlock ≠ some g := by
  rcases h.2 with ⟨rfl, _⟩ | ⟨g', cap, cur, rfl, _, hh, _⟩
  · simp [Value.ownBlock]
  · intro he
    have : g' = g := by simpa [Value.ownBlock] using he
    subst this
    unfold Blk at hb
    rw [hh] at hb
    injection hb with hb
    injection hb with _ hb
    exact hne hb
theorem AtRel.start (w : World) (p : Int) (A : Option Addr) (n c : Nat) : AtRel w (((w.alloc (Obj.cells #[Value.int IntKind.i64 p, Value.slice A n c] 42)).alloc (Obj.cells #[Value.int IntKind.i64 0, Value.slice none 0 0] 42)).alloc (Obj.cells #[Value.int IntKind.i64 p, Value.slice none 0 0] 42)) p A n c [] none 0 :=
  ⟨below3 _ _ _ _, ((Blk.new w _ _).alloc _).alloc _, by simpa using (Blk.new (w.alloc (Obj.cells #[Value.int IntKind.i64 p, Value.slice A n c] 42)) 42 #[.int .i64 0, .slice none 0 0]).alloc (Obj.cells #[Value.int IntKind.i64 p, Value.slice none 0 0] 42),
    by simpa using Blk.new ((w.alloc (Obj.cells #[Value.int IntKind.i64 p, Value.slice A n c] 42)).alloc (Obj.cells #[Value.int IntKind.i64 0, Value.slice none 0 0] 42)) 42 #[.int .i64 p, .slice none 0 0],
    by simpa using World.ownsRow_nil _ _ _ _⟩
theorem AtRel.step {w wr w2 : World} {p : Int} {A A' : Option Addr} {n c c' g cap : Nat} {ys : List Int} {y : Int} {o : Obj} (hr : AtRel w wr p A n c ys A' c') (hg : (wr.alloc o).grownBy w2 (Value.slice A' ys.length c').ownBlock)
    (hown : w2.ownsRow (w.heap.size + 3) 3 1 (.slice (some ⟨g, 0, none⟩) (ys.length + 1) cap) (ys.length + 1) (ys.map (Value.int .i64) ++ [.int .i64 y])) :
    AtRel w (w2.setCell ⟨w.heap.size + 2, 1, none⟩ (.slice (some ⟨g, 0, none⟩) (ys.length + 1) cap)) p A n c (ys ++ [y]) (some ⟨g, 0, none⟩) cap := by
  obtain ⟨h1, h2, h3, h4, h5⟩ := hr
  have hg' := grown_from_alloc hg
  have keep : ∀ {b : Nat} {cs : Array Value}, Blk wr b 42 cs → Blk w2 b 42 cs := fun hb => (hg'.block _ hb.lt (fun e => blk_ne_own h5 hb (by decide) e.symm)).trans hb
  have hl : (ys ++ [y]).length = ys.length + 1 := by simp
  have hs := h4.lt
  refine ⟨(h1.grown hg' h1.size (fun b hb => by have := (h5.lt b hb).1; omega)).setCell (by show w.heap.size ≤ w.heap.size + 2; omega) _, (keep h2).far (by show w.heap.size ≠ w.heap.size + 2; omega) _, (keep h3).far (by show w.heap.size + 1 ≠ w.heap.size + 2; omega) _, ?_, ?_⟩
  · rw [hl]
    exact (keep h4).set_ 1 _
  · rw [hl, List.map_append]
    exact ownsRow_only hown (fun b hb => Below.heap_setCell _ _ _ _ (fun e => blk_ne_own hown (keep h4) (by decide) (by rw [hb, e])))

set_option maxHeartbeats 2000000 in
set_option maxRecDepth 100000 in
theorem l2Atom_any (s : Ren) (g : Nat) (p : Int) (va : Value) (xs : List Int) (w : World) (hT : ToAt w g s) (h : RdInts w w.heap.size va xs) (hn : xs.length ≤ 1048576) (hok : xs.all termOk = true) :
    Calls Try.prog 101 #[.agg #[.int .i64 p, va], .slice (some ⟨g, 0, none⟩) 4 4] w fun e w' => ∃ A' c', e = .returned (.agg #[.int .i64 p, .slice A' xs.length c']) ∧
      OwnInts w' w.heap.size w'.heap.size (.slice A' xs.length c') (xs.map (look s)) ∧ Below w.heap.size w w' := by
  obtain ⟨i0, hi0, hz0, hz1, hz2⟩ := info_parts Try.infoInt
  have HT := Lib.hid hT
  have hgw := hT.lt
  clear hT
  obtain ⟨A, c, rfl, hc, h⟩ := h
  go_enter Try.func101, Try.ntmps101
  go_wp2_with (fail)
  go_loopw [6, 7] (fun i _ wr => ∃ (k : Nat) (A' : Option Addr) (c' : Nat), k ≤ xs.length ∧ i = .int .i64 k ∧ AtRel w wr p A xs.length c ((xs.take k).map (look s)) A' c') (fun i _ _ => xs.length - (intOf i).toNat)
  case atStart => exact ⟨0, none, 0, Nat.zero_le _, rfl, AtRel.start w p A xs.length c⟩
  case round =>
    obtain ⟨k, A', c', hk, rfl, hr⟩ := hrel
    have q0 : wr.cell? ⟨w.heap.size, 1, none⟩ = some (.slice A xs.length c) := hr.src.cell 1
    have hyl : ((xs.take k).map (look s)).length = k := by simp; omega
    by_cases hlt : k < xs.length
    · obtain ⟨b, o, rfl, hbB, hx⟩ := h (by omega)
      have q1 : wr.cell? ⟨w.heap.size + 2, 1, none⟩ = some (.slice A' k c') := by have := hr.out.cell 1; rw [hyl] at this; exact this
      have hck : wr.cell? ⟨b, o + k, none⟩ = some (.int .i64 xs[k]) := (hr.below.cell (p := ⟨b, o + k, none⟩) hbB).trans (hx k hlt)
      have htk := term_cases (List.all_eq_true.1 hok _ (List.getElem_mem hlt))
      have hT2 := HT.out.below hr.below hgw
      have hbs := hr.out.lt
      have hf1 := hr.out.frozen 1
      have HR := Lib.hid hr
      clear hr
      have HNX := Lib.hid (show (xs.take k).map (look s) ++ [look s xs[k]] = (xs.take (k + 1)).map (look s) by rw [take_snoc xs k hlt, List.map_append]; rfl)
      generalize (xs.take k).map (look s) = ys at HR HNX hyl
      have HYL := Lib.hid hyl
      clear hx h hyl hok
      go_upto_region 6 with fail
      go_cut [31] (fun v wx => v = .bool (isVarB xs[k]) ∧ wx = wr)
      case first =>
        rcases htk with e | e | e | e | e
        · have hd : decide (xs[k] < 0) = false := by simp; omega
          have HY := Lib.hid (show isVarB xs[k] = false by simp [isVarB]; omega)
          clear e
          go_wp2_with (fail)
          go_meet
          exact ⟨by rw [HY.out], rfl⟩
        · have hd : decide (xs[k] < 0) = true := by simp; omega
          have hi : -1 - xs[k] = (0 : Int) := by omega
          have HY := Lib.hid (show isVarB xs[k] = true by simp [isVarB]; omega)
          clear e
          go_wp2_with (fail)
          go_meet
          exact ⟨by rw [HY.out], rfl⟩
        · have hd : decide (xs[k] < 0) = true := by simp; omega
          have hi : -1 - xs[k] = (1 : Int) := by omega
          have HY := Lib.hid (show isVarB xs[k] = true by simp [isVarB]; omega)
          clear e
          go_wp2_with (fail)
          go_meet
          exact ⟨by rw [HY.out], rfl⟩
        · have hd : decide (xs[k] < 0) = true := by simp; omega
          have hi : -1 - xs[k] = (2 : Int) := by omega
          have HY := Lib.hid (show isVarB xs[k] = true by simp [isVarB]; omega)
          clear e
          go_wp2_with (fail)
          go_meet
          exact ⟨by rw [HY.out], rfl⟩
        · have hd : decide (xs[k] < 0) = true := by simp; omega
          have hi : -1 - xs[k] = (3 : Int) := by omega
          have HY := Lib.hid (show isVarB xs[k] = true by simp [isVarB]; omega)
          clear e
          go_wp2_with (fail)
          go_meet
          exact ⟨by rw [HY.out], rfl⟩
      case rest =>
      obtain ⟨rfl, rfl⟩ := hcut
      go_step
      go_cut [7] (fun v wx => v = .int .i64 (look s xs[k]) ∧ wx = wc)
      case first =>
        rcases htk with e | e | e | e | e
        · have HB : isVarB xs[k] = false := by simp [isVarB]; omega
          have HY := Lib.hid (show xs[k] = look s xs[k] by unfold look; rw [if_neg (by rw [HB]; decide)])
          rw [HB]
          clear e HB
          go_wp2_with (fail)
          go_meet
          exact ⟨by rw [← HY.out], rfl⟩
        · obtain ⟨c0, _⟩ := hT2.cell (v := 0) (by omega)
          have HY := Lib.hid (show s.1.getD 0 0 = look s xs[k] by rw [e]; rfl)
          have HB : isVarB xs[k] = true := by simp [isVarB]; omega
          have hi : -1 - xs[k] = (0 : Int) := by omega
          rw [HB]
          generalize s.1.getD 0 0 = z at c0 HY
          clear e HB hT2
          go_wp2_with (fail)
          go_meet
          exact ⟨by rw [HY.out], rfl⟩
        · obtain ⟨c0, _⟩ := hT2.cell (v := 1) (by omega)
          have HY := Lib.hid (show s.1.getD 1 0 = look s xs[k] by rw [e]; rfl)
          have HB : isVarB xs[k] = true := by simp [isVarB]; omega
          have hi : -1 - xs[k] = (1 : Int) := by omega
          rw [HB]
          generalize s.1.getD 1 0 = z at c0 HY
          clear e HB hT2
          go_wp2_with (fail)
          go_meet
          exact ⟨by rw [HY.out], rfl⟩
        · obtain ⟨c0, _⟩ := hT2.cell (v := 2) (by omega)
          have HY := Lib.hid (show s.1.getD 2 0 = look s xs[k] by rw [e]; rfl)
          have HB : isVarB xs[k] = true := by simp [isVarB]; omega
          have hi : -1 - xs[k] = (2 : Int) := by omega
          rw [HB]
          generalize s.1.getD 2 0 = z at c0 HY
          clear e HB hT2
          go_wp2_with (fail)
          go_meet
          exact ⟨by rw [HY.out], rfl⟩
        · obtain ⟨c0, _⟩ := hT2.cell (v := 3) (by omega)
          have HY := Lib.hid (show s.1.getD 3 0 = look s xs[k] by rw [e]; rfl)
          have HB : isVarB xs[k] = true := by simp [isVarB]; omega
          have hi : -1 - xs[k] = (3 : Int) := by omega
          rw [HB]
          generalize s.1.getD 3 0 = z at c0 HY
          clear e HB hT2
          go_wp2_with (fail)
          go_meet
          exact ⟨by rw [HY.out], rfl⟩
      case rest =>
        obtain ⟨rfl, rfl⟩ := hcut
        generalize hy : look s xs[k] = y at HNX
        clear hck htk hy hT2
        have hko : k + 1 ≤ 1048577 := by omega
        go_wp2_with (at_builtin; refine wpList_append_lies _ rfl (.tmp 38) (.tmp 40) 23 rfl (w.heap.size + 3) 3 i0 (.int .i64 0) 1 8 Try.underlying23 hi0 hz0 hz1 hz2 rfl (by decide) (.slice A' k c') k (ys.map (Value.int .i64)) rfl ?c1 ⟨_, 0, none⟩ 1 1 [.int .i64 y] rfl rfl (news1s _ _ _ _ (by simp)) ?c2 (by omega) (by unfold maxLen; omega) (by omega) ?c3 _ rfl ?_)
        case c1 => have := HR.out.own; rw [HYL.out] at this; exact this.alloc _
        case c2 => intro u hu; simp at hu; subst hu; rfl
        case c3 => simp; omega
        intro g2 cap w4 hown hg _ _
        have hown' : w4.ownsRow (w.heap.size + 3) 3 1 (.slice (some ⟨g2, 0, none⟩) (ys.length + 1) cap) (ys.length + 1) (ys.map (Value.int .i64) ++ [.int .i64 y]) := by rw [HYL.out]; exact hown
        have hg' : (wc.alloc (Obj.cells #[Value.int IntKind.i64 y] 3)).grownBy w4 (Value.slice A' ys.length c').ownBlock := by rw [HYL.out]; exact hg
        have hst := HR.out.step hg' hown'
        rw [HNX.out, HYL.out] at hst
        have hgg := grown_from_alloc hg
        have hne : (Value.slice A' k c').ownBlock ≠ some (w.heap.size + 2) := by have := HR.out.own; rw [HYL.out] at this; exact blk_ne_own this HR.out.out (by decide)
        have e1 : w4.cell? ⟨w.heap.size + 2, 1, none⟩ = some (.slice A' k c') := hgg.cell q1 (fun e => hne e.symm)
        have e2 : w4.frozen? ⟨w.heap.size + 2, 1, none⟩ = false := (hgg.frozen_far _ hbs (fun e => hne e.symm)).trans hf1
        have HS := Lib.hid hst
        clear hst hgg hown hown' hg hg' q0 q1 hf1
        go_wp2_with (fail)
        go_roundw
        case rel => exact ⟨k + 1, _, _, by omega, by go_num, HS.out⟩
        case measure => simp [intOf]; omega
    · have hkn : k = xs.length := by omega
      rw [hkn, List.take_length] at hr
      have hyl2 : (xs.map (look s)).length = xs.length := by simp
      have c0 : wr.cell? ⟨w.heap.size + 2, 0, none⟩ = some (.int .i64 p) := hr.out.cell 0
      have c1 : wr.cell? ⟨w.heap.size + 2, 1, none⟩ = some (.slice A' xs.length c') := by have := hr.out.cell 1; rw [hyl2] at this; exact this
      have d0 : wr.cell? ⟨w.heap.size + 1, 0, none⟩ = some (.int .i64 0) := hr.res.cell 0
      have d1 : wr.cell? ⟨w.heap.size + 1, 1, none⟩ = some (.slice none 0 0) := hr.res.cell 1
      have f0 := hr.res.frozen 0
      have f1 := hr.res.frozen 1
      have HO : OwnInts wr (w.heap.size + 3) wr.heap.size (.slice A' xs.length c') (xs.map (look s)) := ⟨by have := hr.own; rw [hyl2] at this; rw [hyl2]; exact this, fun b hb => by have := hr.own; rw [hyl2] at this; exact (this.lt b hb).2⟩
      have hbe := hr.below
      clear hr h hok hyl hyl2 hkn
      go_wp2_with (fail)
      refine bodyPost_ret (v := .agg #[.int .i64 p, .slice A' xs.length c']) (by simp [results, Try.results101, go_sem, d0, d1]) rfl ⟨_, _, rfl, ?_, ?_⟩
      · exact ((HO.set (.inl (by show w.heap.size + 1 < w.heap.size + 3; omega)) _).set (.inl (by show w.heap.size + 1 < w.heap.size + 3; omega)) _).mono (by omega) (by simp)
      · exact (hbe.setCell (by show w.heap.size ≤ w.heap.size + 1; omega) _).setCell (by show w.heap.size ≤ w.heap.size + 1; omega) _

end Go.Proofs.Ytgacdehbdhhbnaa
