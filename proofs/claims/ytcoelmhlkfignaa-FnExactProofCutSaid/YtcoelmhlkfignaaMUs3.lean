/-
  The law FnExactProofUses: for every input the call returns true, and each argument reads behind it as it read before. Conditions: none but the row's own.
-/
import Derived.Shelf.SlSortCmp.NoneTotal
import Derived.StillTailTactics
import Derived.Test.YtcoelmhlkfignaaChecked
import Derived.ProofKit
import Derived.OpenShut
import Derived.ChangeOld
import Derived.WalkKit
import Derived.Deep.Slices
import Derived.Deep.Fields
import Derived.ChangeSame
import Derived.Lib.SmallJoins
import Derived.KernelRfl
import Derived.Deep.RegionHeld3
import Derived.Deep.DeepCutAuto
import Derived.Deep.RegionWith
import Derived.Test.YtcoelmhlkfignaaRows
import Derived.Test.YtcoelmhlkfignaaMUs1
import Derived.Test.YtcoelmhlkfignaaMUs2
/-
  copyFacts.
-/
namespace Go.Proofs.Ytcoelmhlkfignaa
open Go.RowKit

set_option maxHeartbeats 400000 in
set_option maxRecDepth 100000 in
theorem copyFacts_any (v : Value) (fs : List LFact) (w : World) (h : RdFacts w w.heap.size v fs) (hl : fs.length ≤ 4194304) (hn : tot fs ≤ 1048576) :
    Calls Try.prog 26 #[v] w fun e w' => ∃ A' c', e = .returned (.slice A' fs.length c') ∧ OwnFacts w' w.heap.size w'.heap.size (.slice A' fs.length c') fs ∧ Below w.heap.size w w' := by
  obtain ⟨i0, hi0, hz0, hz1, hz2⟩ := info_parts Try.infoFact
  have hmk := fun W => run_make_rowN (P := Try.prog) 29 44 i0 (.agg #[.int .i64 0, .slice none 0 0]) Try.underlying29 hi0 hz0 .i64 .i64 fs.length fs.length (Nat.le_refl _) (by rw [hz2]; omega) (by omega) W
  rw [hz1] at hmk
  simp only [Value.cells] at hmk
  have H := Lib.hid h
  obtain ⟨A, c, rfl, hc, _⟩ := h
  go_enter Try.func26, Try.ntmps26
  go_wp2_with (fail)
  go_loopw [4, 5, 11] (fun _ _ i wr => ∃ (k : Nat) (av : List Value), k ≤ fs.length ∧ i = .int .i64 k ∧ ToRel w wr fs k av) (fun _ _ i _ => fs.length - (intOf i).toNat)
  case atStart => exact ⟨0, [], Nat.zero_le _, rfl, ToRel.start w fs⟩
  case round =>
    obtain ⟨k, av, hk, rfl, hr⟩ := hrel
    by_cases hlt : k < fs.length
    · obtain ⟨b, o, A3, c3, rfl, hbB, k1, k2, k3⟩ := (H.out.on hr.below).get hlt
      have K3 := Lib.hid (show RdFact wr wr.heap.size (.agg #[.int .i64 fs[k].1, .slice A3 fs[k].2.length c3]) fs[k] from ⟨_, rfl, k3⟩)
      have hln := len_le_tot fs k hlt
      clear k3
      go_wp2_with (fail)
      refine (copyFact_any _ fs[k] _ (K3.out.on (below1 _ _)) (by omega)).mono ?_
      rintro e w4 ⟨A4, c4, rfl, ho4, hb4⟩
      have hb5 := bthen (below1 _ _) hb4
      have ho5 : OwnInts w4 wr.heap.size w4.heap.size _ _ := ho4.mono (by simp) (Nat.le_refl _)
      obtain ⟨r1, r2, r3, r4⟩ := hr.room hlt hb5
      have hstep := hr.step hlt hb5 ho5
      clear ho4 ho5 hb4
      go_wp2_with (fail)
      go_roundw
      case rel => exact ⟨k + 1, _, by omega, by go_num, hstep⟩
      case measure => simp [intOf]; omega
    · have hkn : k = fs.length := by omega
      have HO := Lib.hid (show OwnFacts wr w.heap.size wr.heap.size (.slice (some ⟨w.heap.size, 0, none⟩) fs.length fs.length) fs from ToRel.done (by rw [← hkn]; exact hr) (by unfold maxLen; omega))
      have hbe := hr.below
      clear hkn hr
      go_wp2_with (fail)
      go_ret
      exact ⟨_, _, rfl, HO.out, hbe⟩

end Go.Proofs.Ytcoelmhlkfignaa
/-
  factSet: cloned, sorted, compacted: the facts laid one after another. The program's FactsEither.
-/
namespace Go.Proofs.Ytcoelmhlkfignaa
open Go.RowKit Go.Sort

theorem compactNil_any (w : World) :
    Calls Try.prog 47 #[.slice none 0 0, .func (.func 48) #[] #[]] w fun e w' => e = .returned (.slice none 0 0) ∧ w = w' := by
  go_enter Try.func47, Try.ntmps47
  go_wp2_with (fail)
  go_ret
  exact ⟨rfl, rfl⟩

theorem len_tot {fs : List LFact} {n : Nat} (h : tot fs ≤ n) : ∀ k (hk : k < fs.length), fs[k].2.length ≤ n := fun k hk => Nat.le_trans (len_le_tot fs k hk) h

set_option maxHeartbeats 1000000 in
set_option maxRecDepth 100000 in
theorem factSet_any (v : Value) (fs : List LFact) (w : World) (h : RdFacts w w.heap.size v fs) (hn : fs.length ≤ 2097152) (ht : tot fs ≤ 1048576) :
    Calls Try.prog 27 #[v] w fun e w' => ∃ A' c', e = .returned (.slice A' (setOf fs).length c') ∧ RdFacts w' w'.heap.size (.slice A' (setOf fs).length c') (setOf fs) ∧ Below w.heap.size w w' := by
  obtain ⟨A, c, av, rfl, ha, hc⟩ := h.heads
  have HA := Lib.hid (And.intro ha hc)
  clear h ha hc
  go_enter Try.func27, Try.ntmps27
  go_wp2_with (fail)
  refine (clone_av A c fs av w HA.out.1 HA.out.2 (by omega)).mono ?_
  rintro e w1 ⟨A1, c1, rfl, hrow, hb1⟩
  rcases hrow.row.2 with ⟨e1, h0⟩ | ⟨g, cap, cur, e1, hbg, hgg, r1, r2, r3, r4⟩
  · injection e1 with e1 _ e3
    subst e1
    subst e3
    have hfs : fs = [] := List.eq_nil_of_length_eq_zero h0
    subst hfs
    have HS := Lib.hid (show setOf [] = [] from rfl)
    have hs := AnyF.slices_SortFunc_none Try.sortFact none 0 (.func (.func 46) #[] #[]) w1
    clear hrow h0
    go_wp2_with (fail)
    refine Calls.mono hs ?_
    rintro e w2 ⟨rfl, rfl⟩
    go_wp2_with (fail)
    refine (compactNil_any _).mono ?_
    rintro e w2 ⟨rfl, rfl⟩
    go_wp2_with (fail)
    go_ret
    rw [HS.out]
    exact ⟨none, 0, rfl, ⟨none, 0, rfl, by simp, fun h => absurd h (by simp)⟩, hb1⟩
  · injection e1 with e1 _ e3
    subst e1
    subst e3
    have hat : AtRow w1 g c1 fs av := ⟨cur, hgg, r1, r2, r3, r4⟩
    have hrd : RdArgs w1 g av fs := ((HA.out.1.below hb1 (Nat.le_refl _)).more hbg)
    have hlen := len_tot ht
    have hs := sortF_any g c1 fs av w1 hat hrd (by omega) hlen
    clear hrow hat hgg r1 r2 r3 r4
    go_wp2_with (fail)
    refine hs.mono ?_
    rintro e w2 ⟨rfl, fs', av', hp, hup, hat2, hrd2, ho2⟩
    have hl2 : ∀ k (hk : k < fs'.length), fs'[k].2.length ≤ 1048576 := fun k hk => by
      obtain ⟨q, hq, e⟩ := List.getElem_of_mem (hp.mem_iff.1 (List.getElem_mem hk))
      rw [← e]
      exact hlen q hq
    have hk := compactF_any g c1 fs' av' w2 hat2 hrd2 (by rw [hp.length_eq]; omega) hl2
    have HC := Lib.hid (show compactL fs' = setOf fs from compact_setOf hup fun x => hp.mem_iff)
    rw [show fs.length = fs'.length from hp.length_eq.symm]
    have HB2 := Lib.hid (show Below w.heap.size w w2 from Only.then_ hb1 ho2 hbg)
    have hg1 := hat2.lt
    clear hs hp hup hat2 hrd2 hl2 hlen hrd
    go_wp2_with (fail)
    refine hk.mono ?_
    rw [HC.out]
    rintro e w3 ⟨av3, rfl, hat3, hrd3, ho3⟩
    have HR := Lib.hid (show RdFacts w3 w3.heap.size (.slice (some ⟨g, 0, none⟩) (setOf fs).length c1) (setOf fs) from
      (RowF.facts (base := 0) ⟨hat3.row hrd3.1 (Nat.zero_le _), hrd3.more (Nat.le_of_lt hat3.lt)⟩))
    have HB3 := Lib.hid (show Below w.heap.size w w3 from Only.then_ HB2.out ho3 hbg)
    clear hk hat3 hrd3 ho3 ho2
    go_wp2_with (fail)
    go_ret
    exact ⟨_, c1, rfl, HR.out, HB3.out⟩

end Go.Proofs.Ytcoelmhlkfignaa
/-
  ProofUses: the walk of the program's.
-/
namespace Go.Proofs.Ytcoelmhlkfignaa
open Go.RowKit

/-- Facts whose headers lie in blocks ahead of the call are collected. -/
structure ShF (w wr : World) (A : Option Addr) (c : Nat) (fs : List LFact) (av : List Value) : Prop where
  row : wr.ownsRow w.heap.size 44 2 (.slice A fs.length c) fs.length (flat fs av)
  rd : RdArgs w w.heap.size av fs
  below : Below w.heap.size w wr
theorem ShF.rowF {w wr : World} {A : Option Addr} {c : Nat} {fs : List LFact} {av : List Value} (h : ShF w wr A c fs av) : RowF wr w.heap.size A c fs av := ⟨h.row, h.rd.on h.below⟩
theorem ShF.on {w wr w2 : World} {A : Option Addr} {c : Nat} {fs : List LFact} {av : List Value} (h : ShF w wr A c fs av) (hb : Below wr.heap.size wr w2) : ShF w w2 A c fs av :=
  ⟨ownsRow_below h.row (fun g hg => (h.row.lt g hg).2) hb (Nat.le_refl _), h.rd, bthen h.below hb⟩
theorem ShF.push {w wr w2 w4 : World} {A : Option Addr} {c g cap : Nat} {fs : List LFact} {av : List Value} {f : LFact} {a : Value} {o : Obj} (h : ShF w wr A c fs av) (hb : Below wr.heap.size wr w2) (ha : RdInts w w.heap.size a f.2)
    (hg : (w2.alloc o).grownBy w4 (Value.slice A fs.length c).ownBlock) (hown : w4.ownsRow w.heap.size 44 2 (.slice (some ⟨g, 0, none⟩) (fs.length + 1) cap) (fs.length + 1) (flat fs av ++ [.int .i64 f.1, a])) :
    ShF w w4 (some ⟨g, 0, none⟩) cap (fs ++ [f]) (av ++ [a]) := by
  have h2 := h.on hb
  refine ⟨?_, h.rd.append ⟨rfl, fun k h1 h' hk => ?_⟩, (h2.below.alloc h2.below.size _).grown hg (by have := h2.below.size; simp; omega) (fun k hk => (h2.row.lt k hk).1)⟩
  · rw [flat_snoc _ _ h.rd.1, List.length_append, List.length_singleton]
    exact hown
  · have : k = 0 := by simp at hk; omega
    subst this
    exact ha

set_option maxHeartbeats 1000000 in
set_option maxRecDepth 100000 in
theorem implProofUses_any (v : Value) (ss : List LStep) (w : World) (h : RdSteps w w.heap.size v ss) (hl : ss.length ≤ 1048576) (ht : totS ss ≤ 1048576) :
    Calls Try.prog 12 #[v] w fun e w' => ∃ A' c', e = .returned (.slice A' (usesL ss).length c') ∧ OwnFacts w' w.heap.size w'.heap.size (.slice A' (usesL ss).length c') (usesL ss) ∧ Below w.heap.size w w' := by
  obtain ⟨i0, hi0, hz0, hz1, hz2⟩ := info_parts Try.infoFact
  have H := Lib.hid h
  obtain ⟨A, c, rfl, hc, _⟩ := h
  go_enter Try.func12, Try.ntmps12
  go_wp2_with (fail)
  go_loopw [3, 8] (fun o i wr => ∃ (k : Nat) (A' : Option Addr) (c' : Nat) (av : List Value), k ≤ ss.length ∧ i = .int .i64 k ∧ o = .slice A' (givenL (ss.take k)).length c' ∧ ShF w wr A' c' (givenL (ss.take k)) av) (fun _ i _ => ss.length - (intOf i).toNat)
  case atStart => exact ⟨0, none, 0, [], Nat.zero_le _, rfl, rfl, World.ownsRow_nil _ _ _ _, RdArgs.nil _ _, Below.refl _ _⟩
  case round =>
    obtain ⟨k, A', c', av, hk, rfl, rfl, ho⟩ := hrel
    by_cases hlt : k < ss.length
    · obtain ⟨b, o, A1, c1, A2, c2, A3, c3, rfl, hbB, ⟨k0, k1, k2, k3, k4⟩, r1, r2, r3⟩ := H.out.get hlt
      have k0 := (ho.below.cell (p := ⟨b, o + k * 5, none⟩) hbB).trans k0
      have k1 := (ho.below.cell (p := ⟨b, o + k * 5 + 1, none⟩) hbB).trans k1
      have k2 := (ho.below.cell (p := ⟨b, o + k * 5 + 2, none⟩) hbB).trans k2
      have k3 := (ho.below.cell (p := ⟨b, o + k * 5 + 3, none⟩) hbB).trans k3
      have k4 := (ho.below.cell (p := ⟨b, o + k * 5 + 4, none⟩) hbB).trans k4
      have hbd := givenL_take ss k
      have HR := Lib.hid r1
      have HO := Lib.hid ho
      clear r1 r2 r3 ho
      by_cases he : ss[k].2.1 = -1
      · have heb : (ss[k].2.1 == -1) = true := by simp [he]
        have HS := Lib.hid (givenL_yes hlt he)
        obtain ⟨R, hR⟩ : ∃ R, R = givenL (ss.take k) := ⟨_, rfl⟩
        rw [← hR] at HS HO hbd ⊢
        obtain ⟨w2, hw2⟩ : ∃ w2, w2 = wr.alloc (Obj.cells #[Value.int IntKind.i64 ss[k].1.1, Value.slice A1 ss[k].1.2.length c1, Value.int IntKind.i64 ss[k].2.1, Value.slice A2 ss[k].2.2.1.length c2, Value.slice A3 ss[k].2.2.2.length c3] 46) := ⟨_, rfl⟩
        have B2 : Below wr.heap.size wr w2 := by rw [hw2]; exact below1 _ _
        clear he hR
        go_wp2_with (at_builtin; refine wpList_append_lies _ rfl (.tmp 15) (.tmp 18) 29 rfl w.heap.size 44 i0 (.agg #[.int .i64 0, .slice none 0 0]) 2 32 Try.underlying29 hi0 hz0 hz1 hz2 rfl (by decide) (.slice A' R.length c') R.length (flat R av) rfl ?c1 ⟨_, 0, none⟩ 1 1 [.int .i64 ss[k].1.1, .slice A1 ss[k].1.2.length c1] rfl rfl ?c4 ?c2 (by omega) (by unfold maxLen; omega) (by omega) ?c3 _ rfl ?_)
        case c1 => exact ((HO.out.on (below1 _ _)).on (below1 _ _)).row
        case c4 =>
          have := news2 w2 (.int .i64 ss[k].1.1) (.slice A1 ss[k].1.2.length c1) 44
          rw [hw2] at this
          simpa using this
        case c2 => intro u hu; simp at hu; rcases hu with rfl | rfl <;> rfl
        case c3 => have := HO.out.below.size; simp; omega
        intro g cap w4 hown hg _ _
        rw [← hw2] at hg
        have hcol := HO.out.push B2 HR.out hg hown
        have hlen : R.length + 1 = (givenL (ss.take (k + 1))).length := by rw [HS.out]; simp
        rw [← HS.out] at hcol
        rw [hlen]
        have HC := Lib.hid hcol
        clear hcol hlen hown hg hw2
        go_wp2_with (fail)
        go_roundw
        case rel => exact ⟨k + 1, _, _, _, by omega, by go_num, rfl, HC.out⟩
        case measure => simp [intOf]; omega
      · have heb : (ss[k].2.1 == -1) = false := by simp [he]
        have HS := Lib.hid (givenL_no hlt he)
        clear he
        go_wp2_with (fail)
        go_roundw
        case rel => exact ⟨k + 1, _, _, _, by omega, by go_num, by rw [HS.out], by rw [HS.out]; exact HO.out.on (below1 _ _)⟩
        case measure => simp [intOf]; omega
    · have hkn : k = ss.length := by omega
      have e : ss.take k = ss := by rw [hkn, List.take_length]
      rw [e] at ho ⊢
      have hbd := givenL_bound ss
      have HRD := Lib.hid ho.rowF.facts
      have HB := Lib.hid ho.below
      have hsb := setOf_bound (givenL ss)
      have HU := Lib.hid (show setOf (givenL ss) = usesL ss from rfl)
      clear hkn ho e
      go_wp2_with (fail)
      refine (factSet_any _ (givenL ss) _ HRD.out (by omega) (by omega)).mono ?_
      rintro e w2 ⟨A4, c4, rfl, ho4, hb4⟩
      have HO4 := Lib.hid ho4
      rw [HU.out] at HO4 hsb ⊢
      have hz := hb4.size
      clear ho4
      go_wp2_with (fail)
      refine (copyFacts_any _ (usesL ss) _ HO4.out (by omega) (by omega)).mono ?_
      rintro e w3 ⟨A5, c5, rfl, ho5, hb5⟩
      have HN := Lib.hid (And.intro (ho5.mono (Nat.le_trans HB.out.size hz) (Nat.le_refl _)) (bthen (bthen HB.out hb4) hb5))
      clear ho5 hb5
      go_wp2_with (fail)
      go_ret
      exact ⟨_, _, rfl, HN.out.1, HN.out.2⟩

end Go.Proofs.Ytcoelmhlkfignaa
/-
  Rows of steps that are filled, marked, grown: the words. No walk.
-/
namespace Go.Proofs.Ytcoelmhlkfignaa
open Go.RowKit

/-- What holds at toStepS's loop: k steps are copied. -/
structure To5 (w wr : World) (ss : List LStep) (k : Nat) (av : List Value) : Prop where
  own : OwnArgs wr (w.heap.size + 1) wr.heap.size av (leaves (ss.take k))
  row : ∃ cur : Array Value, Blk wr w.heap.size 46 cur ∧ cur.toList = flat5 (heads (ss.take k)) av ++ zero5 (ss.length - k)
  below : Below w.heap.size w wr
  size : w.heap.size + 1 ≤ wr.heap.size

theorem To5.start (w : World) (ss : List LStep) : To5 w (w.alloc (.cells (madeCells #[.int .i64 0, .slice none 0 0, .int .i64 0, .slice none 0 0, .slice none 0 0] (ss.length * 5)) 46)) ss 0 [] :=
  ⟨by simpa [leaves] using OwnArgs.nil, ⟨_, Blk.new _ _ _, by simp [madeCells_steps, flat5, heads]⟩, below1 _ _, by simp⟩

theorem To5.hl {w wr : World} {ss : List LStep} {k : Nat} {av : List Value} (hr : To5 w wr ss k av) (hlt : k ≤ ss.length) : av.length = (heads (ss.take k)).length * 3 ∧ (flat5 (heads (ss.take k)) av).length = k * 5 := by
  have h1 : av.length = (heads (ss.take k)).length * 3 := by rw [hr.own.len, leaves_length, heads_length]
  refine ⟨h1, ?_⟩
  rw [flat5_length _ _ h1, heads_length]
  simp
  omega
/-- The cells that the next step will take. -/
theorem To5.room {w wr : World} {ss : List LStep} {k : Nat} {av : List Value} (hr : To5 w wr ss k av) (hlt : k < ss.length) {w4 : World} (hb : Below wr.heap.size wr w4) :
    (w4.cell? ⟨w.heap.size, k * 5, none⟩ = some (.int .i64 0) ∧ w4.cell? ⟨w.heap.size, k * 5 + 1, none⟩ = some (.slice none 0 0) ∧ w4.cell? ⟨w.heap.size, k * 5 + 2, none⟩ = some (.int .i64 0) ∧ w4.cell? ⟨w.heap.size, k * 5 + 3, none⟩ = some (.slice none 0 0) ∧ w4.cell? ⟨w.heap.size, k * 5 + 4, none⟩ = some (.slice none 0 0)) ∧
    w4.frozen? ⟨w.heap.size, k * 5, none⟩ = false ∧ w4.frozen? ⟨w.heap.size, k * 5 + 1, none⟩ = false ∧ w4.frozen? ⟨w.heap.size, k * 5 + 2, none⟩ = false ∧ w4.frozen? ⟨w.heap.size, k * 5 + 3, none⟩ = false ∧ w4.frozen? ⟨w.heap.size, k * 5 + 4, none⟩ = false := by
  obtain ⟨_, hl⟩ := hr.hl (Nat.le_of_lt hlt)
  obtain ⟨ho, ⟨cur, hB, hcur⟩, hbe, hsz⟩ := hr
  have hB4 := hB.below hb (by omega)
  have hz : ∀ j, j < 5 → cur[k * 5 + j]? = some (if j % 5 = 0 ∨ j % 5 = 2 then .int .i64 0 else .slice none 0 0) := fun j hj => by
    rw [← Array.getElem?_toList, hcur, List.getElem?_append_right (by omega), hl, show k * 5 + j - k * 5 = j by omega]
    exact zero5_at _ _ (by omega)
  exact ⟨⟨(hB4.cell _).trans (hz 0 (by omega)), (hB4.cell _).trans (hz 1 (by omega)), (hB4.cell _).trans (hz 2 (by omega)), (hB4.cell _).trans (hz 3 (by omega)), (hB4.cell _).trans (hz 4 (by omega))⟩, hB4.frozen _, hB4.frozen _, hB4.frozen _, hB4.frozen _, hB4.frozen _⟩

/-- Five stores into the row. -/
def set5 (w : World) (g i : Nat) (p q : Int) (a b c : Value) : World :=
  ((((w.setCell ⟨g, i, none⟩ (.int .i64 p)).setCell ⟨g, i + 1, none⟩ a).setCell ⟨g, i + 2, none⟩ (.int .i64 q)).setCell ⟨g, i + 3, none⟩ b).setCell ⟨g, i + 4, none⟩ c
theorem set5_size (w : World) (g i : Nat) (p q : Int) (a b c : Value) : (set5 w g i p q a b c).heap.size = w.heap.size := by simp [set5]
theorem set5_block (w : World) (g i : Nat) (p q : Int) (a b c : Value) {b' : Nat} (h : b' ≠ g) : (set5 w g i p q a b c).heap[b']? = w.heap[b']? := by
  unfold set5
  rw [Below.heap_setCell _ _ _ _ h, Below.heap_setCell _ _ _ _ h, Below.heap_setCell _ _ _ _ h, Below.heap_setCell _ _ _ _ h, Below.heap_setCell _ _ _ _ h]

theorem To5.step {w wr : World} {ss : List LStep} {k : Nat} {av : List Value} (hr : To5 w wr ss k av) (hlt : k < ss.length) {w4 : World} (hb : Below wr.heap.size wr w4) {a b c : Value} {m n : Nat} (hm : wr.heap.size ≤ m ∧ m ≤ n ∧ n ≤ w4.heap.size)
    (ha : OwnInts w4 wr.heap.size m a ss[k].1.2) (hbb : OwnInts w4 m n b ss[k].2.2.1) (hcc : OwnInts w4 n w4.heap.size c ss[k].2.2.2) : To5 w (set5 w4 w.heap.size (k * 5) ss[k].1.1 ss[k].2.1 a b c) ss (k + 1) (av ++ [a, b, c]) := by
  obtain ⟨hav, hl⟩ := hr.hl (Nat.le_of_lt hlt)
  obtain ⟨ho, ⟨cur, hB, hcur⟩, hbe, hsz⟩ := hr
  have hB4 := hB.below hb (by omega)
  have hs4 := hb.size
  obtain ⟨m1, m2, m3⟩ := hm
  refine ⟨?_, ⟨_, by unfold set5; exact ((((hB4.set_ _ _).set_ _ _).set_ _ _).set_ _ _).set_ _ _, ?_⟩, ?_, by rw [set5_size]; omega⟩
  · have h1 := (ho.below hb (Nat.le_refl _)).snoc3 (hi' := w4.heap.size) (ha.mono (Nat.le_refl _) (by omega)) (hbb.mono (by omega) (by omega)) (hcc.mono (by omega) (Nat.le_refl _))
      (fun g hg hg' => by have := ha.block hg; have := hbb.block hg'; omega) (fun g hg hg' => by have := ha.block hg; have := hcc.block hg'; omega) (fun g hg hg' => by have := hbb.block hg; have := hcc.block hg'; omega) (by omega) (by omega)
    rw [take_snoc ss k hlt, leaves_append, set5_size]
    exact ⟨h1.len, fun i g1 g2 => (h1.own i g1 g2).kept fun q hq => set5_block _ _ _ _ _ _ _ _ (by have := (h1.own i g1 g2).block hq; omega), h1.apart⟩
  · rw [take_snoc ss k hlt, heads_append, flat5_append _ _ hav]
    obtain ⟨m, hm⟩ : ∃ m, ss.length - k = m + 1 := ⟨ss.length - k - 1, by omega⟩
    rw [show ss.length - (k + 1) = m by omega]
    clear hav
    generalize flat5 (heads (ss.take k)) av = F at *
    simp [Array.toList_setIfInBounds, hcur, hm, zero5, List.set_append_right, hl, heads, flat5]
  · unfold set5
    exact (((((hbe.trans (hb.mono hbe.size)).setCell (Nat.le_refl _) _).setCell (Nat.le_refl _) _).setCell (Nat.le_refl _) _).setCell (Nat.le_refl _) _).setCell (Nat.le_refl _) _

theorem To5.done {w wr : World} {ss : List LStep} {av : List Value} (hr : To5 w wr ss ss.length av) (hm : ss.length ≤ maxLen) : OwnSteps wr w.heap.size wr.heap.size (.slice (some ⟨w.heap.size, 0, none⟩) ss.length ss.length) ss := by
  obtain ⟨hav, hl⟩ := hr.hl (Nat.le_refl _)
  obtain ⟨ho, ⟨cur, hB, hcur⟩, hbe, hsz⟩ := hr
  simp only [List.take_length, Nat.sub_self, zero5, List.append_nil] at ho hcur hav hl
  have hcl : cur.size = ss.length * 5 := by rw [← Array.length_toList, hcur, hl]
  refine ⟨av, ho.mono (by omega) (Nat.le_refl _), ?_, fun g hg => ?_, by rw [leaves_length, heads_length]⟩
  · rw [heads_length]
    refine ⟨hl, .inr ⟨w.heap.size, ss.length, cur, rfl, Nat.le_refl _, hB, Nat.le_refl _, hm, hcl, ?_⟩⟩
    rw [hcur, ← hl, List.take_length]
  · simp [Value.ownBlock] at hg
    omega

-- marks
/-- The steps that marks from k on leave. -/
def markSt (k : Int) (s : LStep) : LStep :=
  ((k, seqI (k + 1) s.1.2.length), k + 1 + (s.1.2.length : Int), seqI (k + 2 + (s.1.2.length : Int)) s.2.2.1.length, seqI (k + 2 + (s.1.2.length : Int) + (s.2.2.1.length : Int)) s.2.2.2.length)
def markS : Int → List LStep → List LStep
  | _, [] => []
  | k, s :: ss => markSt k s :: markS (k + 2 + (szSt s : Int)) ss
/-- The mark behind the last one. -/
def endS (k : Int) (ss : List LStep) : Int := k + 2 * (ss.length : Int) + (totS ss : Int)
theorem markS_length : ∀ (k : Int) (ss : List LStep), (markS k ss).length = ss.length
  | _, [] => rfl
  | k, s :: ss => by simp [markS, markS_length _ ss]
theorem endS_cons (k : Int) (s : LStep) (ss : List LStep) : endS (k + 2 + (szSt s : Int)) ss = endS k (s :: ss) := by simp [endS, totS_cons]; omega
theorem markS_snoc : ∀ (k : Int) (ss : List LStep) (s : LStep), markS k (ss ++ [s]) = markS k ss ++ [markSt (endS k ss) s]
  | k, [], s => by simp [markS, endS, totS]
  | k, t :: ss, s => by
    have h := markS_snoc (k + 2 + (szSt t : Int)) ss s
    rw [endS_cons] at h
    simp [markS, h]
def markedS (ss : List LStep) (k : Int) (j : Nat) : List LStep := markS k (ss.take j) ++ ss.drop j
theorem markedS_length {ss : List LStep} {k : Int} {j : Nat} (h : j ≤ ss.length) : (markedS ss k j).length = ss.length := by simp [markedS, markS_length]; omega
theorem markedS_at {ss : List LStep} {k : Int} {j : Nat} (h : j < ss.length) : (markedS ss k j)[j]? = some ss[j] := by
  have hl : (markS k (ss.take j)).length = j := by rw [markS_length]; simp; omega
  unfold markedS
  rw [List.getElem?_append_right (by omega), hl]
  simp [h]
theorem markedS_step {ss : List LStep} {k : Int} {j : Nat} (h : j < ss.length) : (markedS ss k j).set j (markSt (endS k (ss.take j)) ss[j]) = markedS ss k (j + 1) := by
  have hl : (markS k (ss.take j)).length = j := by rw [markS_length]; simp; omega
  unfold markedS
  rw [List.drop_eq_getElem_cons h, List.set_append_right _ _ (by omega), hl, Nat.sub_self, List.set_cons_zero, take_snoc ss j h, markS_snoc]
  simp
theorem markedS_zero (ss : List LStep) (k : Int) : markedS ss k 0 = ss := by simp [markedS, markS]
theorem markedS_all (ss : List LStep) (k : Int) : markedS ss k ss.length = markS k ss := by simp [markedS]
theorem markS_at {ss : List LStep} {k : Int} {j : Nat} (h : j < ss.length) (h' : j < (markS k ss).length) : (markS k ss)[j] = markSt (endS k (ss.take j)) ss[j] := by
  have e : ss = ss.take (j + 1) ++ ss.drop (j + 1) := (List.take_append_drop _ _).symm
  have hl : (markS k (ss.take j)).length = j := by rw [markS_length]; simp; omega
  have hp : ∀ (xs ys : List LStep) (k : Int), ∃ zs, markS k (xs ++ ys) = markS k xs ++ zs := by
    intro xs
    induction xs with
    | nil => intro ys k; exact ⟨_, rfl⟩
    | cons x xs ih =>
      intro ys k
      obtain ⟨zs, hz⟩ := ih ys (k + 2 + (szSt x : Int))
      exact ⟨zs, by simp [markS, hz]⟩
  obtain ⟨zs, hz⟩ := hp (ss.take (j + 1)) (ss.drop (j + 1)) k
  rw [← e, take_snoc ss j h, markS_snoc] at hz
  have : (markS k ss)[j]? = some (markSt (endS k (ss.take j)) ss[j]) := by
    rw [hz, List.append_assoc, List.getElem?_append_right (by omega), hl]
    simp
  rw [List.getElem?_eq_getElem h'] at this
  exact Option.some.inj this
theorem endS_zero (k : Int) (ss : List LStep) : endS k (ss.take 0) = k := by simp [endS, totS]
theorem endS_step {ss : List LStep} {k : Int} {j : Nat} (h : j < ss.length) : endS k (ss.take (j + 1)) = endS k (ss.take j) + 2 + (szSt ss[j] : Int) := by
  have := totS_take ss j h
  simp only [endS, List.length_take, this]
  omega
theorem totS_take_le (ss : List LStep) (j : Nat) : totS (ss.take j) ≤ totS ss := by
  have := totS_append (ss.take j) (ss.drop j)
  rw [List.take_append_drop] at this
  omega
theorem endS_bound {ss : List LStep} {k : Int} (j : Nat) (hk0 : 0 ≤ k) (hk : k ≤ 4294967296) (hn : ss.length ≤ 1073741824) (ht : totS ss ≤ 1073741824) : 0 ≤ endS k (ss.take j) ∧ endS k (ss.take j) ≤ 8589934592 := by
  have h1 := totS_take_le ss j
  have h2 : (ss.take j).length ≤ ss.length := by rw [List.length_take]; omega
  simp only [endS]
  omega

theorem flat5_set1 : ∀ (ps : List (Int × Int)) (av : List Value) (_ : av.length = ps.length * 3) (j : Nat) (hj : j < ps.length) (p : Int), flat5 (ps.set j (p, ps[j].2)) av = (flat5 ps av).set (j * 5) (.int .i64 p)
  | [], _, _, _, hj, _ => absurd hj (by simp)
  | q :: ps, [], h, _, _, _ => by simp at h
  | q :: ps, [_], h, _, _, _ => by simp at h; omega
  | q :: ps, [_, _], h, _, _, _ => by simp at h; omega
  | q :: ps, a :: b :: c :: av, h, 0, _, p => by simp [flat5]
  | q :: ps, a :: b :: c :: av, h, j + 1, hj, p => by
    have := flat5_set1 ps av (by simp at h; omega) j (by simpa using hj) p
    simp [flat5, Nat.add_mul, this]
theorem flat5_set2 : ∀ (ps : List (Int × Int)) (av : List Value) (_ : av.length = ps.length * 3) (j : Nat) (hj : j < ps.length) (p : Int), flat5 (ps.set j (ps[j].1, p)) av = (flat5 ps av).set (j * 5 + 2) (.int .i64 p)
  | [], _, _, _, hj, _ => absurd hj (by simp)
  | q :: ps, [], h, _, _, _ => by simp at h
  | q :: ps, [_], h, _, _, _ => by simp at h; omega
  | q :: ps, [_, _], h, _, _, _ => by simp at h; omega
  | q :: ps, a :: b :: c :: av, h, 0, _, p => by simp [flat5]
  | q :: ps, a :: b :: c :: av, h, j + 1, hj, p => by
    have := flat5_set2 ps av (by simp at h; omega) j (by simpa using hj) p
    simp [flat5, Nat.add_mul, this]

section
variable {w w3 : World} {lo hi g c : Nat} {v : Value} {ps ps' : List (Int × Int)} {xss : List (List Int)} {av : List Value}
/-- A store of a plain cell into the row. -/
theorem OwnSX.cellSet (h : OwnSX w lo hi (.slice (some ⟨g, 0, none⟩) ps.length c) ps xss av) {i : Nat} {u : Value} (hp : ps'.length = ps.length) (e : flat5 ps' av = (flat5 ps av).set i u) : OwnSX (w.setCell ⟨g, i, none⟩ u) lo hi (.slice (some ⟨g, 0, none⟩) ps.length c) ps' xss av := by
  obtain ⟨ha, hr, hlt, hn⟩ := h
  refine ⟨⟨ha.len, fun l h1 h2 => (ha.own l h1 h2).kept fun b hb => Below.heap_setCell _ _ _ _ (fun e2 => stepsT_ne hr rfl (ha.own l h1 h2) (by rw [hb, e2])), ha.apart⟩, ?_, hlt, by rw [hp]; exact hn⟩
  obtain ⟨hfl, hr2⟩ := hr
  rcases hr2 with ⟨e2, _⟩ | ⟨g', cap, cur, e2, hbg, hgg, hn2, hm, hs, ht⟩
  · cases e2
  · injection e2 with e3 _ e4
    injection e3 with e3
    injection e3 with e3 _ _
    subst e3
    subst e4
    refine ⟨by rw [e, List.length_set, hp]; exact hfl, .inr ⟨g, c, cur.setIfInBounds i u, by rw [hp], hbg, ?_, by rw [hp]; exact hn2, hm, by simpa using hs, ?_⟩⟩
    · simp [World.setCell, Array.getElem?_modify, hgg]
    · rw [e, hp, Array.toList_setIfInBounds, List.take_set, ht]
/-- A row of integers is written. -/
theorem OwnSX.leaf (h : OwnSX w lo hi v ps xss av) {l : Nat} (hl : l < xss.length) (hl' : l < av.length) {ys : List Int} (hI : OwnInts w3 lo hi av[l] ys) (hg : w.grownBy w3 av[l].ownBlock) : OwnSX w3 lo hi v ps (xss.set l ys) av := by
  obtain ⟨ha, hr, hlt, hn⟩ := h
  have hapart : ∀ i i' (hi' : i < av.length) (hi'' : i' < av.length), i ≠ i' → ∀ b, av[i].ownBlock = some b → av[i'].ownBlock ≠ some b := by
    intro i i' h1 h2 hne b hb hb'
    have hp := List.pairwise_iff_getElem.1 ha.apart
    rcases Nat.lt_or_gt_of_ne hne with hl | hl
    · exact hp i i' h1 h2 hl b hb hb'
    · exact hp i' i h2 h1 hl b hb' hb
  refine ⟨⟨by simp [ha.len], fun i h1 h2 => ?_, ha.apart⟩, ownsRow_only hr fun b hb => hg.block b (hr.lt b hb).2 (fun e => stepsT_ne hr hb (ha.own l hl hl') e.symm), hlt, by rw [List.length_set]; exact hn⟩
  by_cases e : i = l
  · subst e
    simpa using hI
  · rw [List.getElem_set_ne (Ne.symm e)]
    have h0 := ha.own i (by simpa using h1) h2
    exact h0.kept fun b hb => hg.block b (h0.lt hb).2.2 (fun e2 => hapart i l h2 hl' e b hb e2.symm)
/-- What the walk reads of step j. -/
theorem OwnSX.get (h : OwnSX w lo hi (.slice (some ⟨g, 0, none⟩) ps.length c) ps xss av) {j : Nat} (hj : j < ps.length) :
    (w.cell? ⟨g, j * 5, none⟩ = some (.int .i64 ps[j].1) ∧ w.cell? ⟨g, j * 5 + 1, none⟩ = av[j * 3]? ∧ w.cell? ⟨g, j * 5 + 2, none⟩ = some (.int .i64 ps[j].2) ∧ w.cell? ⟨g, j * 5 + 3, none⟩ = av[j * 3 + 1]? ∧ w.cell? ⟨g, j * 5 + 4, none⟩ = av[j * 3 + 2]?) ∧
    ∀ i, w.frozen? ⟨g, i, none⟩ = false := by
  have hl := h.len
  have hcells := @World.ownsRow.cells w lo 46 5 _ ps.length (flat5 ps av) h.row g rfl
  have hcell : ∀ i u, (flat5 ps av)[i]? = some u → w.cell? ⟨g, i, none⟩ = some u := fun i u hu => by
    have := hcells i u hu
    rwa [Go.WideShapes.add_plain, Nat.zero_add] at this
  obtain ⟨e0, e1, e2, e3, e4⟩ := flat5_at ps av hl j hj
  have i1 : j * 3 < av.length := by omega
  have i2 : j * 3 + 1 < av.length := by omega
  have i3 : j * 3 + 2 < av.length := by omega
  rw [List.getElem?_eq_getElem i1] at e1 ⊢
  rw [List.getElem?_eq_getElem i2] at e3 ⊢
  rw [List.getElem?_eq_getElem i3] at e4 ⊢
  refine ⟨⟨hcell _ _ e0, hcell _ _ e1, hcell _ _ e2, hcell _ _ e3, hcell _ _ e4⟩, fun i => ?_⟩
  rcases h.row.2 with ⟨e, _⟩ | ⟨g', cap, cur, e, _, hgg, _⟩
  · cases e
  · injection e with e1 _ _
    injection e1 with e1
    injection e1 with e1 _ _
    subst e1
    simp [World.frozen?, hgg]
end

end Go.Proofs.Ytcoelmhlkfignaa
/-
  The walks over steps: eqStep, eqStepS, szStep, szStepS.
-/
namespace Go.Proofs.Ytcoelmhlkfignaa
open Go.RowKit

set_option maxHeartbeats 1000000 in
set_option maxRecDepth 100000 in
theorem eqStep_any (v v2 : Value) (f g : LStep) (w : World) (h : RdStep w w.heap.size v f) (h2 : RdStep w w.heap.size v2 g) (hn : szSt f ≤ 1048576) (hn2 : szSt g ≤ 1048576) :
    Calls Try.prog 24 #[v, v2] w fun e w' => e = .returned (.bool (decide (f = g))) ∧ Below w.heap.size w w' := by
  obtain ⟨a, b, d, rfl, h1, h2', h3⟩ := h
  obtain ⟨a2, b2, d2, rfl, k1, k2, k3⟩ := h2
  unfold szSt at hn hn2
  have H1 := Lib.hid h1
  have H2 := Lib.hid h2'
  have H3 := Lib.hid h3
  have K1 := Lib.hid k1
  have K2 := Lib.hid k2
  have K3 := Lib.hid k3
  obtain ⟨A1, c1, rfl, _, _⟩ := h1
  obtain ⟨A2, c2, rfl, _, _⟩ := h2'
  obtain ⟨A3, c3, rfl, _, _⟩ := h3
  obtain ⟨D1, e1, rfl, _, _⟩ := k1
  obtain ⟨D2, e2, rfl, _, _⟩ := k2
  obtain ⟨D3, e3, rfl, _, _⟩ := k3
  go_enter Try.func24, Try.ntmps24
  go_wp2_with (fail)
  obtain ⟨w2, hw2⟩ : ∃ w2, w2 = (w.alloc (Obj.cells #[Value.int IntKind.i64 f.1.1, Value.slice A1 f.1.2.length c1, Value.int IntKind.i64 f.2.1, Value.slice A2 f.2.2.1.length c2, Value.slice A3 f.2.2.2.length c3] 46)).alloc (Obj.cells #[Value.int IntKind.i64 g.1.1, Value.slice D1 g.1.2.length e1, Value.int IntKind.i64 g.2.1, Value.slice D2 g.2.2.1.length e2, Value.slice D3 g.2.2.2.length e3] 46) := ⟨_, rfl⟩
  have B2 : Below w.heap.size w w2 := by rw [hw2]; exact below2 _ _ _
  have x0 : Blk w2 w.heap.size 46 #[.int .i64 f.1.1, .slice A1 f.1.2.length c1, .int .i64 f.2.1, .slice A2 f.2.2.1.length c2, .slice A3 f.2.2.2.length c3] := by rw [hw2]; exact (Blk.new w _ _).alloc _
  have x1 : Blk w2 (w.heap.size + 1) 46 #[.int .i64 g.1.1, .slice D1 g.1.2.length e1, .int .i64 g.2.1, .slice D2 g.2.2.1.length e2, .slice D3 g.2.2.2.length e3] := by
    rw [hw2]
    simpa using Blk.new (w.alloc (Obj.cells #[Value.int IntKind.i64 f.1.1, Value.slice A1 f.1.2.length c1, Value.int IntKind.i64 f.2.1, Value.slice A2 f.2.2.1.length c2, Value.slice A3 f.2.2.2.length c3] 46)) _ _
  rw [← hw2]
  clear hw2
  refine (eqFact_any _ _ f.1 g.1 _ ⟨_, rfl, H1.out.on B2⟩ ⟨_, rfl, K1.out.on B2⟩ (by omega) (by omega)).mono ?_
  rintro e w4 ⟨rfl, hb⟩
  have y0 := x0.below hb x0.lt
  have y1 := x1.below hb x1.lt
  have B4 := bthen B2 hb
  have p2 : w4.cell? ⟨w.heap.size, 2, none⟩ = some (.int .i64 f.2.1) := y0.cell 2
  have q2 : w4.cell? ⟨w.heap.size + 1, 2, none⟩ = some (.int .i64 g.2.1) := y1.cell 2
  have p3 : w4.cell? ⟨w.heap.size, 3, none⟩ = some (.slice A2 f.2.2.1.length c2) := y0.cell 3
  have q3 : w4.cell? ⟨w.heap.size + 1, 3, none⟩ = some (.slice D2 g.2.2.1.length e2) := y1.cell 3
  by_cases hp : f.1 = g.1
  · have hpb : decide (f.1 = g.1) = true := by simp [hp]
    by_cases hr : f.2.1 = g.2.1
    · have hrb : (f.2.1 != g.2.1) = false := by simp [hr]
      by_cases hd : f.2.2.1 = g.2.2.1
      · have hdb : decide (f.2.2.1 = g.2.2.1) = true := by simp [hd]
        have HE := Lib.hid (show decide (f = g) = decide (f.2.2.2 = g.2.2.2) from decide_eq_decide.2 ⟨fun e => by rw [e], fun e => Prod.ext hp (Prod.ext hr (Prod.ext hd e))⟩)
        have HD := Lib.hid hdb
        clear hp hr hd hdb
        go_wp2_with (fail)
        refine (eqIntS_any _ _ f.2.2.1 g.2.2.1 _ (H2.out.on B4) (K2.out.on B4) (by omega) (by omega)).mono ?_
        rintro e w5 ⟨rfl, hb5⟩
        have z0 := y0.below hb5 y0.lt
        have z1 := y1.below hb5 y1.lt
        have B5 := bthen B4 hb5
        have p4 : w5.cell? ⟨w.heap.size, 4, none⟩ = some (.slice A3 f.2.2.2.length c3) := z0.cell 4
        have q4 : w5.cell? ⟨w.heap.size + 1, 4, none⟩ = some (.slice D3 g.2.2.2.length e3) := z1.cell 4
        rw [HD.out]
        go_wp2_with (fail)
        refine (eqIntS_any _ _ f.2.2.2 g.2.2.2 _ (H3.out.on B5) (K3.out.on B5) (by omega) (by omega)).mono ?_
        rintro e w6 ⟨rfl, hb6⟩
        have B6 := bthen B5 hb6
        by_cases hl : f.2.2.2 = g.2.2.2
        · have hlb : decide (f.2.2.2 = g.2.2.2) = true := by simp [hl]
          have HL := Lib.hid hlb
          clear hl
          go_wp2_with (fail)
          go_ret
          exact ⟨ret_bool (by rw [HE.out, HL.out]), B6⟩
        · have hlb : decide (f.2.2.2 = g.2.2.2) = false := by simp [hl]
          have HL := Lib.hid hlb
          clear hl
          go_wp2_with (fail)
          go_ret
          exact ⟨ret_bool (by rw [HE.out, HL.out]), B6⟩
      · have hdb : decide (f.2.2.1 = g.2.2.1) = false := by simp [hd]
        have HE := Lib.hid (show decide (f = g) = false from decide_eq_false fun e => hd (by rw [e]))
        have HD := Lib.hid hdb
        clear hp hr hd hdb
        go_wp2_with (fail)
        refine (eqIntS_any _ _ f.2.2.1 g.2.2.1 _ (H2.out.on B4) (K2.out.on B4) (by omega) (by omega)).mono ?_
        rintro e w5 ⟨rfl, hb5⟩
        have B5 := bthen B4 hb5
        rw [HD.out]
        go_wp2_with (fail)
        go_ret
        exact ⟨ret_bool HE.out.symm, B5⟩
    · have hrb : (f.2.1 != g.2.1) = true := by simp [hr]
      have HE := Lib.hid (show decide (f = g) = false from decide_eq_false fun e => hr (by rw [e]))
      clear hp hr
      go_wp2_with (fail)
      go_ret
      exact ⟨ret_bool HE.out.symm, B4⟩
  · have hpb : decide (f.1 = g.1) = false := by simp [hp]
    have HE := Lib.hid (show decide (f = g) = false from decide_eq_false fun e => hp (by rw [e]))
    clear hp
    go_wp2_with (fail)
    go_ret
    exact ⟨ret_bool HE.out.symm, B4⟩

def StSame (xs ys : List LStep) (k : Nat) : Prop := xs.take k = ys.take k
theorem StSame.step {xs ys : List LStep} {k : Nat} (h : StSame xs ys k) (h1 : k < xs.length) (h2 : k < ys.length) (e : xs[k] = ys[k]) : StSame xs ys (k + 1) := by
  unfold StSame at h ⊢
  rw [take_snoc xs k h1, take_snoc ys k h2, h, e]
theorem StSame.eq {xs ys : List LStep} (h : StSame xs ys xs.length) (hl : xs.length = ys.length) : xs = ys := by
  unfold StSame at h
  rwa [List.take_length, hl, List.take_length] at h

set_option maxHeartbeats 1000000 in
set_option maxRecDepth 100000 in
theorem eqStepS_any (va vb : Value) (xs ys : List LStep) (w : World) (ha : RdSteps w w.heap.size va xs) (hb : RdSteps w w.heap.size vb ys) (hx : xs.length ≤ 1048576) (hy : ys.length ≤ 1048576) (htx : totS xs ≤ 1048576) (hty : totS ys ≤ 1048576) :
    Calls Try.prog 10 #[va, vb] w fun e w' => e = .returned (.bool (decide (xs = ys))) ∧ Below w.heap.size w w' := by
  have HX := Lib.hid ha
  have HY := Lib.hid hb
  obtain ⟨A, c, rfl, hc, _⟩ := ha
  obtain ⟨A2, c2, rfl, hc2, _⟩ := hb
  by_cases hl : xs.length = ys.length
  · have hl1 : ((xs.length : Int) != (ys.length : Int)) = false := by simp [hl]
    have HL := Lib.hid hl
    clear hl
    go_enter Try.func10, Try.ntmps10
    go_wp2_with (fail)
    go_loopw [5] (fun i wr => ∃ k : Nat, k ≤ xs.length ∧ i = .int .i64 k ∧ StSame xs ys k ∧ Below w.heap.size w wr) (fun i _ => xs.length - (intOf i).toNat)
    case atStart => exact ⟨0, Nat.zero_le _, rfl, rfl, Below.refl _ _⟩
    case round =>
      obtain ⟨k, hk, rfl, hs, hbe⟩ := hrel
      by_cases hlt : k < xs.length
      · have hlt2 : k < ys.length := by have := HL.out; omega
        obtain ⟨b, o, A1, c1, A3, c3, A4, c4, rfl, hbB, ⟨k0, k1, k2, k3, k4⟩, r1, r2, r3⟩ := (HX.out.on hbe).get hlt
        obtain ⟨b2, o2, D1, e1, D3, e3, D4, e4, rfl, hbB2, ⟨m0, m1, m2, m3, m4⟩, q1, q2, q3⟩ := (HY.out.on hbe).get hlt2
        have hln := szSt_le_totS xs k hlt
        have hln2 := szSt_le_totS ys k hlt2
        have HA := Lib.hid (And.intro r1 (And.intro r2 r3))
        have HA2 := Lib.hid (And.intro q1 (And.intro q2 q3))
        clear r1 r2 r3 q1 q2 q3
        go_wp2_with (fail)
        go_still_tail 8, (by kernel_rfl)
        change wpList _ _ _ _ _ wr.drew
        obtain ⟨w2, hw2⟩ : ∃ w2, w2 = wr.drew := ⟨_, rfl⟩
        rw [← hw2]
        have hbe2 : Below wr.heap.size wr w2 := by rw [hw2]; exact (Below.refl _ _).drew
        clear hw2
        go_wp2_with (fail)
        refine (eqStep_any _ _ xs[k] ys[k] _ ⟨_, _, _, rfl, HA.out.1.on hbe2, HA.out.2.1.on hbe2, HA.out.2.2.on hbe2⟩ ⟨_, _, _, rfl, HA2.out.1.on hbe2, HA2.out.2.1.on hbe2, HA2.out.2.2.on hbe2⟩ (by omega) (by omega)).mono ?_
        rintro e w4 ⟨rfl, hb4⟩
        have hB4 := bthen hbe (bthen hbe2 hb4)
        by_cases he : xs[k] = ys[k]
        · have hdb : decide (xs[k] = ys[k]) = true := by simp [he]
          have HS := Lib.hid (hs.step hlt hlt2 he)
          clear he hs
          go_wp2_with (fail)
          go_roundw
          case rel => exact ⟨k + 1, by omega, by go_num, HS.out, hB4⟩
          case measure => simp [intOf]; omega
        · have hdb : decide (xs[k] = ys[k]) = false := by simp [he]
          have HE := Lib.hid (show xs ≠ ys from fun e => he (by subst e; rfl))
          clear he hs
          go_wp2_with (fail)
          go_ret
          exact ⟨ret_bool (by simp [HE.out]), hB4⟩
      · have hkn : k = xs.length := by omega
        have HE := Lib.hid (show xs = ys from StSame.eq (by rw [← hkn]; exact hs) HL.out)
        clear hkn hs
        go_wp2_with (fail)
        go_ret
        exact ⟨ret_bool (by simp [HE.out]), hbe⟩
  · have hl1 : ((xs.length : Int) != (ys.length : Int)) = true := by simp; omega
    have HE := Lib.hid (show xs ≠ ys from fun e => hl (by rw [e]))
    clear hl
    go_enter Try.func10, Try.ntmps10
    go_wp2_with (fail)
    go_ret
    exact ⟨ret_bool (by simp [HE.out]), Below.refl _ _⟩

/-- What szStep answers: -1, or what is left when n are taken. -/
def SzResS (r left : Int) (n : Nat) : Prop := r = -1 ∨ (0 ≤ r ∧ r + n = left)

set_option maxHeartbeats 1000000 in
theorem szStep_any (v : Value) (s : LStep) (left : Int) (w : World) (h : RdStep w w.heap.size v s) (h0 : 0 ≤ left) (hl : left ≤ 1048576) (hn : s.1.2.length ≤ 9223372036854775807) (hn2 : s.2.2.1.length ≤ 9223372036854775807) (hn3 : s.2.2.2.length ≤ 9223372036854775807) :
    Calls Try.prog 20 #[v, .int .i64 left] w fun e w' => ∃ r, e = .returned (.int .i64 r) ∧ SzResS r left (szSt s) ∧ Below w.heap.size w w' := by
  obtain ⟨a, b, d, rfl, h1, h2, h3⟩ := h
  have H1 := Lib.hid h1
  obtain ⟨A1, c1, rfl, _, _⟩ := h1
  obtain ⟨A2, c2, rfl, _, _⟩ := h2
  obtain ⟨A3, c3, rfl, _, _⟩ := h3
  have hcs := szV_cases left s.1.2.length
  go_enter Try.func20, Try.ntmps20
  go_wp2_with (fail)
  obtain ⟨w1, hw1⟩ : ∃ w1, w1 = w.alloc (Obj.cells #[Value.int IntKind.i64 s.1.1, Value.slice A1 s.1.2.length c1, Value.int IntKind.i64 s.2.1, Value.slice A2 s.2.2.1.length c2, Value.slice A3 s.2.2.2.length c3] 42) := ⟨_, rfl⟩
  have B1 : Below w.heap.size w w1 := by rw [hw1]; exact below1 _ _
  have x0 : Blk w1 w.heap.size 42 #[.int .i64 s.1.1, .slice A1 s.1.2.length c1, .int .i64 s.2.1, .slice A2 s.2.2.1.length c2, .slice A3 s.2.2.2.length c3] := by rw [hw1]; exact Blk.new w _ _
  rw [← hw1]
  clear hw1
  refine (szFact_any _ s.1 left _ ⟨_, rfl, H1.out.on B1⟩ h0 hl hn).mono ?_
  rintro e w2 ⟨rfl, hb2⟩
  have y0 := x0.below hb2 x0.lt
  have B2 := bthen B1 hb2
  have p3 : w2.cell? ⟨w.heap.size, 3, none⟩ = some (.slice A2 s.2.2.1.length c2) := y0.cell 3
  have p4 : w2.cell? ⟨w.heap.size, 4, none⟩ = some (.slice A3 s.2.2.2.length c3) := y0.cell 4
  rcases hcs with ⟨e1, _⟩ | ⟨e1, e2⟩
  · rw [e1]
    have HE := Lib.hid (show SzResS (-1) left (szSt s) from .inl rfl)
    clear e1
    go_wp2_with (fail)
    go_ret
    exact ⟨_, rfl, HE.out, B2⟩
  · obtain ⟨r1, hr1⟩ : ∃ r, r = szV left s.1.2.length := ⟨_, rfl⟩
    rw [← hr1] at e1 e2 ⊢
    clear hr1
    have g1 : ¬ r1 < 0 := by omega
    have hcs2 := szV_cases r1 s.2.2.1.length
    have HT := Lib.hid e2
    go_wp2_with (fail)
    refine (szIntS_any _ _ _ _ _ e1 (by omega) hn2).mono ?_
    rintro e w3 ⟨rfl, rfl⟩
    rcases hcs2 with ⟨e3, _⟩ | ⟨e3, e4⟩
    · rw [e3]
      have HE := Lib.hid (show SzResS (-1) left (szSt s) from .inl rfl)
      clear e3 e2
      go_wp2_with (fail)
      go_ret
      exact ⟨_, rfl, HE.out, B2⟩
    · obtain ⟨r2, hr2⟩ : ∃ r, r = szV r1 s.2.2.1.length := ⟨_, rfl⟩
      rw [← hr2] at e3 e4 ⊢
      clear hr2
      have g2 : ¬ r2 < 0 := by omega
      have hcs3 := szV_cases r2 s.2.2.2.length
      have HT2 := Lib.hid e4
      have hl3 : r2 ≤ 1048576 := by omega
      clear e2 e4
      go_wp2_with (fail)
      refine (szIntS_any _ _ _ _ _ e3 hl3 hn3).mono ?_
      rintro e w4 ⟨rfl, rfl⟩
      rcases hcs3 with ⟨e5, _⟩ | ⟨e5, e6⟩
      · rw [e5]
        have HE := Lib.hid (show SzResS (-1) left (szSt s) from .inl rfl)
        clear e5
        go_wp2_with (fail)
        go_ret
        exact ⟨_, rfl, HE.out, B2⟩
      · obtain ⟨r3, hr3⟩ : ∃ r, r = szV r2 s.2.2.2.length := ⟨_, rfl⟩
        rw [← hr3] at e5 e6 ⊢
        clear hr3
        have g3 : ¬ r3 < 0 := by omega
        have HE := Lib.hid (show SzResS r3 left (szSt s) from .inr ⟨e5, by have h1 := HT.out; have h2 := HT2.out; unfold szSt; omega⟩)
        clear e6
        go_wp2_with (fail)
        go_ret
        exact ⟨_, rfl, HE.out, B2⟩

def SzToS (r left : Int) (n m : Nat) : Prop := 0 ≤ r ∧ r + n + m = left
set_option maxHeartbeats 1000000 in
theorem szStepS_any (v : Value) (ss : List LStep) (left : Int) (w : World) (h : RdSteps w w.heap.size v ss) (h0 : 0 ≤ left) (hl : left ≤ 1048576) (hn : ss.length ≤ 9223372036854775807) (hm : ∀ k (h : k < ss.length), ss[k].1.2.length ≤ 9223372036854775807 ∧ ss[k].2.2.1.length ≤ 9223372036854775807 ∧ ss[k].2.2.2.length ≤ 9223372036854775807) :
    Calls Try.prog 6 #[v, .int .i64 left] w fun e w' => ∃ r, e = .returned (.int .i64 r) ∧ SzResS r left (ss.length + totS ss) ∧ Below w.heap.size w w' := by
  have H := Lib.hid h
  obtain ⟨A, c, rfl, hc, _⟩ := h
  by_cases hneg : left - (ss.length : Int) < 0
  · go_enter Try.func6, Try.ntmps6
    go_wp2_with (fail)
    go_ret
    exact ⟨_, rfl, .inl rfl, Below.refl _ _⟩
  · go_enter Try.func6, Try.ntmps6
    go_wp2_with (fail)
    go_loopw [1, 5] (fun l i wr => ∃ (k : Nat) (r : Int), k ≤ ss.length ∧ i = .int .i64 k ∧ l = .int .i64 r ∧ SzToS r left ss.length (totS (ss.take k)) ∧ Below w.heap.size w wr) (fun _ i _ => ss.length - (intOf i).toNat)
    case atStart => exact ⟨0, _, Nat.zero_le _, rfl, rfl, ⟨by omega, by simp [totS]⟩, Below.refl _ _⟩
    case round =>
      obtain ⟨k, r, hk, rfl, rfl, hs, hbe⟩ := hrel
      by_cases hlt : k < ss.length
      · obtain ⟨b, o, A1, c1, A3, c3, A4, c4, rfl, hbB, ⟨k0, k1, k2, k3, k4⟩, r1, r2, r3⟩ := (H.out.on hbe).get hlt
        have HA := Lib.hid (And.intro r1 (And.intro r2 r3))
        clear r1 r2 r3
        obtain ⟨m1, m2, m3⟩ := hm k hlt
        have htk := totS_take ss k hlt
        have hr0 := hs.1
        have hr1 := hs.2
        have hr2 : r ≤ 1048576 := by omega
        have HT := Lib.hid (And.intro htk hr1)
        clear htk hr1
        go_wp2_with (fail)
        refine (szStep_any _ ss[k] r _ ⟨_, _, _, rfl, HA.out.1, HA.out.2.1, HA.out.2.2⟩ hr0 hr2 m1 m2 m3).mono ?_
        rintro e w4 ⟨q, rfl, hq, hb4⟩
        have hB4 := bthen hbe hb4
        rcases hq with rfl | ⟨q0, q1⟩
        · go_wp2_with (fail)
          go_ret
          exact ⟨_, rfl, .inl rfl, hB4⟩
        · have hq1 : ¬ q < 0 := by omega
          have HS := Lib.hid (show SzToS q left ss.length (totS (ss.take (k + 1))) from ⟨q0, by have := HT.out; omega⟩)
          clear q0 q1
          go_wp2_with (fail)
          go_roundw
          case rel => exact ⟨k + 1, _, by omega, by go_num, rfl, HS.out, hB4⟩
          case measure => simp [intOf]; omega
      · have hkn : k = ss.length := by omega
        have HE := Lib.hid (show SzResS r left (ss.length + totS ss) from .inr ⟨hs.1, by have := hs.2; rw [hkn, List.take_length] at this; omega⟩)
        clear hkn hs
        go_wp2_with (fail)
        go_ret
        exact ⟨_, rfl, HE.out, hbe⟩

end Go.Proofs.Ytcoelmhlkfignaa
/-
  Marks and sizes of lists of steps: markStepS, heldStepS, in the form that the laws' walks ask.
-/
namespace Go.Proofs.Ytcoelmhlkfignaa
open Go.RowKit

section
variable {w w3 : World} {lo hi g c n : Nat} {v : Value} {ps ps' : List (Int × Int)} {xss : List (List Int)} {av : List Value}
theorem OwnSX.put (hn : ps.length = n) (h : OwnSX w lo hi (.slice (some ⟨g, 0, none⟩) n c) ps xss av) {i : Nat} {u : Value} (hp : ps'.length = n) (e : flat5 ps' av = (flat5 ps av).set i u) : OwnSX (w.setCell ⟨g, i, none⟩ u) lo hi (.slice (some ⟨g, 0, none⟩) n c) ps' xss av := by
  subst hn
  exact h.cellSet hp e
theorem OwnSX.at (hn : ps.length = n) (h : OwnSX w lo hi (.slice (some ⟨g, 0, none⟩) n c) ps xss av) {j : Nat} (hj : j < n) {p : Int × Int} (hp : ps[j]? = some p) :
    (w.cell? ⟨g, j * 5, none⟩ = some (.int .i64 p.1) ∧ w.cell? ⟨g, j * 5 + 1, none⟩ = av[j * 3]? ∧ w.cell? ⟨g, j * 5 + 2, none⟩ = some (.int .i64 p.2) ∧ w.cell? ⟨g, j * 5 + 3, none⟩ = av[j * 3 + 1]? ∧ w.cell? ⟨g, j * 5 + 4, none⟩ = av[j * 3 + 2]?) ∧
    ∀ i, w.frozen? ⟨g, i, none⟩ = false := by
  subst hn
  rw [List.getElem?_eq_getElem hj] at hp
  rw [← Option.some.inj hp]
  exact h.get hj
theorem OwnSX.own (h : OwnSX w lo hi v ps xss av) {l : Nat} {xs : List Int} (hx : xss[l]? = some xs) : ∃ A c, av[l]? = some (.slice A xs.length c) ∧ OwnInts w lo hi (.slice A xs.length c) xs := by
  have hl : l < xss.length := by
    rcases Nat.lt_or_ge l xss.length with h1 | h1
    · exact h1
    · rw [List.getElem?_eq_none h1] at hx; cases hx
  have hl' : l < av.length := by rw [h.args.len]; exact hl
  have h1 := h.args.own l hl hl'
  rw [List.getElem?_eq_getElem hl] at hx
  rw [Option.some.inj hx] at h1
  obtain ⟨A, c, e⟩ := h1.form
  rw [e] at h1
  exact ⟨A, c, by rw [List.getElem?_eq_getElem hl', e], h1⟩
theorem OwnSX.leafAt (h : OwnSX w lo hi v ps xss av) {l : Nat} {xs ys : List Int} (hx : xss[l]? = some xs) {u : Value} (hu : av[l]? = some u) (hI : OwnInts w3 lo hi u ys) (hg : w.grownBy w3 u.ownBlock) : OwnSX w3 lo hi v ps (xss.set l ys) av := by
  have hl : l < xss.length := by
    rcases Nat.lt_or_ge l xss.length with h1 | h1
    · exact h1
    · rw [List.getElem?_eq_none h1] at hx; cases hx
  have hl' : l < av.length := by rw [h.args.len]; exact hl
  rw [List.getElem?_eq_getElem hl'] at hu
  have e := Option.some.inj hu
  subst e
  exact h.leaf hl hl' hI hg
end

set_option maxHeartbeats 2000000 in
set_option maxRecDepth 100000 in
theorem markStepS_any (v : Value) (ss : List LStep) (k : Int) (lo hi : Nat) (w : World) (h : OwnSteps w lo hi v ss) (hk0 : 0 ≤ k) (hk : k ≤ 4294967296) (hn : ss.length ≤ 1073741824) (ht : totS ss ≤ 1073741824) :
    Calls Try.prog 14 #[v, .int .i64 k] w fun e w' => e = .returned (.int .i64 (endS k ss)) ∧ OwnSteps w' lo hi v (markS k ss) ∧ Only lo hi w w' := by
  obtain ⟨av, h⟩ := h
  obtain ⟨A, c, hv, hform⟩ := h.form
  rw [heads_length] at hv hform
  subst hv
  have HLA := Lib.hid h.len
  have H := Lib.hid h
  clear h
  go_enter Try.func14, Try.ntmps14
  go_wp2_with (fail)
  go_loopw [1, 5] (fun m i wr => ∃ (j : Nat) (q : Int), j ≤ ss.length ∧ i = .int .i64 j ∧ m = .int .i64 q ∧ q = endS k (ss.take j) ∧ OwnSX wr lo hi (.slice A ss.length c) (heads (markedS ss k j)) (leaves (markedS ss k j)) av ∧ Only lo hi w wr) (fun _ i _ => ss.length - (intOf i).toNat)
  case atStart => exact ⟨0, k, Nat.zero_le _, rfl, rfl, by rw [endS_zero], by rw [markedS_zero]; exact H.out, Only.refl _ _ _⟩
  case round =>
    obtain ⟨j, q, hj, rfl, rfl, hq, ho, hon⟩ := hrel
    by_cases hlt : j < ss.length
    · obtain ⟨g, rfl, hg1, hg2⟩ := hform (by omega)
      have hml := markedS_length (k := k) (Nat.le_of_lt hlt)
      have hat0 := markedS_at (k := k) hlt
      have hb := endS_bound (ss := ss) j hk0 hk hn ht
      have hE := endS_step (k := k) hlt
      have hst := markedS_step (k := k) hlt
      rw [← hq] at hb hE hst
      obtain ⟨hq0, hq1⟩ := hb
      have hps : (heads (markedS ss k j)).length = ss.length := by rw [heads_length, hml]
      have hjm : j < (markedS ss k j).length := by omega
      rw [List.getElem?_eq_getElem hjm] at hat0
      have hat := Option.some.inj hat0
      have hp0 : (heads (markedS ss k j))[j]? = some (ss[j].1.1, ss[j].2.1) := by
        have : j < (heads (markedS ss k j)).length := by omega
        rw [List.getElem?_eq_getElem this]
        simp only [heads, List.getElem_map, hat]
      obtain ⟨l1, l2, l3⟩ := leaves_at (markedS ss k j) j hjm
      rw [hat] at l1 l2 l3
      have hF : OwnSX wr lo hi (.slice (some ⟨g, 0, none⟩) ss.length c) (heads (markedS ss k j)) (leaves (markedS ss k j)) av := ho
      have hH := heads_set (markedS ss k j) j (markSt q ss[j])
      have hL := leaves_set (markedS ss k j) j (markSt q ss[j])
      rw [hst] at hH hL
      clear ho hat hat0 hjm hml hst
      generalize heads (markedS ss k j) = ps at *
      generalize leaves (markedS ss k j) = xs at *
      obtain ⟨P1, d1, a1, o1⟩ := hF.own l1
      obtain ⟨P2, d2, a2, o2⟩ := hF.own l2
      obtain ⟨P3, d3, a3, o3⟩ := hF.own l3
      obtain ⟨⟨c0, c1, c2, c3, c4⟩, fz⟩ := hF.at hps hlt hp0
      rw [a1] at c1
      have f0 := fz (j * 5)
      have e0 : ps[j]'(by omega) = (ss[j].1.1, ss[j].2.1) := by rw [List.getElem?_eq_getElem (by omega)] at hp0; exact Option.some.inj hp0
      have t1 := hF.put hps (ps' := ps.set j (q, (ps[j]'(by omega)).2)) (by simp [hps]) (flat5_set1 ps av hF.len j (by omega) q)
      rw [e0] at t1
      obtain ⟨_, _, a1', i1⟩ := t1.own l1
      rw [a1] at a1'
      have a1'' := Option.some.inj a1'
      rw [← a1''] at i1
      obtain ⟨n1, hn1⟩ : ∃ n : Nat, n = szSt ss[j] := ⟨_, rfl⟩
      have hn1' := hn1
      unfold szSt at hn1'
      have htl := szSt_le_totS ss j hlt
      have b1 : ss[j].1.2.length ≤ 1073741824 := by omega
      have b2 : ss[j].2.2.1.length ≤ 1073741824 := by omega
      have b3 : ss[j].2.2.2.length ≤ 1073741824 := by omega
      have HI := Lib.hid i1
      have HT1 := Lib.hid t1
      have HA := Lib.hid (And.intro a1 (And.intro a2 (And.intro a3 (And.intro l1 (And.intro l2 l3)))))
      have HE := Lib.hid (And.intro hE (And.intro hH (And.intro hL (And.intro hps (And.intro hn1 hn1')))))
      have HO := Lib.hid hon
      have HQ := Lib.hid hq
      clear i1 t1 a1 a2 a3 l1 l2 l3 a1' a1'' o1 o2 o3 hF c2 c3 c4 fz hE hH hL hn1 hn1' e0 hp0 hon htl hq
      go_wp2_with (fail)
      refine (markIntS_any _ ss[j].1.2 (q + 1) lo hi _ HI.out (by omega) (by omega)).mono ?_
      rintro e w3 ⟨rfl, ho3, hg3⟩
      obtain ⟨a1, a2, a3, l1, l2, l3⟩ := HA.out
      obtain ⟨hE, hH, hL, hps, hn1, hn1'⟩ := HE.out
      have t2 := HT1.out.leafAt l1 a1 ho3 hg3
      have on2 : Only lo hi w w3 := (HO.out.setCell (p := ⟨g, j * 5, none⟩) ⟨hg1, hg2⟩ _).trans (Only.of_grown hg3 (fun b hb => by have := HI.out.lt hb; omega))
      have hp2 : (ps.set j (q, ss[j].2.1))[j]? = some (q, ss[j].2.1) := by rw [List.getElem?_set_self (by omega)]
      have hps2 : (ps.set j (q, ss[j].2.1)).length = ss.length := by simp [hps]
      obtain ⟨⟨_, _, c2, c3, _⟩, fz⟩ := t2.at hps2 hlt hp2
      rw [a2] at c3
      have f2 := fz (j * 5 + 2)
      have e0 : (ps.set j (q, ss[j].2.1))[j]'(by omega) = (q, ss[j].2.1) := by simp
      have t3 := t2.put hps2 (ps' := (ps.set j (q, ss[j].2.1)).set j (((ps.set j (q, ss[j].2.1))[j]'(by omega)).1, q + 1 + (ss[j].1.2.length : Int))) (by simp [hps]) (flat5_set2 _ av t2.len j (by omega) _)
      rw [e0] at t3
      have l2' : (xs.set (j * 3) (seqI (q + 1) ss[j].1.2.length))[j * 3 + 1]? = some ss[j].2.2.1 := by rw [List.getElem?_set_ne (by omega)]; exact l2
      obtain ⟨_, _, a2', i2⟩ := t3.own l2'
      rw [a2] at a2'
      have a2'' := Option.some.inj a2'
      rw [← a2''] at i2
      have HI2 := Lib.hid i2
      have HT3 := Lib.hid t3
      have HL2 := Lib.hid l2'
      have HO2 := Lib.hid on2
      clear a1 a2 a3 l1 l2 l3 hE hH hL hps hn1 hn1' t2 t3 ho3 hg3 on2 hp2 hps2 fz e0 l2' a2' a2'' i2
      go_wp2_with (fail)
      refine (markIntS_any _ ss[j].2.2.1 (q + 1 + (ss[j].1.2.length : Int) + 1) lo hi _ HI2.out (by omega) (by omega)).mono ?_
      rintro e w4 ⟨rfl, ho4, hg4⟩
      obtain ⟨a1, a2, a3, l1, l2, l3⟩ := HA.out
      obtain ⟨hE, hH, hL, hps, hn1, hn1'⟩ := HE.out
      have t4 := HT3.out.leafAt HL2.out a2 ho4 hg4
      have on4 : Only lo hi w w4 := (HO2.out.setCell (p := ⟨g, j * 5 + 2, none⟩) ⟨hg1, hg2⟩ _).trans (Only.of_grown hg4 (fun b hb => by have := HI2.out.lt hb; omega))
      have hps4 : ((ps.set j (q, ss[j].2.1)).set j (q, q + 1 + (ss[j].1.2.length : Int))).length = ss.length := by simp [hps]
      have hp4 : ((ps.set j (q, ss[j].2.1)).set j (q, q + 1 + (ss[j].1.2.length : Int)))[j]? = some (q, q + 1 + (ss[j].1.2.length : Int)) := by rw [List.getElem?_set_self (by simp; omega)]
      obtain ⟨⟨_, _, _, _, c4⟩, _⟩ := t4.at hps4 hlt hp4
      rw [a3] at c4
      have l3' : ((xs.set (j * 3) (seqI (q + 1) ss[j].1.2.length)).set (j * 3 + 1) (seqI (q + 1 + (ss[j].1.2.length : Int) + 1) ss[j].2.2.1.length))[j * 3 + 2]? = some ss[j].2.2.2 := by rw [List.getElem?_set_ne (by omega), List.getElem?_set_ne (by omega)]; exact l3
      obtain ⟨_, _, a3', i3⟩ := t4.own l3'
      rw [a3] at a3'
      have a3'' := Option.some.inj a3'
      rw [← a3''] at i3
      have HI3 := Lib.hid i3
      have HT4 := Lib.hid t4
      have HL3 := Lib.hid l3'
      have HO4 := Lib.hid on4
      clear a1 a2 a3 l1 l2 l3 hE hH hL hps hn1 hn1' t4 ho4 hg4 on4 hp4 hps4 l3' a3' a3'' i3
      go_wp2_with (fail)
      refine (markIntS_any _ ss[j].2.2.2 (q + 1 + (ss[j].1.2.length : Int) + 1 + (ss[j].2.2.1.length : Int)) lo hi _ HI3.out (by omega) (by omega)).mono ?_
      rintro e w5 ⟨rfl, ho5, hg5⟩
      obtain ⟨a1, a2, a3, l1, l2, l3⟩ := HA.out
      obtain ⟨hE, hH, hL, hps, hn1, hn1'⟩ := HE.out
      have t5 := HT4.out.leafAt HL3.out a3 ho5 hg5
      have on5 : Only lo hi w w5 := HO4.out.trans (Only.of_grown hg5 (fun b hb => by have := HI3.out.lt hb; omega))
      have HS := Lib.hid (show OwnSX w5 lo hi (.slice (some ⟨g, 0, none⟩) ss.length c) (heads (markedS ss k (j + 1))) (leaves (markedS ss k (j + 1))) av ∧ q + 1 + (ss[j].1.2.length : Int) + 1 + (ss[j].2.2.1.length : Int) + (ss[j].2.2.2.length : Int) = endS k (ss.take (j + 1)) ∧ Only lo hi w w5 from by
        refine ⟨?_, by rw [hE, ← hn1]; omega, on5⟩
        rw [hH, hL]
        have e1 : (ps.set j (q, ss[j].2.1)).set j (q, q + 1 + (ss[j].1.2.length : Int)) = ps.set j ((markSt q ss[j]).1.1, (markSt q ss[j]).2.1) := by rw [List.set_set]; rfl
        have e2 : q + 1 + (ss[j].1.2.length : Int) + 1 = q + 2 + (ss[j].1.2.length : Int) := by omega
        rw [e1, e2] at t5
        exact t5)
      clear a1 a2 a3 l1 l2 l3 hE hH hL hps hn1 hn1' t5 ho5 hg5 on5
      go_wp2_with (fail)
      go_roundw
      case rel => exact ⟨j + 1, _, by omega, by go_num, rfl, HS.out.2.1, HS.out.1, HS.out.2.2⟩
      case measure => simp [intOf]; omega
    · have hkn : j = ss.length := by omega
      have HO := Lib.hid (show OwnSteps wr lo hi (.slice A ss.length c) (markS k ss) from ⟨av, by rw [hkn, markedS_all] at ho; exact ho⟩)
      have HK := Lib.hid (show q = endS k ss by rw [hq, hkn, List.take_length])
      clear hkn ho hq
      go_wp2_with (fail)
      go_ret
      exact ⟨ret_int HK.out, HO.out, hon⟩

set_option maxHeartbeats 2000000 in
set_option maxRecDepth 100000 in
theorem heldStepS_any (v : Value) (ss : List LStep) (k : Int) (w : World) (h : RdSteps w w.heap.size v (markS k ss)) (hk0 : 0 ≤ k) (hk : k ≤ 4294967296) (hn : ss.length ≤ 1073741824) (ht : totS ss ≤ 1073741824) :
    Calls Try.prog 19 #[v, .int .i64 k] w fun e w' => e = .returned (.int .i64 (endS k ss)) ∧ w = w' := by
  have H := Lib.hid h
  obtain ⟨A, c, rfl, hc, _⟩ := h
  rw [markS_length] at hc H ⊢
  go_enter Try.func19, Try.ntmps19
  go_wp2_with (fail)
  go_loop [1, 5] (fun m i => ∃ (j : Nat) (q : Int), j ≤ ss.length ∧ i = .int .i64 j ∧ m = .int .i64 q ∧ q = endS k (ss.take j)) (fun _ i => ss.length - (intOf i).toNat)
  case atStart => exact ⟨0, k, Nat.zero_le _, rfl, rfl, by rw [endS_zero]⟩
  case round =>
    obtain ⟨j, q, hj, rfl, rfl, hq⟩ := hrel
    by_cases hlt : j < ss.length
    · have hlm : j < (markS k ss).length := by rw [markS_length]; exact hlt
      have hH := H.out
      rw [← markS_length k ss] at hH
      obtain ⟨b, o, A1, c1, A2, c2, A3, c3, rfl, hbB, ⟨k0, k1, k2, k3, k4⟩, r1, r2, r3⟩ := hH.get hlm
      rw [markS_at hlt hlm, ← hq] at k0 k1 k2 k3 k4 r1 r2 r3
      simp only [markSt, seqI_length] at k0 k1 k2 k3 k4 r1 r2 r3
      have hqq := endS_bound (ss := ss) j hk0 hk hn ht
      rw [← hq] at hqq
      obtain ⟨hq0, hq1⟩ := hqq
      have htl := szSt_le_totS ss j hlt
      obtain ⟨n1, hn1⟩ : ∃ n : Nat, n = szSt ss[j] := ⟨_, rfl⟩
      have hn1' := hn1
      unfold szSt at hn1'
      have b1 : ss[j].1.2.length ≤ 1073741824 := by omega
      have b2 : ss[j].2.2.1.length ≤ 1073741824 := by omega
      have b3 : ss[j].2.2.2.length ≤ 1073741824 := by omega
      have hne1 : (q != q) = false := by simp
      have hne2 : ((q + 1 + (ss[j].1.2.length : Int)) != (q + 1 + (ss[j].1.2.length : Int))) = false := by simp
      have HE := Lib.hid (show q + 1 + (ss[j].1.2.length : Int) + 1 + (ss[j].2.2.1.length : Int) + (ss[j].2.2.2.length : Int) = endS k (ss.take (j + 1)) by rw [endS_step hlt, ← hq, ← hn1]; omega)
      have e2 : q + 2 + (ss[j].1.2.length : Int) = q + 1 + (ss[j].1.2.length : Int) + 1 := by omega
      rw [e2] at r2 r3
      have HR := Lib.hid (And.intro r1 (And.intro r2 r3))
      clear r1 r2 r3 hH hlm hq htl hn1 hn1' e2
      go_wp2_with (fail)
      refine (heldIntS_any _ ss[j].1.2.length (q + 1) _ HR.out.1 (by omega) (by omega)).mono ?_
      rintro e w3 ⟨rfl, rfl⟩
      have g1 : ¬ q + 1 + (ss[j].1.2.length : Int) < 0 := by omega
      go_wp2_with (fail)
      refine (heldIntS_any _ ss[j].2.2.1.length (q + 1 + (ss[j].1.2.length : Int) + 1) _ HR.out.2.1 (by omega) (by omega)).mono ?_
      rintro e w4 ⟨rfl, rfl⟩
      have g2 : ¬ q + 1 + (ss[j].1.2.length : Int) + 1 + (ss[j].2.2.1.length : Int) < 0 := by omega
      go_wp2_with (fail)
      refine (heldIntS_any _ ss[j].2.2.2.length (q + 1 + (ss[j].1.2.length : Int) + 1 + (ss[j].2.2.1.length : Int)) _ HR.out.2.2 (by omega) (by omega)).mono ?_
      rintro e w5 ⟨rfl, rfl⟩
      have g3 : ¬ q + 1 + (ss[j].1.2.length : Int) + 1 + (ss[j].2.2.1.length : Int) + (ss[j].2.2.2.length : Int) < 0 := by omega
      go_wp2_with (fail)
      go_round
      case rel => exact ⟨j + 1, _, by omega, by go_num, rfl, HE.out⟩
      case measure => simp [intOf]; omega
    · have hkn : j = ss.length := by omega
      have HK := Lib.hid (show q = endS k ss by rw [hq, hkn, List.take_length])
      clear hkn hq
      go_wp2_with (fail)
      go_ret
      exact ⟨ret_int HK.out, rfl⟩

def szSS (ss : List LStep) : Nat := 2 * ss.length + totS ss
/-- The marks from k on stand in a row of steps, and end at z. -/
def HdSteps (w : World) (lo hi : Nat) (v : Value) (ss : List LStep) (k z : Int) : Prop := OwnSteps w lo hi v (markS k ss) ∧ z = endS k ss ∧ 0 ≤ k ∧ k ≤ 4294967296 ∧ szSS ss ≤ 1073741824
theorem HdSteps.below {w w' : World} {lo hi B : Nat} {v : Value} {ss : List LStep} {k z : Int} (h : HdSteps w lo hi v ss k z) (hb : Below B w w') (hB : hi ≤ B) : HdSteps w' lo hi v ss k z := ⟨h.1.below hb hB, h.2⟩
theorem HdSteps.only {w w' : World} {lo hi lo' hi' : Nat} {v : Value} {ss : List LStep} {k z : Int} (h : HdSteps w lo hi v ss k z) (ho : Only lo' hi' w w') (hd : hi ≤ lo' ∨ hi' ≤ lo) : HdSteps w' lo hi v ss k z := ⟨h.1.only ho hd, h.2⟩

theorem um_steps {v : Value} {ss : List LStep} {lo hi : Nat} {w : World} (k : Int) (h : OwnSteps w lo hi v ss) (hk0 : 0 ≤ k) (hk : k ≤ 4294967296) (hs : szSS ss ≤ 1073741824) :
    Calls Try.prog 14 #[v, .int .i64 k] w fun e w' => ∃ z, e = .returned (.int .i64 z) ∧ k ≤ z ∧ z ≤ k + szSS ss ∧ HdSteps w' lo hi v ss k z ∧ Only lo hi w w' :=
  (markStepS_any v ss k lo hi w h hk0 hk (by unfold szSS at hs; omega) (by unfold szSS at hs; omega)).mono fun _ _ ⟨he, ho, hg⟩ =>
    ⟨_, he, by unfold endS; omega, by unfold endS szSS; omega, ⟨ho, rfl, hk0, hk, hs⟩, hg⟩

theorem uh_steps {v : Value} {ss : List LStep} {lo hi : Nat} {w : World} {k z : Int} (h : HdSteps w lo hi v ss k z) (hh : hi ≤ w.heap.size) :
    Calls Try.prog 19 #[v, .int .i64 k] w fun e w' => e = .returned (.int .i64 z) ∧ Below w.heap.size w w' := by
  have hs := h.2.2.2.2
  unfold szSS at hs
  exact (heldStepS_any v ss k w (h.1.rd.more hh) h.2.2.1 h.2.2.2.1 (by omega) (by omega)).mono fun _ _ ⟨he, hw⟩ => ⟨by rw [he, h.2.1], hw ▸ Below.refl _ _⟩

end Go.Proofs.Ytcoelmhlkfignaa
/-
  What a law says of the size of steps that come in.
-/
namespace Go.Proofs.Ytcoelmhlkfignaa
open Go.RowKit

def stepFits (s : LStep) : Prop := s.1.2.length ≤ maxLen ∧ s.2.2.1.length ≤ maxLen ∧ s.2.2.2.length ≤ maxLen
theorem us_steps {v : Value} {ss : List LStep} {left : Int} {w : World} (h : RdSteps w w.heap.size v ss) (h0 : 0 ≤ left) (hl : left ≤ 1048576) (hn : ss.length ≤ maxLen) (hm : ∀ k (h : k < ss.length), stepFits ss[k]) :
    Calls Try.prog 6 #[v, .int .i64 left] w fun e w' => ∃ z, e = .returned (.int .i64 z) ∧ (z = -1 ∨ (0 ≤ z ∧ z + (ss.length + totS ss : Nat) = left)) ∧ Below w.heap.size w w' :=
  (szStepS_any v ss left w h h0 hl (by unfold maxLen at hn; omega) (fun k hk => by obtain ⟨a, b, c⟩ := hm k hk; unfold maxLen at a b c; exact ⟨by omega, by omega, by omega⟩)).mono fun _ _ ⟨r, he, hr, hb⟩ => ⟨r, he, hr.imp id fun ⟨a, b⟩ => ⟨a, by omega⟩, hb⟩

end Go.Proofs.Ytcoelmhlkfignaa
/-
  The walks over steps: toStep, toStepS, eqStep, eqStepS, szStep, szStepS.
-/
namespace Go.Proofs.Ytcoelmhlkfignaa
open Go.RowKit

theorem Try.infoStep : (Try.prog.info? 46).map (fun i => (i.zero, i.size, i.bytes)) = some (some (.agg #[.int .i64 0, .slice none 0 0, .int .i64 0, .slice none 0 0, .slice none 0 0]), 5, 88) := by kernel_rfl

theorem OwnInts.farS {w : World} {lo hi : Nat} {v : Value} {xs : List Int} (h : OwnInts w lo hi v xs) {p : Addr} (hp : p.block < lo) (u : Value) : OwnInts (w.setCell p u) lo hi v xs := h.set (.inl hp) u

set_option maxHeartbeats 2000000 in
set_option maxRecDepth 100000 in
theorem toStep_any (v : Value) (s : LStep) (w : World) (h : RdStep w w.heap.size v s) (hn : szSt s ≤ 1048576) :
    Calls Try.prog 22 #[v] w fun e w' => ∃ A1 c1 A2 c2 A3 c3 m n, e = .returned (.agg #[.int .i64 s.1.1, .slice A1 s.1.2.length c1, .int .i64 s.2.1, .slice A2 s.2.2.1.length c2, .slice A3 s.2.2.2.length c3]) ∧ (w.heap.size ≤ m ∧ m ≤ n ∧ n ≤ w'.heap.size) ∧
      OwnInts w' w.heap.size m (.slice A1 s.1.2.length c1) s.1.2 ∧ OwnInts w' m n (.slice A2 s.2.2.1.length c2) s.2.2.1 ∧ OwnInts w' n w'.heap.size (.slice A3 s.2.2.2.length c3) s.2.2.2 ∧ Below w.heap.size w w' := by
  obtain ⟨a, b, d, rfl, h1, h2, h3⟩ := h
  unfold szSt at hn
  have H1 := Lib.hid h1
  have H2 := Lib.hid h2
  have H3 := Lib.hid h3
  obtain ⟨A1, c1, rfl, _, _⟩ := h1
  obtain ⟨A2, c2, rfl, _, _⟩ := h2
  obtain ⟨A3, c3, rfl, _, _⟩ := h3
  go_enter Try.func22, Try.ntmps22
  go_wp2_with (fail)
  obtain ⟨w3, hw3⟩ : ∃ w3, w3 = ((w.alloc (Obj.cells #[Value.int IntKind.i64 s.1.1, Value.slice A1 s.1.2.length c1, Value.int IntKind.i64 s.2.1, Value.slice A2 s.2.2.1.length c2, Value.slice A3 s.2.2.2.length c3] 42)).alloc (Obj.cells #[.int .i64 0, .slice none 0 0, .int .i64 0, .slice none 0 0, .slice none 0 0] 46)).alloc (Obj.cells #[.int .i64 0, .slice none 0 0, .int .i64 0, .slice none 0 0, .slice none 0 0] 46) := ⟨_, rfl⟩
  have B3 : Below w.heap.size w w3 := by rw [hw3]; exact below3 _ _ _ _
  have s3 : w3.heap.size = w.heap.size + 3 := by rw [hw3]; simp
  have x0 : Blk w3 w.heap.size 42 #[.int .i64 s.1.1, .slice A1 s.1.2.length c1, .int .i64 s.2.1, .slice A2 s.2.2.1.length c2, .slice A3 s.2.2.2.length c3] := by rw [hw3]; exact ((Blk.new w _ _).alloc _).alloc _
  have x1 : Blk w3 (w.heap.size + 1) 46 #[.int .i64 0, .slice none 0 0, .int .i64 0, .slice none 0 0, .slice none 0 0] := by
    rw [hw3]
    simpa using (Blk.new (w.alloc (Obj.cells #[Value.int IntKind.i64 s.1.1, Value.slice A1 s.1.2.length c1, Value.int IntKind.i64 s.2.1, Value.slice A2 s.2.2.1.length c2, Value.slice A3 s.2.2.2.length c3] 42)) _ _).alloc _
  have x2 : Blk w3 (w.heap.size + 2) 46 #[.int .i64 0, .slice none 0 0, .int .i64 0, .slice none 0 0, .slice none 0 0] := by
    rw [hw3]
    simpa using Blk.new ((w.alloc (Obj.cells #[Value.int IntKind.i64 s.1.1, Value.slice A1 s.1.2.length c1, Value.int IntKind.i64 s.2.1, Value.slice A2 s.2.2.1.length c2, Value.slice A3 s.2.2.2.length c3] 42)).alloc (Obj.cells #[.int .i64 0, .slice none 0 0, .int .i64 0, .slice none 0 0, .slice none 0 0] 46)) _ _
  rw [← hw3]
  clear hw3
  refine (toFact_any _ s.1 _ ⟨_, rfl, H1.out.on B3⟩ (by omega)).mono ?_
  rintro e w4 ⟨P1, d1, rfl, o1, hb⟩
  have y0 := x0.below hb x0.lt
  have y1 := x1.below hb x1.lt
  have y2 := x2.below hb x2.lt
  have s4 := hb.size
  have q0 : w4.cell? ⟨w.heap.size + 2, 0, none⟩ = some (.int .i64 0) := y2.cell 0
  have q1 : w4.cell? ⟨w.heap.size + 2, 1, none⟩ = some (.slice none 0 0) := y2.cell 1
  have q2 : w4.cell? ⟨w.heap.size + 2, 2, none⟩ = some (.int .i64 0) := y2.cell 2
  have f0 := y2.frozen 0
  have f1 := y2.frozen 1
  have f2 := y2.frozen 2
  have p2 : w4.cell? ⟨w.heap.size, 2, none⟩ = some (.int .i64 s.2.1) := y0.cell 2
  have p3 : w4.cell? ⟨w.heap.size, 3, none⟩ = some (.slice A2 s.2.2.1.length c2) := y0.cell 3
  go_wp2_with (fail)
  obtain ⟨w5, hw5⟩ : ∃ w5, w5 = ((w4.setCell ⟨w.heap.size + 2, 0, none⟩ (.int .i64 s.1.1)).setCell ⟨w.heap.size + 2, 1, none⟩ (.slice P1 s.1.2.length d1)).setCell ⟨w.heap.size + 2, 2, none⟩ (.int .i64 s.2.1) := ⟨_, rfl⟩
  have s5 : w5.heap.size = w4.heap.size := by rw [hw5]; simp
  have u2 : Blk w5 (w.heap.size + 2) 46 #[.int .i64 s.1.1, .slice P1 s.1.2.length d1, .int .i64 s.2.1, .slice none 0 0, .slice none 0 0] := by
    rw [hw5]
    simpa using ((y2.set_ 0 (.int .i64 s.1.1)).set_ 1 (.slice P1 s.1.2.length d1)).set_ 2 (.int .i64 s.2.1)
  have u1 : Blk w5 (w.heap.size + 1) 46 #[.int .i64 0, .slice none 0 0, .int .i64 0, .slice none 0 0, .slice none 0 0] := by rw [hw5]; exact ((y1.far (by simp) _).far (by simp) _).far (by simp) _
  have u0 : Blk w5 w.heap.size 42 #[.int .i64 s.1.1, .slice A1 s.1.2.length c1, .int .i64 s.2.1, .slice A2 s.2.2.1.length c2, .slice A3 s.2.2.2.length c3] := by rw [hw5]; exact ((y0.far (by simp) _).far (by simp) _).far (by simp) _
  have B5 : Below w.heap.size w w5 := by rw [hw5]; exact (((bthen B3 hb).setCell (by simp) _).setCell (by simp) _).setCell (by simp) _
  have O5 : OwnInts w5 w3.heap.size w4.heap.size (.slice P1 s.1.2.length d1) s.1.2 := by rw [hw5]; exact ((o1.farS (by simp [s3]) _).farS (by simp [s3]) _).farS (by simp [s3]) _
  rw [← hw5]
  clear hw5 q0 q1 q2 f0 f1 f2 p2 p3 y0 y1 y2 x0 x1 x2 o1
  refine (toIntS_any _ s.2.2.1 _ (H2.out.on B5) (by omega)).mono ?_
  rintro e w6 ⟨P2, d2, rfl, o2, hb6⟩
  have v0 := u0.below hb6 u0.lt
  have v1 := u1.below hb6 u1.lt
  have v2 := u2.below hb6 u2.lt
  have B6 := bthen B5 hb6
  have s6 := hb6.size
  have O6 := O5.below hb6 (by omega)
  have q3 : w6.cell? ⟨w.heap.size + 2, 3, none⟩ = some (.slice none 0 0) := v2.cell 3
  have f3 := v2.frozen 3
  have p4 : w6.cell? ⟨w.heap.size, 4, none⟩ = some (.slice A3 s.2.2.2.length c3) := v0.cell 4
  go_wp2_with (fail)
  obtain ⟨w7, hw7⟩ : ∃ w7, w7 = w6.setCell ⟨w.heap.size + 2, 3, none⟩ (.slice P2 s.2.2.1.length d2) := ⟨_, rfl⟩
  have s7 : w7.heap.size = w6.heap.size := by rw [hw7]; simp
  have z2 : Blk w7 (w.heap.size + 2) 46 #[.int .i64 s.1.1, .slice P1 s.1.2.length d1, .int .i64 s.2.1, .slice P2 s.2.2.1.length d2, .slice none 0 0] := by
    rw [hw7]
    simpa using v2.set_ 3 (.slice P2 s.2.2.1.length d2)
  have z1 : Blk w7 (w.heap.size + 1) 46 #[.int .i64 0, .slice none 0 0, .int .i64 0, .slice none 0 0, .slice none 0 0] := by rw [hw7]; exact v1.far (by simp) _
  have B7 : Below w.heap.size w w7 := by rw [hw7]; exact B6.setCell (by simp) _
  have O7 : OwnInts w7 w3.heap.size w4.heap.size (.slice P1 s.1.2.length d1) s.1.2 := by rw [hw7]; exact O6.farS (by simp [s3]) _
  have R7 : OwnInts w7 w5.heap.size w6.heap.size (.slice P2 s.2.2.1.length d2) s.2.2.1 := by rw [hw7]; exact o2.farS (by simp; omega) _
  rw [← hw7]
  clear hw7 q3 f3 p4 u0 u1 u2 v0 v1 v2 O5 O6 o2 B6
  refine (toIntS_any _ s.2.2.2 _ (H3.out.on B7) (by omega)).mono ?_
  rintro e w8 ⟨P3, d3, rfl, o3, hb8⟩
  have t1 := z1.below hb8 z1.lt
  have t2 := z2.below hb8 z2.lt
  have B8 := bthen B7 hb8
  have s8 := hb8.size
  have O8 := O7.below hb8 (by omega)
  have R8 := R7.below hb8 (by omega)
  have b10 : w8.cell? ⟨w.heap.size + 1, 0, none⟩ = some (.int .i64 0) := t1.cell 0
  have b11 : w8.cell? ⟨w.heap.size + 1, 1, none⟩ = some (.slice none 0 0) := t1.cell 1
  have b12 : w8.cell? ⟨w.heap.size + 1, 2, none⟩ = some (.int .i64 0) := t1.cell 2
  have b13 : w8.cell? ⟨w.heap.size + 1, 3, none⟩ = some (.slice none 0 0) := t1.cell 3
  have b14 : w8.cell? ⟨w.heap.size + 1, 4, none⟩ = some (.slice none 0 0) := t1.cell 4
  have b20 : w8.cell? ⟨w.heap.size + 2, 0, none⟩ = some (.int .i64 s.1.1) := t2.cell 0
  have b21 : w8.cell? ⟨w.heap.size + 2, 1, none⟩ = some (.slice P1 s.1.2.length d1) := t2.cell 1
  have b22 : w8.cell? ⟨w.heap.size + 2, 2, none⟩ = some (.int .i64 s.2.1) := t2.cell 2
  have b23 : w8.cell? ⟨w.heap.size + 2, 3, none⟩ = some (.slice P2 s.2.2.1.length d2) := t2.cell 3
  have b24 : w8.cell? ⟨w.heap.size + 2, 4, none⟩ = some (.slice none 0 0) := t2.cell 4
  have f10 := t1.frozen 0
  have f11 := t1.frozen 1
  have f12 := t1.frozen 2
  have f13 := t1.frozen 3
  have f14 := t1.frozen 4
  have f24 := t2.frozen 4
  clear z1 z2 O7 R7
  go_wp2_with (fail)
  refine bodyPost_ret (v := .agg #[.int .i64 s.1.1, .slice P1 s.1.2.length d1, .int .i64 s.2.1, .slice P2 s.2.2.1.length d2, .slice P3 s.2.2.2.length d3]) (by simp [results, Try.results22, go_sem, b10, b11, b12, b13, b14]) rfl ⟨_, _, _, _, _, _, w4.heap.size, w6.heap.size, rfl, ⟨by omega, by omega, by simp; omega⟩, ?_, ?_, ?_, ?_⟩
  · refine OwnInts.mono (lo := w3.heap.size) (hi := w4.heap.size) ?_ (by omega) (Nat.le_refl _)
    repeat (first | with_reducible exact O8 | refine OwnInts.farS ?_ (by simp [s3]) _)
  · refine OwnInts.mono (lo := w5.heap.size) (hi := w6.heap.size) ?_ (by omega) (Nat.le_refl _)
    repeat (first | with_reducible exact R8 | refine OwnInts.farS ?_ (by simp; omega) _)
  · refine OwnInts.mono (lo := w7.heap.size) (hi := w8.heap.size) ?_ (by omega) (by simp)
    repeat (first | with_reducible exact o3 | refine OwnInts.farS ?_ (by simp; omega) _)
  · repeat (first | with_reducible exact B8 | refine Below.setCell ?_ (by first | (simp; done) | (simp; omega)) _)

set_option maxHeartbeats 1000000 in
set_option maxRecDepth 100000 in
theorem toStepS_any (v : Value) (ss : List LStep) (w : World) (h : RdSteps w w.heap.size v ss) (hl : ss.length ≤ 1048576) (hn : totS ss ≤ 1048576) :
    Calls Try.prog 8 #[v] w fun e w' => ∃ A' c', e = .returned (.slice A' ss.length c') ∧ OwnSteps w' w.heap.size w'.heap.size (.slice A' ss.length c') ss ∧ Below w.heap.size w w' := by
  obtain ⟨i0, hi0, hz0, hz1, hz2⟩ := info_parts Try.infoStep
  have hmk := fun W => run_make_rowN (P := Try.prog) 25 46 i0 (.agg #[.int .i64 0, .slice none 0 0, .int .i64 0, .slice none 0 0, .slice none 0 0]) Try.underlying25 hi0 hz0 .i64 .i64 ss.length ss.length (Nat.le_refl _) (by rw [hz2]; omega) (by omega) W
  rw [hz1] at hmk
  simp only [Value.cells] at hmk
  have H := Lib.hid h
  obtain ⟨A, c, rfl, hc, _⟩ := h
  go_enter Try.func8, Try.ntmps8
  go_wp2_with (fail)
  go_loopw [4] (fun i wr => ∃ (k : Nat) (av : List Value), k ≤ ss.length ∧ i = .int .i64 k ∧ To5 w wr ss k av) (fun i _ => ss.length - (intOf i).toNat)
  case atStart => exact ⟨0, [], Nat.zero_le _, rfl, To5.start w ss⟩
  case round =>
    obtain ⟨k, av, hk, rfl, hr⟩ := hrel
    by_cases hlt : k < ss.length
    · obtain ⟨b, o, A1, c1, A2, c2, A3, c3, rfl, hbB, ⟨k0, k1, k2, k3, k4⟩, r1, r2, r3⟩ := (H.out.on hr.below).get hlt
      have HA := Lib.hid (And.intro r1 (And.intro r2 r3))
      clear r1 r2 r3
      have hln := szSt_le_totS ss k hlt
      go_wp2_with (fail)
      refine (toStep_any _ ss[k] _ ⟨_, _, _, rfl, HA.out.1, HA.out.2.1, HA.out.2.2⟩ (by omega)).mono ?_
      rintro e w4 ⟨P1, d1, P2, d2, P3, d3, m, n, rfl, hmn, o1, o2, o3, hb4⟩
      obtain ⟨⟨g0, g1, g2, g3, g4⟩, f0, f1, f2, f3, f4⟩ := hr.room hlt hb4
      have hstep := hr.step hlt hb4 hmn o1 o2 o3
      unfold set5 at hstep
      have HS := Lib.hid hstep
      clear hstep hmn o1 o2 o3
      go_wp2_with (fail)
      go_roundw
      case rel => exact ⟨k + 1, _, by omega, by go_num, HS.out⟩
      case measure => simp [intOf]; omega
    · have hkn : k = ss.length := by omega
      have HO := Lib.hid (show OwnSteps wr w.heap.size wr.heap.size (.slice (some ⟨w.heap.size, 0, none⟩) ss.length ss.length) ss from To5.done (by rw [hkn] at hr; exact hr) (by unfold maxLen; omega))
      have hbe := hr.below
      clear hkn hr
      go_wp2_with (fail)
      go_ret
      exact ⟨_, _, rfl, HO.out, hbe⟩

end Go.Proofs.Ytcoelmhlkfignaa
/-
  What comes in, opened: integers.
-/
namespace Go.Proofs.Ytcoelmhlkfignaa
open Go.ChangeShapes Go.WideShapes Go.ChangeAt Go.RowKit Go.Joins Go.Deep

theorem Try.own : ownKnob Try.prog.godebug = none := by kernel_rfl
theorem Try.laidOut : laidOutB Try.prog = true := by kernel_rfl
theorem Try.cells3 : Try.prog.cellsOf 3 = 1 := by kernel_rfl
theorem Try.cells38 : Try.prog.cellsOf 38 = 1 := by kernel_rfl

section
variable {H : Type} {enc : TypeId × Value → H} {W : World}

/-- What is known of a slice of integers that came in. -/
def InInts (W : World) (v : Value) (xs : List Int) : Prop := RdInts W W.heap.size v xs ∧ xs.length ≤ maxLen

/-- The cells of a slice of integers. -/
theorem open_inInts_cells {fuel : Nat} {v : Value} {x : DataW H × List MemPlace} (h : DataW.trod enc Try.prog W 0 (fun _ => true) true fuel 38 [v] = some x) : ∃ xs, InInts W v xs := by
  rcases open_ints Try.underlying38 Try.underlying3 Try.cells3 h with ⟨hcs, _⟩ | ⟨a, len, cap, zs, hcs, _, hl, hm, hz, _, hcell, _⟩
  · simp at hcs
    subst hcs
    exact ⟨[], ⟨none, 0, rfl, by simp, fun h => absurd h (by simp)⟩, by simp⟩
  · simp at hcs
    subst hcs
    simp at hz
    refine ⟨zs.take len, ⟨some a, cap, ?_, by simp; omega, fun hn => ?_⟩, by simp; omega⟩
    · congr 1
      simp
      omega
    · have hlen : (zs.take len).length = len := by simp; omega
      obtain ⟨b, o, rfl, hc⟩ := ints_at hcell (by omega)
      refine ⟨b, o, rfl, World.block_lt_of_cell? _ _ (hc 0 (by omega)), fun k hk => ?_⟩
      rw [hc k (by omega)]
      simp [show k < zs.length by omega]

set_option maxRecDepth 100000 in
theorem open_inInts {v : Value} {d : DataW H} {p : List MemPlace} {b0 : Nat} (hv : Value.okWide Try.prog W .any b0 38 v) (h : DataW.Trod enc Try.prog W 0 (fun _ => true) true 38 v d p) :
    ∃ xs, InInts W v xs := by
  obtain ⟨a, len, cap, rfl⟩ := okWide_slice Try.underlying38 hv
  obtain ⟨fuel, hf⟩ := h
  exact open_inInts_cells (by simpa [Value.cells] using hf)

/-- What is known of an int that came in. -/
def InInt (v : Value) (n : Int) : Prop := v = .int .i64 n ∧ -9223372036854775808 ≤ n ∧ n ≤ 9223372036854775807

set_option maxRecDepth 100000 in
theorem open_inInt {v : Value} {d : DataW H} {p : List MemPlace} {b0 : Nat} (hv : Value.okWide Try.prog W .any b0 3 v) (h : DataW.Trod enc Try.prog W 0 (fun _ => true) true 3 v d p) : ∃ n, InInt v n := by
  obtain ⟨n, rfl, _, _, hw⟩ := open_int Try.underlying3 hv h
  exact ⟨n, rfl, bounds_i64 hw⟩
end

end Go.Proofs.Ytcoelmhlkfignaa
/-
  What comes in, opened: steps.
-/
namespace Go.Proofs.Ytcoelmhlkfignaa
open Go.ChangeShapes Go.WideShapes Go.ChangeAt Go.RowKit Go.Joins Go.Deep

theorem Try.cellsS40 : Try.prog.cellsOf 40 = 2 := by kernel_rfl
theorem Try.cells42 : Try.prog.cellsOf 42 = 5 := by kernel_rfl

section
variable {H : Type} {enc : TypeId × Value → H} {P : Program} {w W : World} {base : Nat} {spare : Nat → Bool} {held : Bool}
theorem trod_struct4S {t : TypeId} {f0 f1 f2 f3 : Field} {fuel : Nat} {cs : List Value} {x : DataW H × List MemPlace} (ht : P.underlying t = some (.struct #[f0, f1, f2, f3])) (h : DataW.trod enc P w base spare held fuel t cs = some x) :
    ∃ y0 y1 y2 y3 n, cs.length = P.cellsOf t ∧ DataW.trod enc P w base spare held n f0.type ((cs.drop f0.offset).take (P.cellsOf f0.type)) = some y0 ∧
      DataW.trod enc P w base spare held n f1.type ((cs.drop f1.offset).take (P.cellsOf f1.type)) = some y1 ∧ DataW.trod enc P w base spare held n f2.type ((cs.drop f2.offset).take (P.cellsOf f2.type)) = some y2 ∧
      DataW.trod enc P w base spare held n f3.type ((cs.drop f3.offset).take (P.cellsOf f3.type)) = some y3 := by
  obtain ⟨xs, n, _, rfl, hl, hlen, hf⟩ := DataW.trod_struct ht h
  match xs, hlen with
  | [y0, y1, y2, y3], _ => exact ⟨y0, y1, y2, y3, n, hl, by simpa using hf 0 f0 rfl, by simpa using hf 1 f1 rfl, by simpa using hf 2 f2 rfl, by simpa using hf 3 f3 rfl⟩

set_option maxRecDepth 100000 in
theorem open_factS_cells {fuel : Nat} {v0 v1 : Value} {x : DataW H × List MemPlace} (h : DataW.trod enc Try.prog W 0 (fun _ => true) true fuel 40 [v0, v1] = some x) : ∃ f : LFact, v0 = .int .i64 f.1 ∧ InInts W v1 f.2 := by
  obtain ⟨y0, y1, n, _, _, h0, h1⟩ := trod_struct2 Try.underlying40 h
  rw [Try.cells3] at h0
  rw [Try.cells38] at h1
  obtain ⟨m, e0, _, _⟩ := DataW.trod_int Try.underlying3 h0
  obtain ⟨xs, hx⟩ := open_inInts_cells h1
  simp at e0
  exact ⟨(m, xs), e0, hx⟩

set_option maxRecDepth 100000 in
theorem open_step_cells {fuel : Nat} {v0 v1 v2 v3 v4 : Value} {x : DataW H × List MemPlace} (h : DataW.trod enc Try.prog W 0 (fun _ => true) true fuel 42 [v0, v1, v2, v3, v4] = some x) :
    ∃ s : LStep, (v0 = .int .i64 s.1.1 ∧ v2 = .int .i64 s.2.1) ∧ (RdInts W W.heap.size v1 s.1.2 ∧ RdInts W W.heap.size v3 s.2.2.1 ∧ RdInts W W.heap.size v4 s.2.2.2) ∧ stepFits s := by
  obtain ⟨y0, y1, y2, y3, n, _, h0, h1, h2, h3⟩ := trod_struct4S Try.underlying42 h
  rw [Try.cellsS40] at h0
  rw [Try.cells3] at h1
  rw [Try.cells38] at h2 h3
  obtain ⟨f, e0, hf⟩ := open_factS_cells (v0 := v0) (v1 := v1) h0
  obtain ⟨m, e1, _, _⟩ := DataW.trod_int Try.underlying3 h1
  obtain ⟨xs, hx⟩ := open_inInts_cells (v := v3) h2
  obtain ⟨ys, hy⟩ := open_inInts_cells (v := v4) h3
  simp at e1
  exact ⟨(f, m, xs, ys), ⟨e0, e1⟩, ⟨hf.1, hx.1, hy.1⟩, hf.2, hx.2, hy.2⟩

def InSteps (W : World) (v : Value) (ss : List LStep) : Prop := RdSteps W W.heap.size v ss ∧ ss.length ≤ maxLen ∧ ∀ k (h : k < ss.length), stepFits ss[k]

set_option maxRecDepth 100000 in
theorem open_inSteps {v : Value} {d : DataW H} {p : List MemPlace} {b0 : Nat} (hv : Value.okWide Try.prog W .any b0 22 v) (h : DataW.Trod enc Try.prog W 0 (fun _ => true) true 22 v d p) :
    ∃ ss, InSteps W v ss := by
  obtain ⟨a, len, cap, rfl⟩ := okWide_slice Try.underlying22 hv
  obtain ⟨fuel, h⟩ := h
  rcases open_slice Try.underlying22 h with ⟨hcs, _⟩ | ⟨a', len', cap', m, n, D, Pl, hcs, _, hl, hm, hmm, _, hx⟩
  · simp [Value.cells] at hcs
    obtain ⟨rfl, rfl, rfl⟩ := hcs
    exact ⟨[], ⟨none, 0, rfl, by simp, fun h => absurd h (by simp)⟩, by simp, fun k h => absurd h (by simp)⟩
  · simp [Value.cells] at hcs
    obtain ⟨rfl, rfl, rfl⟩ := hcs
    simp at hmm
    subst hmm
    rw [Try.cells42] at hx
    obtain ⟨F, hF⟩ := choose_lt (α := Value × Value × Value × LStep) (n := m) (p := fun i q => (W.cell? (a'.add (i * 5)) = some (.int .i64 q.2.2.2.1.1) ∧ W.cell? (a'.add (i * 5 + 1)) = some q.1 ∧ W.cell? (a'.add (i * 5 + 2)) = some (.int .i64 q.2.2.2.2.1) ∧
        W.cell? (a'.add (i * 5 + 3)) = some q.2.1 ∧ W.cell? (a'.add (i * 5 + 4)) = some q.2.2.1) ∧ (RdInts W W.heap.size q.1 q.2.2.2.1.2 ∧ RdInts W W.heap.size q.2.1 q.2.2.2.2.2.1 ∧ RdInts W W.heap.size q.2.2.1 q.2.2.2.2.2.2) ∧ stepFits q.2.2.2) (fun i hi => by
      obtain ⟨cs', h1, h2⟩ := hx i hi
      obtain ⟨_, hlen, hcell⟩ := World.cells?_some h1
      match cs', hlen with
      | [v0, v1, v2, v3, v4], _ =>
        have e0 := hcell 0 (by omega)
        have e1 := hcell 1 (by omega)
        have e2 := hcell 2 (by omega)
        have e3 := hcell 3 (by omega)
        have e4 := hcell 4 (by omega)
        rw [add_add] at e0 e1 e2 e3 e4
        obtain ⟨s, ⟨rfl, rfl⟩, hy, hn⟩ := open_step_cells h2
        exact ⟨(v1, v3, v4, s), ⟨by simpa using e0, by simpa using e1, by simpa using e2, by simpa using e3, by simpa using e4⟩, hy, hn⟩)
    refine ⟨(List.range len).map fun i => (F i).2.2.2, ⟨some a', m, by simp, by simpa using hl, fun hn => ?_⟩, by simp; omega, fun k hk => ?_⟩
    · simp at hn
      obtain ⟨b, off, spot⟩ := a'
      have hspot : spot = none := by simpa [Addr.add] using World.cell?_spot (hF 0 (by omega)).1.1
      subst hspot
      have hb : b < W.heap.size := by simpa [Addr.add] using World.block_lt_of_cell? _ _ (hF 0 (by omega)).1.1
      refine ⟨b, off, rfl, hb, fun k hk => ?_⟩
      simp at hk
      obtain ⟨⟨c0, c1, c2, c3, c4⟩, ⟨r1, r2, r3⟩, _⟩ := hF k (by omega)
      rw [Go.WideShapes.add_plain] at c0 c1 c2 c3 c4
      exact ⟨_, _, _, by simpa using c0, by simpa [Nat.add_assoc] using c1, by simpa [Nat.add_assoc] using c2, by simpa [Nat.add_assoc] using c3, by simpa [Nat.add_assoc] using c4, by simpa using r1, by simpa using r2, by simpa using r3⟩
    · simp at hk ⊢
      exact (hF k (by omega)).2.2
end

end Go.Proofs.Ytcoelmhlkfignaa
/-
  Marks and sizes of lists of facts, in the one form that the laws' walks ask.
-/
namespace Go.Proofs.Ytcoelmhlkfignaa
open Go.RowKit

def szF (fs : List LFact) : Nat := fs.length + tot fs
/-- The marks from k on stand in a row of facts, and end at z. -/
def HdFacts (w : World) (lo hi : Nat) (v : Value) (fs : List LFact) (k z : Int) : Prop := OwnFacts w lo hi v (markF k fs) ∧ z = endF k fs ∧ 0 ≤ k ∧ k ≤ 4294967296 ∧ szF fs ≤ 1073741824
theorem HdFacts.below {w w' : World} {lo hi B : Nat} {v : Value} {fs : List LFact} {k z : Int} (h : HdFacts w lo hi v fs k z) (hb : Below B w w') (hB : hi ≤ B) : HdFacts w' lo hi v fs k z := ⟨h.1.below hb hB, h.2⟩
theorem HdFacts.only {w w' : World} {lo hi lo' hi' : Nat} {v : Value} {fs : List LFact} {k z : Int} (h : HdFacts w lo hi v fs k z) (ho : Only lo' hi' w w') (hd : hi ≤ lo' ∨ hi' ≤ lo) : HdFacts w' lo hi v fs k z := ⟨h.1.only ho hd, h.2⟩

theorem um_facts {v : Value} {fs : List LFact} {lo hi : Nat} {w : World} (k : Int) (h : OwnFacts w lo hi v fs) (hk0 : 0 ≤ k) (hk : k ≤ 4294967296) (hs : szF fs ≤ 1073741824) :
    Calls Try.prog 15 #[v, .int .i64 k] w fun e w' => ∃ z, e = .returned (.int .i64 z) ∧ k ≤ z ∧ z ≤ k + szF fs ∧ HdFacts w' lo hi v fs k z ∧ Only lo hi w w' :=
  (markFactS_any v fs k lo hi w h hk0 hk (by unfold szF at hs; omega) (by unfold szF at hs; omega)).mono fun _ _ ⟨he, ho, hg⟩ =>
    ⟨_, he, by unfold endF; omega, by unfold endF szF; omega, ⟨ho, rfl, hk0, hk, hs⟩, hg⟩

theorem uh_facts {v : Value} {fs : List LFact} {lo hi : Nat} {w : World} {k z : Int} (h : HdFacts w lo hi v fs k z) (hh : hi ≤ w.heap.size) :
    Calls Try.prog 16 #[v, .int .i64 k] w fun e w' => e = .returned (.int .i64 z) ∧ Below w.heap.size w w' := by
  have hs := h.2.2.2.2
  unfold szF at hs
  exact (heldFactS_any v fs k w (h.1.rd.more hh) h.2.2.1 h.2.2.2.1 (by omega) (by omega)).mono fun _ _ ⟨he, hw⟩ => ⟨by rw [he, h.2.1], hw ▸ Below.refl _ _⟩

end Go.Proofs.Ytcoelmhlkfignaa
/-
  The walk of the law on ProofUses (written by wip/genlaw.py).
-/
namespace Go.Proofs.Ytcoelmhlkfignaa
open Go.RowKit

set_option maxHeartbeats 4000000 in
set_option maxRecDepth 100000 in
theorem lawProofUses_any (v0 : Value) (ss : List LStep) (w : World) (h0 : RdSteps w w.heap.size v0 ss) (n0 : ss.length ≤ maxLen) (m0 : ∀ k (h : k < ss.length), stepFits ss[k]) :
    Calls Try.prog 4 #[v0] w fun e w' => e = .returned (.bool true) ∧ Below w.heap.size w w' := by
  have H0 := Lib.hid h0
  obtain ⟨A0, c0, rfl, hc0, _⟩ := h0
  go_enter Try.func4, Try.ntmps4
  go_wp2_with (fail)
  refine (us_steps H0.out (by omega) (by omega) n0 m0).mono ?_
  rintro e w1 ⟨z0, rfl, hz0, hbz0⟩
  have s_w1 := hbz0.size
  have B_w1 := hbz0
  rcases hz0 with rfl | ⟨zp0, zs0⟩
  · go_wp2_with (fail)
    go_ret
    exact ⟨rfl, B_w1⟩
  have zn0 : ¬ z0 < 0 := by omega
  have r0 : (ss.length + totS ss) ≤ 1048576 := by omega
  have zl0 : z0 ≤ 1048576 := by omega
  have ZS0 := Lib.hid zs0
  clear zs0 zn0
  have zn0 : ¬ z0 < 0 := by omega
  obtain ⟨R0, hR0⟩ : ∃ R, R = usesL ss := ⟨_, rfl⟩
  have HR0 := Lib.hid hR0
  have rs0 : szSS ss ≤ 2097152 := by unfold szSS; omega
  have HRs0 := Lib.hid (show szF R0 ≤ 1048576 by rw [hR0]; have := usesL_bound ss ss.length; rw [List.take_length] at this; unfold szF usesL; omega)
  clear hR0
  go_wp2_with (fail)
  refine (toStepS_any _ ss _ (H0.out.on B_w1) (by omega) (by omega)).mono ?_
  rintro e w2 ⟨P1, d1, rfl, o1, hb1⟩
  have s_w2 := hb1.size
  have B_w2 := bthen B_w1 hb1
  go_wp2_with (fail)
  refine (specProofUses_any _ ss _ (o1.rd.more (by omega)) (by omega) (by omega)).mono ?_
  rw [← HR0.out]
  rintro e w3 ⟨Q2_0, f2_0, rfl, o2_0, hb2⟩
  have s_w3 := hb2.size
  have tw0_3 := o1.below hb2 (by omega)
  clear o1
  have B_w3 := bthen B_w2 hb2
  go_wp2_with (fail)
  refine (toStepS_any _ ss _ (H0.out.on B_w3) (by omega) (by omega)).mono ?_
  rintro e w4 ⟨P3, d3, rfl, o3, hb3⟩
  have s_w4 := hb3.size
  have w0_4 := o2_0.below hb3 (by omega)
  clear o2_0
  have B_w4 := bthen B_w3 hb3
  go_wp2_with (fail)
  refine (implProofUses_any _ ss _ (o3.rd.more (by omega)) (by omega) (by omega)).mono ?_
  rw [← HR0.out]
  rintro e w5 ⟨Q4_0, f4_0, rfl, o4_0, hb4⟩
  have s_w5 := hb4.size
  have w0_5 := w0_4.below hb4 (by omega)
  clear w0_4
  have x0_5 := o3.below hb4 (by omega)
  clear o3
  have B_w5 := bthen B_w4 hb4
  go_wp2_with (fail)
  refine (eqFactS_any _ _ R0 R0 _ (o4_0.rd.more (by omega)) (w0_5.rd.more (by omega)) (by have := HRs0.out; unfold szF at this; omega) (by have := HRs0.out; unfold szF at this; omega) (by have := HRs0.out; unfold szF at this; omega) (by have := HRs0.out; unfold szF at this; omega)).mono ?_
  rintro e w6 ⟨rfl, hb5⟩
  rw [show decide (R0 = R0) = true by simp]
  have s_w6 := hb5.size
  have w0_6 := w0_5.below hb5 (by omega)
  clear w0_5
  have x0_6 := x0_5.below hb5 (by omega)
  clear x0_5
  have g0_6 := o4_0.below hb5 (by omega)
  clear o4_0
  have B_w6 := bthen B_w5 hb5
  go_wp2_with (fail)
  refine (toStepS_any _ ss _ (H0.out.on B_w6) (by omega) (by omega)).mono ?_
  rintro e w7 ⟨P6, d6, rfl, o6, hb6⟩
  have s_w7 := hb6.size
  have w0_7 := w0_6.below hb6 (by omega)
  clear w0_6
  have x0_7 := x0_6.below hb6 (by omega)
  clear x0_6
  have g0_7 := g0_6.below hb6 (by omega)
  clear g0_6
  have B_w7 := bthen B_w6 hb6
  go_wp2_with (fail)
  refine (eqStepS_any _ _ ss ss _ (x0_7.rd.more (by omega)) (o6.rd.more (by omega)) (by omega) (by omega) (by omega) (by omega)).mono ?_
  rintro e w8 ⟨rfl, hb7⟩
  rw [show decide (ss = ss) = true by simp]
  have s_w8 := hb7.size
  have w0_8 := w0_7.below hb7 (by omega)
  clear w0_7
  have x0_8 := x0_7.below hb7 (by omega)
  clear x0_7
  have g0_8 := g0_7.below hb7 (by omega)
  clear g0_7
  have B_w8 := bthen B_w7 hb7
  go_wp2_with (fail)
  refine (um_steps 1 x0_8 (by omega) (by omega) (by omega)).mono ?_
  rintro e w9 ⟨k8, rfl, ka8, kb8, _, on8⟩
  have s_w9 := on8.size
  have w0_9 := w0_8.only on8 (by first | exact .inl (by omega) | exact .inr (by omega))
  clear w0_8
  have g0_9 := g0_8.only on8 (by first | exact .inl (by omega) | exact .inr (by omega))
  clear g0_8
  have B_w9 := Only.then_ B_w8 on8 (by omega)
  have kn : ¬ k8 < 0 := by omega
  have kd : decide (k8 < 0) = false := by simp; omega
  go_wp2_with (fail)
  refine (eqFactS_any _ _ R0 R0 _ (g0_9.rd.more (by omega)) (w0_9.rd.more (by omega)) (by have := HRs0.out; unfold szF at this; omega) (by have := HRs0.out; unfold szF at this; omega) (by have := HRs0.out; unfold szF at this; omega) (by have := HRs0.out; unfold szF at this; omega)).mono ?_
  rintro e w10 ⟨rfl, hb9⟩
  rw [show decide (R0 = R0) = true by simp]
  have s_w10 := hb9.size
  have w0_10 := w0_9.below hb9 (by omega)
  clear w0_9
  have g0_10 := g0_9.below hb9 (by omega)
  clear g0_9
  have B_w10 := bthen B_w9 hb9
  go_wp2_with (fail)
  refine (um_facts 1 g0_10 (by omega) (by omega) (by have := HRs0.out; omega)).mono ?_
  rintro e w11 ⟨m10, rfl, ma10, mb10, hd10, on10⟩
  have mb10' := HRs0.out
  have s_w11 := on10.size
  have w0_11 := w0_10.only on10 (by first | exact .inl (by omega) | exact .inr (by omega))
  clear w0_10
  have B_w11 := Only.then_ B_w10 on10 (by omega)
  have mn : ¬ m10 < 0 := by omega
  have me : (m10 != m10) = false := by simp
  go_wp2_with (fail)
  refine (uh_facts hd10 (by omega)).mono ?_
  rintro e w12 ⟨rfl, hb11⟩
  have s_w12 := hb11.size
  have w0_12 := w0_11.below hb11 (by omega)
  clear w0_11
  have d0_12 := hd10.below hb11 (by omega)
  clear hd10
  have B_w12 := bthen B_w11 hb11
  go_wp2_with (fail)
  refine (toStepS_any _ ss _ (H0.out.on B_w12) (by omega) (by omega)).mono ?_
  rintro e w13 ⟨P12, d12, rfl, o12, hb12⟩
  have s_w13 := hb12.size
  have w0_13 := w0_12.below hb12 (by omega)
  clear w0_12
  have d0_13 := d0_12.below hb12 (by omega)
  clear d0_12
  have B_w13 := bthen B_w12 hb12
  go_wp2_with (fail)
  refine (implProofUses_any _ ss _ (o12.rd.more (by omega)) (by omega) (by omega)).mono ?_
  rw [← HR0.out]
  rintro e w14 ⟨Q13_0, f13_0, rfl, o13_0, hb13⟩
  have s_w14 := hb13.size
  have w0_14 := w0_13.below hb13 (by omega)
  clear w0_13
  have d0_14 := d0_13.below hb13 (by omega)
  clear d0_13
  have th0_14 := o12.below hb13 (by omega)
  clear o12
  have B_w14 := bthen B_w13 hb13
  go_wp2_with (fail)
  refine (eqFactS_any _ _ R0 R0 _ (o13_0.rd.more (by omega)) (w0_14.rd.more (by omega)) (by have := HRs0.out; unfold szF at this; omega) (by have := HRs0.out; unfold szF at this; omega) (by have := HRs0.out; unfold szF at this; omega) (by have := HRs0.out; unfold szF at this; omega)).mono ?_
  rintro e w15 ⟨rfl, hb14⟩
  rw [show decide (R0 = R0) = true by simp]
  have s_w15 := hb14.size
  have w0_15 := w0_14.below hb14 (by omega)
  clear w0_14
  have d0_15 := d0_14.below hb14 (by omega)
  clear d0_14
  have h0_15 := o13_0.below hb14 (by omega)
  clear o13_0
  have B_w15 := bthen B_w14 hb14
  go_wp2_with (fail)
  refine (uh_facts d0_15 (by omega)).mono ?_
  rintro e w16 ⟨rfl, hb15⟩
  have s_w16 := hb15.size
  have w0_16 := w0_15.below hb15 (by omega)
  clear w0_15
  have d0_16 := d0_15.below hb15 (by omega)
  clear d0_15
  have h0_16 := h0_15.below hb15 (by omega)
  clear h0_15
  have B_w16 := bthen B_w15 hb15
  go_wp2_with (fail)
  go_ret
  exact ⟨rfl, B_w16⟩

theorem lawProofUses_in (v0 : Value) (ss : List LStep) (w : World) (h0 : InSteps w v0 ss) : Calls Try.prog 4 #[v0] w fun e w' => e = .returned (.bool true) ∧ Below w.heap.size w w' :=
  lawProofUses_any v0 ss w h0.1 h0.2.1 h0.2.2

end Go.Proofs.Ytcoelmhlkfignaa
namespace Go.Proofs.Ytcoelmhlkfignaa
open Go.ChangeShapes Go.WideShapes Go.ChangeAt Go.RowKit

set_option maxRecDepth 100000 in
theorem fnExactProofUses_lifted (os : Os) (started : os.Started) (H : Type) (enc : TypeId × Value → H) :
    ReturnsInHanded {} Try.checked os 4 .any (Rows.fnExactProofUsesSpec.pre6 enc Try.prog Try.f4 Rows.fnExactProofUsesRow.domain false) (Rows.fnExactProofUsesSpec.post enc Try.prog Try.f4 false true false false) := by
  refine returnsInHanded_of_change (C := Try.checked) Try.own started (by kernel_rfl) Try.func4
    (ChangeSpec.witness6 (enc := enc) (C := Try.checked) false ⟨#[], #[.slice none 0 0], []⟩ 8 (by kernel_rfl) (by kernel_rfl) (by kernel_rfl) (by kernel_rfl)) ?_
  intro W base args ds gs before hval0 hW hcnd _
  have hval : ∀ (j : Nat) t v, Try.f4.params[j]? = some t → args[j]? = some v → Value.okWide Try.prog W .any base t v := hval0
  have hW' := hW
  obtain ⟨p, q, hA0, hV, rfl, hfz, hnd⟩ := hW
  have hA : DataW.TrodAll enc Try.prog W 0 (fun _ => true) true Try.f4.params.toList args.toList ds p := hA0
  rw [Try.params4] at hA hval
  obtain ⟨v0, vs0, d0, ds0, p0, q0, hargs, rfl, rfl, h0, r0⟩ := trodAll_cons hA
  obtain ⟨rfl, rfl, rfl⟩ := trodAll_nil r0
  obtain rfl : args = #[v0] := by cases args; simp_all
  obtain ⟨rfl, rfl⟩ := trodVars_none hV
  have lt0 : ∀ x ∈ p0, x.block < W.heap.size := by obtain ⟨m, hm⟩ := h0; exact DataW.trod_lt m _ _ _ hm
  obtain ⟨x0, w0⟩ := open_inSteps (hval 0 22 v0 rfl rfl) h0
  clear hA0 hval0
  refine (lawProofUses_in v0 x0 W w0).mono fun e W' ⟨he, bel⟩ => ?_
  subst he
  exact ⟨_, rfl, _, _, _, [], _, [], hW', trodAll_mk1 (shut_bool Try.underlying4 _), (trodAll_cons_mk (Below.trod Try.laidOut (by kernel_rfl) (of_decide_eq_true (by kernel_rfl)) h0 bel lt0) trodAll_mk0), rfl, bel.frame _, fun h => by cases h⟩

theorem fnExactProofUses_holds : Rows.FnExactProofUsesSaid :=
  OpenClaim.holds_of_wide 4 Try.f4 rfl rfl rfl rfl rfl rfl rfl ⟨rfl, rfl, rfl, rfl, rfl⟩ rfl rfl rfl rfl rfl (by kernel_rfl) Try.func4 (by kernel_rfl)
    (of_decide_eq_true (by kernel_rfl)) (by unfold Func.isWrapper; rw [if_neg (of_decide_eq_false (by kernel_rfl))]; exact ⟨rfl, rfl⟩)
    (fun os started H enc _ => fnExactProofUses_lifted os started H enc)

end Go.Proofs.Ytcoelmhlkfignaa
