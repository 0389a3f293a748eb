/-
  Texts that the claim's last one imports, laid together: part 7 of 8. No condition of its own.
-/
import Derived.Deep.RegionLaw
import Derived.Deep.DeepCutAuto
import Derived.Test.YtofkcmihcgmmpaaChecked
import Derived.Deep.SlicePairs
import Derived.ProofKit
import Derived.OpenShut
import Derived.ChangeOld
import Derived.WalkKit
import Derived.Deep.Slices
import Derived.Deep.Fields
import Derived.ChangeSame
import Derived.Lib.SmallJoins
import Derived.KernelRfl
import Derived.Test.YtofkcmihcgmmpaaMHo1
import Derived.Test.YtofkcmihcgmmpaaMHo2
import Derived.Test.YtofkcmihcgmmpaaMHo3
import Derived.Test.YtofkcmihcgmmpaaMHo4
import Derived.Test.YtofkcmihcgmmpaaMHo5
import Derived.Test.YtofkcmihcgmmpaaMHo6
/-
  The walk of DrawMatch.
-/
namespace Go.Proofs.Ytofkcmihcgmmpaa
open Go.RowKit

theorem RdBytes.onM {w w' : World} {v : Value} {bs : List Nat} (h : RdBytes w w.heap.size v bs) (hb : Below w.heap.size w w') : RdBytes w' w'.heap.size v bs := by
  obtain ⟨A, c, rfl, hc, hx⟩ := h.off (w' := w') (fun k hk => hb.block k hk)
  refine ⟨A, c, rfl, hc, fun hn => ?_⟩
  obtain ⟨b, o, rfl, hlt, hk⟩ := hx hn
  exact ⟨b, o, rfl, by have := hb.size; omega, hk⟩

/-- What the loop of DrawMatch keeps: bf is the fact's block, its arguments lie from base on, g is the reader. -/
structure DrM2 (w w0 wr : World) (g bf base : Nat) (bs : List Nat) (q : Nat) (p : Int) (A : Option Addr) (c : Nat) (zs : List Int) : Prop where
  keep : ∀ b, b < base → b ≠ bf → b ≠ g → wr.heap[b]? = w0.heap[b]?
  fact : Blk wr bf 34 #[.int .i64 p, .slice A zs.length c]
  own : wr.ownsRow base 3 1 (.slice A zs.length c) zs.length (zs.map (Value.int .i64))
  rdr : Rdr wr g bs q
  below : Below w.heap.size w wr
  size : base ≤ wr.heap.size
section
variable {w w0 wr w' w4 : World} {g bf base q : Nat} {bs : List Nat} {p : Int} {A : Option Addr} {c : Nat} {zs : List Int}
theorem DrM2.pick (h : DrM2 w w0 wr g bf base bs q p A c zs) (hg : g < base) (hb : bf < base) (hne : bf ≠ g) (hw : w.heap.size ≤ g) (hk : Picked wr w' g bs q) : DrM2 w w0 w' g bf base bs (q + 1) p A c zs :=
  ⟨fun b h1 h2 h3 => (hk.2.block b (Nat.lt_of_lt_of_le h1 h.size) (by omega)).trans (h.keep b h1 h2 h3), h.fact.only hk.2 (by omega), ownsRow_only h.own (fun b hb' => hk.2.block b (h.own.lt b hb').2 (by have := (h.own.lt b hb').1; omega)),
    hk.1, Only.then_ h.below hk.2 hw, Nat.le_trans h.size hk.2.size⟩
theorem DrM2.alloc (h : DrM2 w w0 wr g bf base bs q p A c zs) (o : Obj) : DrM2 w w0 (wr.alloc o) g bf base bs q p A c zs :=
  ⟨fun b h1 h2 h3 => (Below.heap_alloc wr o b (Nat.lt_of_lt_of_le h1 h.size)).trans (h.keep b h1 h2 h3), h.fact.alloc o, h.own.alloc o, h.rdr.below (below1 wr o) h.rdr.lt, bthen h.below (below1 wr o), by have := h.size; simp; omega⟩
theorem DrM2.push (h : DrM2 w w0 wr g bf base bs q p A c zs) (hg : g < base) (hb : bf < base) (hgb : g < bf) (hw : w.heap.size ≤ bf) (hgr : wr.grownBy w4 (Value.slice A zs.length c).ownBlock) {g2 cap : Nat} {x : Int}
    (hown : w4.ownsRow base 3 1 (.slice (some ⟨g2, 0, none⟩) (zs.length + 1) cap) (zs.length + 1) (zs.map (Value.int .i64) ++ [.int .i64 x])) :
    DrM2 w w0 (w4.setCell ⟨bf, 1, none⟩ (.slice (some ⟨g2, 0, none⟩) (zs.length + 1) cap)) g bf base bs q p (some ⟨g2, 0, none⟩) cap (zs ++ [x]) := by
  have hlow : ∀ b, b < base → w4.heap[b]? = wr.heap[b]? := fun b hb' => hgr.block b (Nat.lt_of_lt_of_le hb' h.size) (fun e => by have := (h.own.lt b e.symm).1; omega)
  have hset : ∀ b, b ≠ bf → (w4.setCell ⟨bf, 1, none⟩ (.slice (some ⟨g2, 0, none⟩) (zs.length + 1) cap)).heap[b]? = w4.heap[b]? := fun b hb' => Below.heap_setCell _ _ _ _ hb'
  have hl : (zs ++ [x]).length = zs.length + 1 := by simp
  refine ⟨fun b h1 h2 h3 => (hset b h2).trans ((hlow b h1).trans (h.keep b h1 h2 h3)), ?_, ?_, ?_, ?_, Nat.le_trans h.size (Nat.le_trans hgr.size (by simp))⟩
  · have := (show Blk w4 bf 34 _ from (hlow bf hb).trans h.fact).set_ 1 (.slice (some ⟨g2, 0, none⟩) (zs.length + 1) cap)
    rw [hl]
    simpa using this
  · rw [hl]
    have := ownsRow_only hown (fun b hb' => hset b (by have := (hown.lt b hb').1; omega))
    simpa using this
  · exact h.rdr.same fun k hk => (hset k (by omega)).trans (hlow k (by omega))
  · exact (h.below.trans ⟨hgr.os, hgr.tape, hgr.output, hgr.size, fun k hk => hlow k (by omega)⟩).setCell hw _
theorem DrM2.keepFact (h : DrM2 w w0 wr g bf base bs q p A c zs) (hb : bf < base) (hgr : wr.grownBy w4 (Value.slice A zs.length c).ownBlock) : Blk w4 bf 34 #[.int .i64 p, .slice A zs.length c] :=
  (hgr.block bf h.fact.lt (fun e => by have := (h.own.lt bf e.symm).1; omega)).trans h.fact
theorem DrM2.old {lo hi : Nat} {v : Value} {xs : List Int} (h : DrM2 w w0 wr g bf base bs q p A c zs) (ho : OwnInts w0 lo hi v xs) (h1 : g < lo) (h2 : hi ≤ bf ∨ bf < lo) (h3 : hi ≤ base) : OwnInts wr lo hi v xs :=
  ho.kept fun b hb => by
    have := ho.lt hb
    exact h.keep b (by omega) (by omega) (by omega)
theorem DrM2.ints (h : DrM2 w w0 wr g bf base bs q p A c zs) : OwnInts wr base wr.heap.size (.slice A zs.length c) zs := ⟨h.own, fun b hb => (h.own.lt b hb).2⟩
end

/-- What the two results' stores leave. -/
theorem matchDone {w W : World} {ra rb lo hi : Nat} {ta tb : TypeId} {a f : LFact} {va vf vb : Value} {ys : List Int} (RA : Blk W ra ta #[.int .i64 0, .slice none 0 0]) (RB : Blk W rb tb #[.int .i64 0, .slice none 0 0]) (hab : ra ≠ rb) (B : Below w.heap.size w W) (h1 : w.heap.size ≤ ra) (h2 : w.heap.size ≤ rb)
    (ha : ra < lo) (hb : rb < lo) (oa : OwnInts W lo hi va a.2) (of : OwnInts W lo hi vf f.2) (ob : OwnInts W lo hi vb ys) (hh : hi ≤ W.heap.size) {Wf : World} (hW : Wf = (((W.setCell ⟨ra, 0, none⟩ (.int .i64 a.1)).setCell ⟨ra, 1, none⟩ va).setCell ⟨rb, 0, none⟩ (.int .i64 f.1)).setCell ⟨rb, 1, none⟩ vf) :
    Wf.cell? ⟨ra, 0, none⟩ = some (.int .i64 a.1) ∧ Wf.cell? ⟨ra, 1, none⟩ = some va ∧ Wf.cell? ⟨rb, 0, none⟩ = some (.int .i64 f.1) ∧ Wf.cell? ⟨rb, 1, none⟩ = some vf ∧
    OwnInts Wf w.heap.size Wf.heap.size va a.2 ∧ OwnInts Wf w.heap.size Wf.heap.size vf f.2 ∧ OwnInts Wf w.heap.size Wf.heap.size vb ys ∧ Below w.heap.size w Wf := by
  subst hW
  have A2 := (RA.set_ 0 (.int .i64 a.1)).set_ 1 va
  have B2 := (((RB.far (p := ⟨ra, 0, none⟩) (fun e => hab e.symm) (.int .i64 a.1)).far (p := ⟨ra, 1, none⟩) (fun e => hab e.symm) va).set_ 0 (.int .i64 f.1)).set_ 1 vf
  have A3 := (A2.far (p := ⟨rb, 0, none⟩) hab (.int .i64 f.1)).far (p := ⟨rb, 1, none⟩) hab vf
  have rows : ∀ {v : Value} {xs : List Int}, OwnInts W lo hi v xs → OwnInts ((((W.setCell ⟨ra, 0, none⟩ (.int .i64 a.1)).setCell ⟨ra, 1, none⟩ va).setCell ⟨rb, 0, none⟩ (.int .i64 f.1)).setCell ⟨rb, 1, none⟩ vf) w.heap.size ((((W.setCell ⟨ra, 0, none⟩ (.int .i64 a.1)).setCell ⟨ra, 1, none⟩ va).setCell ⟨rb, 0, none⟩ (.int .i64 f.1)).setCell ⟨rb, 1, none⟩ vf).heap.size v xs := fun h =>
    ((((h.set (p := ⟨ra, 0, none⟩) (.inl ha) _).set (p := ⟨ra, 1, none⟩) (.inl ha) _).set (p := ⟨rb, 0, none⟩) (.inl hb) _).set (p := ⟨rb, 1, none⟩) (.inl hb) _).mono (by omega) (by simpa using hh)
  refine ⟨by rw [A3.cell 0]; simp, by rw [A3.cell 1]; simp, by rw [B2.cell 0]; simp, by rw [B2.cell 1]; simp, rows oa, rows of, rows ob, ?_⟩
  exact (((B.setCell h1 _).setCell h1 _).setCell h2 _).setCell h2 _

set_option maxHeartbeats 4000000 in
set_option maxRecDepth 100000 in
theorem drawMatch_any (v : Value) (code : List Nat) (w : World) (h : RdBytes w w.heap.size v code) (hby : ∀ b ∈ code, b < 256) (hn : code.length ≤ 1073741824) :
    Calls Try.prog 20 #[v] w fun e w' => ∃ (a f : LFact) (ys : List Int) (A : Option Addr) (c : Nat) (A2 : Option Addr) (c2 : Nat) (A3 : Option Addr) (c3 : Nat),
      e = .returned (.tuple #[.agg #[.int .i64 a.1, .slice A a.2.length c], .agg #[.int .i64 f.1, .slice A2 f.2.length c2], .slice A3 ys.length c3]) ∧ a.2.length ≤ 8 ∧ f.2.length ≤ 8 ∧ ys.length ≤ 8 ∧
      OwnInts w' w.heap.size w'.heap.size (.slice A a.2.length c) a.2 ∧ OwnInts w' w.heap.size w'.heap.size (.slice A2 f.2.length c2) f.2 ∧ OwnInts w' w.heap.size w'.heap.size (.slice A3 ys.length c3) ys ∧ Below w.heap.size w w' := by
  obtain ⟨i0, hi0, hz0, hz1, hz2⟩ := info_parts Try.infoInt
  have HV := Lib.hid h
  clear h
  go_enter Try.func20, Try.ntmps20
  go_upto_region 1 with fail
  obtain ⟨w0, hw0⟩ : ∃ w0, w0 = (w.alloc (Obj.cells #[Value.int IntKind.i64 0, Value.slice none 0 0] 26)).alloc (Obj.cells #[Value.int IntKind.i64 0, Value.slice none 0 0] 34) := ⟨_, rfl⟩
  have RA0 : Blk w0 w.heap.size 26 #[.int .i64 0, .slice none 0 0] := by rw [hw0]; exact (Blk.new _ _ _).alloc _
  have RB0 : Blk w0 (w.heap.size + 1) 34 #[.int .i64 0, .slice none 0 0] := by
    rw [hw0]
    have := Blk.new (w.alloc (Obj.cells #[Value.int IntKind.i64 0, Value.slice none 0 0] 26)) 34 #[.int .i64 0, .slice none 0 0]
    simpa using this
  have B0 : Below w.heap.size w w0 := by rw [hw0]; exact below2 _ _ _
  have hs0 : w0.heap.size = w.heap.size + 2 := by rw [hw0]; simp
  rw [← hw0]
  clear hw0
  obtain ⟨ra, hra⟩ : ∃ ra, ra = w.heap.size := ⟨_, rfl⟩
  obtain ⟨g, hg⟩ : ∃ g, g = w0.heap.size := ⟨_, rfl⟩
  have HRA := Lib.hid RA0
  have HRB := Lib.hid RB0
  have HB0 := Lib.hid B0
  have HS0 := Lib.hid hs0
  have HG := Lib.hid hg
  clear RA0 RB0 B0 hs0 hra
  go_wp2_with fail
  refine (l40Open_any v code w0 (HV.out.onM HB0.out) hby hn).mono ?_
  rintro e w1 ⟨rfl, hr1, hb1⟩
  rw [← hg] at hr1 ⊢
  have hg2a : g ≤ w.heap.size + 2 := by rw [hg, HS0.out]; exact Nat.le_refl _
  have hg2 : w.heap.size + 2 ≤ g := by rw [hg, HS0.out]; exact Nat.le_refl _
  have hg1 : g < w1.heap.size := hr1.lt
  have HB1 := Lib.hid hb1
  have HR1 := Lib.hid hr1
  obtain ⟨bs, hbs⟩ : ∃ bs, bs = code.take 2000 := ⟨_, rfl⟩
  rw [← hbs] at HR1
  clear hb1 hr1 hbs hg
  go_wp2_with fail
  refine (l1Arity_any g bs 0 2 w1 HR1.out (by omega) (by omega)).mono ?_
  rintro e w2 ⟨A2, c2, ar, rfl, hd⟩
  have hlen := hd.len
  have HI := Lib.hid (show OwnInts w2 w1.heap.size w2.heap.size (.slice A2 2 c2) ar from hd.ints)
  have HD2 := Lib.hid hd.rdr
  have HRG := Lib.hid hd.range
  have HO2 := Lib.hid hd.only
  have hs2 := hd.only.size
  have HLN := Lib.hid hlen
  have hal : ar.length ≤ 2 := by omega
  have hal2 : 2 ≤ ar.length := by omega
  clear hd hlen
  go_wp2_with fail
  refine (pick_any g bs (0 + 2) 2 w2 HD2.out (by omega) (by omega)).mono ?_
  rintro e w3 ⟨⟨x, rfl, hx⟩, hp3⟩
  have hxr : 0 ≤ x ∧ x < 2 := hx.1 (by omega)
  obtain ⟨j, rfl⟩ : ∃ j : Nat, x = (j : Int) := ⟨x.toNat, by omega⟩
  have hj : j < ar.length := by omega
  obtain ⟨m, hm⟩ : ∃ m : Nat, ar[j] = (m : Int) := ⟨ar[j].toNat, by have := HRG.out _ (List.getElem_mem hj); omega⟩
  have hm2 : m ≤ 2 := by have := HRG.out _ (List.getElem_mem hj); omega
  have HR3 := Lib.hid hp3.1
  have HO3 := Lib.hid (HO2.out.trans hp3.2)
  have HI3 := Lib.hid (HI.out.only hp3.2 (.inr (by omega)))
  have hs3 := hp3.2.size
  have HM := Lib.hid hm
  clear hp3 hx hxr hm
  go_wp2_with fail
  refine (l2Draw_any g bs (0 + 2 + 1) w1.heap.size w2.heap.size j m 3 _ ar w3 HR3.out (by omega) HI3.out hg1 hs3 hj HM.out hm2 (by omega) (by omega)).mono ?_
  rintro e w4 ⟨A, c, az, q4, rfl, ⟨hal4, _⟩, hq4, ho4, hr4, hO4⟩
  have HO4 := Lib.hid (HO3.out.trans hO4)
  have HI4 := Lib.hid (HI3.out.only hO4 (.inr (by omega)))
  have HR4 := Lib.hid hr4
  have HA4 := Lib.hid ho4
  have hs4 := hO4.size
  clear hO4 hr4 ho4
  go_upto_region 4 with fail
  obtain ⟨wa, hwa⟩ : ∃ wa, wa = w4.alloc (Obj.cells #[Value.int IntKind.i64 (j : Int), Value.slice A az.length c] 26) := ⟨_, rfl⟩
  have ba4 : Below w4.heap.size w4 wa := by rw [hwa]; exact below1 _ _
  have BA := Blk.new w4 26 #[.int .i64 (j : Int), .slice A az.length c]
  rw [← hwa] at BA ⊢
  have hsa : wa.heap.size = w4.heap.size + 1 := by rw [hwa]; simp
  obtain ⟨ba, hba⟩ : ∃ ba, ba = w4.heap.size := ⟨_, rfl⟩
  rw [← hba] at BA ⊢
  have HBA := Lib.hid BA
  have HOa := Lib.hid (HO4.out.trans (Only.of_below ba4))
  have HIa := Lib.hid (HI4.out.below ba4 (by omega))
  have HRa := Lib.hid (HR4.out.below ba4 HR4.out.lt)
  have HAa := Lib.hid (HA4.out.below ba4 (Nat.le_refl _))
  have hsaa : ba + 1 ≤ wa.heap.size := by omega
  have hsab : wa.heap.size ≤ ba + 1 := by omega
  have hba4 : w4.heap.size ≤ ba := by omega
  have hba5 : ba ≤ w4.heap.size := by omega
  have hba3 : w3.heap.size ≤ ba := by omega
  clear hwa ba4 BA hsa hba
  go_wp2_with fail
  refine (l1Fact_own g bs q4 w1.heap.size w2.heap.size _ ar wa HRa.out (by omega) HIa.out hg1 (by omega) HRG.out (by omega)).mono ?_
  rintro e w5 ⟨A3, c3, f, q5, rfl, hf5, hq5, ho5, hr5, hO5⟩
  have HO5 := Lib.hid (HOa.out.trans hO5)
  have HR5 := Lib.hid hr5
  have HF5 := Lib.hid ho5
  have HBA5 := Lib.hid (HBA.out.only hO5 (.inr (by omega)))
  have HA5 := Lib.hid (HAa.out.only hO5 (.inr (by omega)))
  have hs5 := hO5.size
  clear hO5 hr5 ho5
  go_upto_region 5 with fail
  obtain ⟨wb, hwb⟩ : ∃ wb, wb = w5.alloc (Obj.cells #[Value.int IntKind.i64 f.1, Value.slice A3 f.2.length c3] 34) := ⟨_, rfl⟩
  have bb5 : Below w5.heap.size w5 wb := by rw [hwb]; exact below1 _ _
  have BF := Blk.new w5 34 #[.int .i64 f.1, .slice A3 f.2.length c3]
  rw [← hwb] at BF ⊢
  have hsb : wb.heap.size = w5.heap.size + 1 := by rw [hwb]; simp
  obtain ⟨bf, hbf⟩ : ∃ bf, bf = w5.heap.size := ⟨_, rfl⟩
  rw [← hbf] at BF ⊢
  have HBF := Lib.hid BF
  have HOb := Lib.hid (HO5.out.trans (Only.of_below bb5))
  have HRb := Lib.hid (HR5.out.below bb5 HR5.out.lt)
  have HAb := Lib.hid (HA5.out.below bb5 (by omega))
  have HBAb := Lib.hid (HBA5.out.below bb5 (by omega))
  have HFb := Lib.hid (HF5.out.below bb5 (Nat.le_refl _))
  have hsbb : bf + 1 ≤ wb.heap.size := by omega
  have hsbc : wb.heap.size ≤ bf + 1 := by omega
  have hbfa : wa.heap.size ≤ bf := by omega
  have hw4b : w4.heap.size ≤ bf := by omega
  have hw5b : w5.heap.size ≤ bf := by omega
  have hw5c : bf ≤ w5.heap.size := by omega
  clear hwb bb5 BF hsb hbf
  go_wp2_with fail
  refine (l3Draw_any g bs q5 wb HRb.out (by omega)).mono ?_
  rintro e w6 ⟨A5, c5, ys, q6, rfl, hy6, hq6, h6⟩
  have HO6 := Lib.hid (HOb.out.trans h6.only)
  have HD6 := Lib.hid h6
  have HBA6 := Lib.hid (HBAb.out.only h6.only (.inr (by omega)))
  have HBF6 := Lib.hid (HBF.out.only h6.only (.inr (by omega)))
  have HA6 := Lib.hid (HAb.out.only h6.only (.inr (by omega)))
  have HF6 := Lib.hid (HFb.out.only h6.only (.inr (by omega)))
  have hs6 := h6.only.size
  clear h6
  go_wp2_with fail
  refine (pick_any g bs q6 3 w6 HD6.out.rdr (by omega) (by omega)).mono ?_
  rintro e w7 ⟨⟨x7, rfl, _⟩, hp7⟩
  obtain ⟨a, hae⟩ : ∃ a : LFact, a = ((j : Int), az) := ⟨_, rfl⟩
  have HO7 := Lib.hid (HO6.out.trans hp7.2)
  have hs7 := hp7.2.size
  have HR7 := Lib.hid hp7.1
  have HBA7 := Lib.hid (show Blk w7 ba 26 #[.int .i64 a.1, .slice A a.2.length c] by rw [hae]; exact HBA6.out.only hp7.2 (.inr (by omega)))
  have HBF7 := Lib.hid (HBF6.out.only hp7.2 (.inr (by omega)))
  have HA7 := Lib.hid (show OwnInts w7 (g + 1) bf (.slice A a.2.length c) a.2 by rw [hae]; exact (HA6.out.only hp7.2 (.inr (by omega))).mono (by omega) hw4b)
  have HF7 := Lib.hid ((HF6.out.only hp7.2 (.inr (by omega))).mono (show g + 1 ≤ wa.heap.size by omega) hw5b)
  have HY8 := Lib.hid (show OwnInts w7 wb.heap.size w6.heap.size (.slice A5 ys.length c5) ys from HD6.out.own.only hp7.2 (.inr (by omega)))
  have HY7 := Lib.hid ((HD6.out.own.only hp7.2 (.inr (by omega))).mono (show g + 1 ≤ wb.heap.size by omega) (Nat.le_refl _))
  have HBW7 := Lib.hid (show Below w.heap.size w w7 from (bthen HB0.out HB1.out).trans (HO7.out.below (by omega) (by omega)))
  have HRA7 := Lib.hid (show Blk w7 w.heap.size 26 #[.int .i64 0, .slice none 0 0] from (HRA.out.below HB1.out (by have := HS0.out; omega)).only HO7.out (.inl (by omega)))
  have HRB7 := Lib.hid (show Blk w7 (w.heap.size + 1) 34 #[.int .i64 0, .slice none 0 0] from (HRB.out.below HB1.out (by have := HS0.out; omega)).only HO7.out (.inl (by omega)))
  have hal8 : a.2.length ≤ 2 := by rw [hae]; exact hal4
  clear hp7
  by_cases hx7 : 0 < x7
  · have hxb : decide (0 < x7) = true := by simpa using hx7
    clear hae
    have z0 : w7.cell? ⟨ba, 0, none⟩ = some (.int .i64 a.1) := HBA7.out.cell 0
    have z1 : w7.cell? ⟨bf, 0, none⟩ = some (.int .i64 f.1) := HBF7.out.cell 0
    have z2 : w7.cell? ⟨bf, 1, none⟩ = some (.slice A3 f.2.length c3) := HBF7.out.cell 1
    have z3 : w7.frozen? ⟨bf, 0, none⟩ = false := HBF7.out.frozen 0
    have z4 : w7.frozen? ⟨bf, 1, none⟩ = false := HBF7.out.frozen 1
    go_upto_region 8 with fail
    obtain ⟨w8, hw8⟩ : ∃ w8, w8 = (w7.setCell ⟨bf, 0, none⟩ (.int .i64 a.1)).setCell ⟨bf, 1, none⟩ (.slice none 0 0) := ⟨_, rfl⟩
    have P0 : DrM2 w w7 w8 g bf w7.heap.size bs (q6 + 1) a.1 none 0 [] := by
      rw [hw8]
      have hset : ∀ b, b ≠ bf → ((w7.setCell ⟨bf, 0, none⟩ (.int .i64 a.1)).setCell ⟨bf, 1, none⟩ (.slice none 0 0)).heap[b]? = w7.heap[b]? := fun b hb => (Below.heap_setCell _ _ _ _ hb).trans (Below.heap_setCell _ _ _ _ hb)
      refine ⟨fun b _ h2 _ => hset b h2, ?_, World.ownsRow_nil _ _ _ _, HR7.out.same fun k hk => hset k (by omega), (HBW7.out.setCell (by show w.heap.size ≤ bf; omega) _).setCell (by show w.heap.size ≤ bf; omega) _, by simp⟩
      have := (HBF7.out.set_ 0 (.int .i64 a.1)).set_ 1 (.slice none 0 0)
      simpa using this
    rw [← hw8]
    have HP0 := Lib.hid P0
    clear hw8 P0 z0 z1 z2 z3 z4
    go_wp2_with fail
    go_loopw [10] (fun i wr => ∃ (k : Nat) (A4 : Option Addr) (c4 : Nat) (zs : List Int) (q : Nat), k ≤ a.2.length ∧ i = .int .i64 k ∧ zs.length = k ∧ q ≤ q6 + 1 + 2 * k ∧ DrM2 w w7 wr g bf w7.heap.size bs q a.1 A4 c4 zs) (fun i _ => a.2.length - (intOf i).toNat)
    case atStart => exact ⟨0, none, 0, [], q6 + 1, Nat.zero_le _, rfl, rfl, by omega, HP0.out⟩
    case round =>
      obtain ⟨k, A4, c4, zs, q, hk, rfl, hzl, hq, hp⟩ := hrel
      have HZL := Lib.hid hzl
      have hzl2 : zs.length ≤ 2 := by omega
      have HR := Lib.hid hp
      have hbar : Blk wr ba 26 #[.int .i64 a.1, .slice A a.2.length c] := (hp.keep ba (by omega) (by omega) (by omega)).trans HBA7.out
      have y1 : wr.cell? ⟨ba, 1, none⟩ = some (.slice A a.2.length c) := hbar.cell 1
      have HAR := Lib.hid (hp.old HA7.out (Nat.lt_succ_self g) (.inl (Nat.le_refl bf)) (by omega))
      clear hzl hp hbar
      by_cases hlt : k < a.2.length
      · go_wp2_with (fail)
        refine (pick_any g bs q 3 _ HR.out.rdr (by omega) (by omega)).mono ?_
        rintro e w2' ⟨⟨x1, rfl, _⟩, hp1⟩
        have H1 := Lib.hid (HR.out.pick (by omega) (by omega) (by omega) (by omega) hp1)
        have hba1 : Blk w2' ba 26 #[.int .i64 a.1, .slice A a.2.length c] := (H1.out.keep ba (by omega) (by omega) (by omega)).trans HBA7.out
        have y2 : w2'.cell? ⟨ba, 1, none⟩ = some (.slice A a.2.length c) := hba1.cell 1
        obtain ⟨A9, c9, e9, _, hxx⟩ := (H1.out.old HA7.out (Nat.lt_succ_self g) (.inl (Nat.le_refl bf)) (by omega)).rd
        injection e9 with e9 e11 e10
        clear e11
        subst e9 e10
        obtain ⟨b9, o9, rfl, hb9, hxx⟩ := hxx (by omega)
        have y3 : w2'.cell? ⟨b9, o9 + k, none⟩ = some (.int .i64 a.2[k]) := hxx k hlt
        have HCELL := Lib.hid hxx
        clear hp1 hba1 hxx y1
        by_cases ha0 : 0 ≤ a.2[k]
        · have hab : decide (0 ≤ a.2[k]) = true := by simpa using ha0
          go_wp2_with (fail)
          refine (pick_any g bs (q + 1) 5 _ H1.out.rdr (by omega) (by omega)).mono ?_
          rintro e w3' ⟨⟨x2, rfl, _⟩, hp2⟩
          have H2 := Lib.hid (H1.out.pick (by omega) (by omega) (by omega) (by omega) hp2)
          have hba2 : Blk w3' ba 26 #[.int .i64 a.1, .slice (some ⟨b9, o9, none⟩) a.2.length c] := (H2.out.keep ba (by omega) (by omega) (by omega)).trans HBA7.out
          have y4 : w3'.cell? ⟨ba, 1, none⟩ = some (.slice (some ⟨b9, o9, none⟩) a.2.length c) := hba2.cell 1
          have y5 : w3'.cell? ⟨b9, o9 + k, none⟩ = some (.int .i64 a.2[k]) := by
            have h1 := (H2.out.old HA7.out (Nat.lt_succ_self g) (.inl (Nat.le_refl bf)) (by omega)).rd
            obtain ⟨_, _, e12, _, hxy⟩ := h1
            injection e12 with e12 _ _
            obtain ⟨b', o', e13, _, hxy⟩ := hxy (by omega)
            rw [e13] at e12
            injection e12 with e12
            injection e12 with e14 e15 _
            subst e14 e15
            exact hxy k hlt
          clear hp2 hba2
          by_cases hx2 : 0 < x2
          · have hxb2 : decide (0 < x2) = true := by simpa using hx2
            obtain ⟨wS, rfl⟩ : ∃ wS, wS = w3' := ⟨_, rfl⟩
            have a1 : wS.cell? ⟨bf, 1, none⟩ = some (.slice A4 zs.length c4) := H2.out.fact.cell 1
            go_wp2_with (at_builtin; refine wpList_append_lies _ rfl (.tmp 58) (.tmp 60) 24 rfl w7.heap.size 3 i0 (.int .i64 0) 1 8 Try.underlying24 hi0 hz0 hz1 hz2 rfl (by decide) (.slice A4 zs.length c4) zs.length (zs.map (Value.int .i64)) rfl ?c1 ⟨wS.heap.size, 0, none⟩ 1 1 [.int .i64 a.2[k]] rfl rfl (cell_one_new _ _ _) ?c2 (by omega) (by unfold maxLen; omega) (by omega) ?c3 _ rfl ?_)
            case c1 => exact (H2.out.alloc _).own
            case c2 => intro u hu; simp at hu; subst hu; rfl
            case c3 => exact (H2.out.alloc _).size
            intro g2 cap w9 hown hgr _ _
            have HST := Lib.hid (DrM2.push (H2.out.alloc _) (by omega) (by omega) (by omega) (by omega) hgr hown)
            have hkf := DrM2.keepFact (H2.out.alloc _) (by omega) hgr
            have e1 : w9.cell? ⟨bf, 1, none⟩ = some (.slice A4 zs.length c4) := hkf.cell 1
            have e2 := hkf.frozen 1
            clear hkf hown hgr
            go_wp2_with (fail)
            go_roundw
            case rel => exact ⟨k + 1, _, _, zs ++ [a.2[k]], q + 1 + 1, by omega, by go_num, by simp; exact HZL.out, by omega, by simpa using HST.out⟩
            case measure => simp [intOf]; omega
          · have hxb2 : decide (0 < x2) = false := by simpa using hx2
            obtain ⟨wS, rfl⟩ : ∃ wS, wS = w3' := ⟨_, rfl⟩
            have a1 : wS.cell? ⟨bf, 1, none⟩ = some (.slice A4 zs.length c4) := H2.out.fact.cell 1
            go_wp2_with (at_builtin; refine wpList_append_lies _ rfl (.tmp 58) (.tmp 60) 24 rfl w7.heap.size 3 i0 (.int .i64 0) 1 8 Try.underlying24 hi0 hz0 hz1 hz2 rfl (by decide) (.slice A4 zs.length c4) zs.length (zs.map (Value.int .i64)) rfl ?c1 ⟨wS.heap.size, 0, none⟩ 1 1 [.int .i64 x1] rfl rfl (cell_one_new _ _ _) ?c2 (by omega) (by unfold maxLen; omega) (by omega) ?c3 _ rfl ?_)
            case c1 => exact (H2.out.alloc _).own
            case c2 => intro u hu; simp at hu; subst hu; rfl
            case c3 => exact (H2.out.alloc _).size
            intro g2 cap w9 hown hgr _ _
            have HST := Lib.hid (DrM2.push (H2.out.alloc _) (by omega) (by omega) (by omega) (by omega) hgr hown)
            have hkf := DrM2.keepFact (H2.out.alloc _) (by omega) hgr
            have e1 : w9.cell? ⟨bf, 1, none⟩ = some (.slice A4 zs.length c4) := hkf.cell 1
            have e2 := hkf.frozen 1
            clear hkf hown hgr
            go_wp2_with (fail)
            go_roundw
            case rel => exact ⟨k + 1, _, _, zs ++ [x1], q + 1 + 1, by omega, by go_num, by simp; exact HZL.out, by omega, by simpa using HST.out⟩
            case measure => simp [intOf]; omega
        · have hab : decide (0 ≤ a.2[k]) = false := by simpa using ha0
          obtain ⟨wS, rfl⟩ : ∃ wS, wS = w2' := ⟨_, rfl⟩
          have a1 : wS.cell? ⟨bf, 1, none⟩ = some (.slice A4 zs.length c4) := H1.out.fact.cell 1
          go_wp2_with (at_builtin; refine wpList_append_lies _ rfl (.tmp 58) (.tmp 60) 24 rfl w7.heap.size 3 i0 (.int .i64 0) 1 8 Try.underlying24 hi0 hz0 hz1 hz2 rfl (by decide) (.slice A4 zs.length c4) zs.length (zs.map (Value.int .i64)) rfl ?c1 ⟨wS.heap.size, 0, none⟩ 1 1 [.int .i64 x1] rfl rfl (cell_one_new _ _ _) ?c2 (by omega) (by unfold maxLen; omega) (by omega) ?c3 _ rfl ?_)
          case c1 => exact (H1.out.alloc _).own
          case c2 => intro u hu; simp at hu; subst hu; rfl
          case c3 => exact (H1.out.alloc _).size
          intro g2 cap w9 hown hgr _ _
          have HST := Lib.hid (DrM2.push (H1.out.alloc _) (by omega) (by omega) (by omega) (by omega) hgr hown)
          have hkf := DrM2.keepFact (H1.out.alloc _) (by omega) hgr
          have e1 : w9.cell? ⟨bf, 1, none⟩ = some (.slice A4 zs.length c4) := hkf.cell 1
          have e2 := hkf.frozen 1
          clear hkf hown hgr
          go_wp2_with (fail)
          go_roundw
          case rel => exact ⟨k + 1, _, _, zs ++ [x1], q + 1, by omega, by go_num, by simp; exact HZL.out, by omega, by simpa using HST.out⟩
          case measure => simp [intOf]; omega
      · go_wp2_with (fail)
        refine (pick_any g bs q 2 _ HR.out.rdr (by omega) (by omega)).mono ?_
        rintro e w2' ⟨⟨x9, rfl, _⟩, hp1⟩
        have H1 := Lib.hid (HR.out.pick (by omega) (by omega) (by omega) (by omega) hp1)
        clear hp1 y1
        obtain ⟨f, hfe⟩ : ∃ f : LFact, f = (a.1, zs) := ⟨_, rfl⟩
        obtain ⟨A3, hA3⟩ : ∃ A3, A3 = A4 := ⟨_, rfl⟩
        obtain ⟨c3, hc3⟩ : ∃ c3, c3 = c4 := ⟨_, rfl⟩
        have hfl : f.2.length ≤ 2 := by rw [hfe]; exact hzl2
        have BAX := Lib.hid (show Blk w2' ba 26 #[.int .i64 a.1, .slice A a.2.length c] from (H1.out.keep ba (by omega) (by omega) (by omega)).trans HBA7.out)
        have BFX := Lib.hid (show Blk w2' bf 34 #[.int .i64 f.1, .slice A3 f.2.length c3] by rw [hfe, hA3, hc3]; exact H1.out.fact)
        have RAX := Lib.hid (show Blk w2' w.heap.size 26 #[.int .i64 0, .slice none 0 0] from (H1.out.keep _ (by omega) (by omega) (by omega)).trans HRA7.out)
        have RBX := Lib.hid (show Blk w2' (w.heap.size + 1) 34 #[.int .i64 0, .slice none 0 0] from (H1.out.keep _ (by omega) (by omega) (by omega)).trans HRB7.out)
        have hsx := H1.out.size
        have OAX := Lib.hid ((H1.out.old HA7.out (Nat.lt_succ_self g) (.inl (Nat.le_refl bf)) (by omega)).mono (Nat.le_refl (g + 1)) (show bf ≤ w2'.heap.size by omega))
        have OFX := Lib.hid (show OwnInts w2' (g + 1) w2'.heap.size (.slice A3 f.2.length c3) f.2 by rw [hfe, hA3, hc3]; exact H1.out.ints.mono (by omega) (Nat.le_refl _))
        have OBX := Lib.hid ((H1.out.old HY8.out (by omega) (.inr (by omega)) (by omega)).mono (show g + 1 ≤ wb.heap.size by omega) (show w6.heap.size ≤ w2'.heap.size by omega))
        clear hfe hA3 hc3
        by_cases hx9 : x9 = 0
        · have hxc : (x9 == 0) = true := by simp [hx9]
          clear hx9
          go_wp2_with (fail)
          refine (l3None_any _).mono ?_
          rintro e WW ⟨A5, c5, rfl, o5, b5⟩
          obtain ⟨ys, hys⟩ : ∃ ys, ys = noneB := ⟨_, rfl⟩
          have hyl : ys.length = 4 := by rw [hys]; rfl
          rw [← hys] at o5
          have hs5' := b5.size
          have BAW := BAX.out.below b5 BAX.out.lt
          have BFW := BFX.out.below b5 BFX.out.lt
          have RAW := RAX.out.below b5 RAX.out.lt
          have RBW := RBX.out.below b5 RBX.out.lt
          have BWW := bthen H1.out.below b5
          have OAW := (OAX.out.below b5 (Nat.le_refl _)).mono (Nat.le_refl (g + 1)) hs5'
          have OFW := (OFX.out.below b5 (Nat.le_refl _)).mono (Nat.le_refl (g + 1)) hs5'
          have OBW : OwnInts WW (g + 1) WW.heap.size (.slice A5 ys.length c5) ys := by rw [hyl]; exact o5.mono (by omega) (Nat.le_refl _)
          rw [show Value.slice A5 4 c5 = Value.slice A5 ys.length c5 by rw [hyl]]
          have hy6 : ys.length ≤ 4 := by omega
          clear hys hyl o5 b5
          have hwA : WW.cell? ⟨ba, 0, none⟩ = some (.int .i64 a.1) := BAW.cell 0
          have hwA1 : WW.cell? ⟨ba, 1, none⟩ = some (.slice A a.2.length c) := BAW.cell 1
          have hwF : WW.cell? ⟨bf, 0, none⟩ = some (.int .i64 f.1) := BFW.cell 0
          have hwF1 : WW.cell? ⟨bf, 1, none⟩ = some (.slice A3 f.2.length c3) := BFW.cell 1
          have r0 : WW.cell? ⟨w.heap.size, 0, none⟩ = some (.int .i64 0) := RAW.cell 0
          have r1 : WW.cell? ⟨w.heap.size, 1, none⟩ = some (.slice none 0 0) := RAW.cell 1
          have r2 : WW.cell? ⟨w.heap.size + 1, 0, none⟩ = some (.int .i64 0) := RBW.cell 0
          have r3 : WW.cell? ⟨w.heap.size + 1, 1, none⟩ = some (.slice none 0 0) := RBW.cell 1
          have t0 : WW.frozen? ⟨w.heap.size, 0, none⟩ = false := RAW.frozen 0
          have t1 : WW.frozen? ⟨w.heap.size, 1, none⟩ = false := RAW.frozen 1
          have t2 : WW.frozen? ⟨w.heap.size + 1, 0, none⟩ = false := RBW.frozen 0
          have t3 : WW.frozen? ⟨w.heap.size + 1, 1, none⟩ = false := RBW.frozen 1
          have dA : WW.drew.cell? ⟨ba, 0, none⟩ = some (.int .i64 a.1) := hwA
          have dA1 : WW.drew.cell? ⟨ba, 1, none⟩ = some (.slice A a.2.length c) := hwA1
          have dF : WW.drew.cell? ⟨bf, 0, none⟩ = some (.int .i64 f.1) := hwF
          have dF1 : WW.drew.cell? ⟨bf, 1, none⟩ = some (.slice A3 f.2.length c3) := hwF1
          have d0 : WW.drew.cell? ⟨w.heap.size, 0, none⟩ = some (.int .i64 0) := r0
          have d1 : WW.drew.cell? ⟨w.heap.size, 1, none⟩ = some (.slice none 0 0) := r1
          have d2 : WW.drew.cell? ⟨w.heap.size + 1, 0, none⟩ = some (.int .i64 0) := r2
          have d3 : WW.drew.cell? ⟨w.heap.size + 1, 1, none⟩ = some (.slice none 0 0) := r3
          have e0 : WW.drew.frozen? ⟨w.heap.size, 0, none⟩ = false := t0
          have e1 : WW.drew.frozen? ⟨w.heap.size, 1, none⟩ = false := t1
          have e2 : WW.drew.frozen? ⟨w.heap.size + 1, 0, none⟩ = false := t2
          have e3 : WW.drew.frozen? ⟨w.heap.size + 1, 1, none⟩ = false := t3
          have HD1 := Lib.hid (matchDone (a := a) (f := f) (ys := ys) (va := .slice A a.2.length c) (vf := .slice A3 f.2.length c3) (vb := .slice A5 ys.length c5) RAW RBW (by omega) BWW (Nat.le_refl _) (Nat.le_succ _) (by omega) (by omega) OAW OFW OBW (Nat.le_refl _) rfl)
          clear BAW BFW RAW RBW OAW OFW OBW BWW
          go_upto_region 17 with fail
          go_region_law (fail)
          all_goals
            obtain ⟨W, hW⟩ : ∃ W, W = (((WW.setCell ⟨w.heap.size, 0, none⟩ (.int .i64 a.1)).setCell ⟨w.heap.size, 1, none⟩ (.slice A a.2.length c)).setCell ⟨w.heap.size + 1, 0, none⟩ (.int .i64 f.1)).setCell ⟨w.heap.size + 1, 1, none⟩ (.slice A3 f.2.length c3) := ⟨_, rfl⟩
            rw [← hW] at HD1 ⊢
            obtain ⟨c0, c1, c4, c5', i1, i2, i3, bb⟩ := HD1.out
            have HE := Lib.hid (And.intro i1 (And.intro i2 (And.intro i3 bb)))
            clear HD1 hW i1 i2 i3 bb dA dA1 dF dF1 d0 d1 d2 d3 e0 e1 e2 e3 hwA hwA1 hwF hwF1 r0 r1 r2 r3 t0 t1 t2 t3
            go_wp2_with fail
            refine bodyPost_ret (v := .tuple #[.agg #[.int .i64 a.1, .slice A a.2.length c], .agg #[.int .i64 f.1, .slice A3 f.2.length c3], .slice A5 ys.length c5]) (by simp [results, Try.results20, go_sem, c0, c1, c4, c5']) rfl ?_
            exact ⟨a, f, ys, A, c, A3, c3, A5, c5, rfl, by omega, by omega, by omega, HE.out.1, HE.out.2.1, HE.out.2.2.1, HE.out.2.2.2.drew⟩

        · have hxc : (x9 == 0) = false := by simp [hx9]
          clear hx9
          obtain ⟨WW, rfl⟩ : ∃ WW, WW = w2' := ⟨_, rfl⟩
          have BAW := BAX.out
          have BFW := BFX.out
          have RAW := RAX.out
          have RBW := RBX.out
          have BWW := H1.out.below
          have OAW := OAX.out
          have OFW := OFX.out
          have OBW := OBX.out
          have hwA : WW.cell? ⟨ba, 0, none⟩ = some (.int .i64 a.1) := BAW.cell 0
          have hwA1 : WW.cell? ⟨ba, 1, none⟩ = some (.slice A a.2.length c) := BAW.cell 1
          have hwF : WW.cell? ⟨bf, 0, none⟩ = some (.int .i64 f.1) := BFW.cell 0
          have hwF1 : WW.cell? ⟨bf, 1, none⟩ = some (.slice A3 f.2.length c3) := BFW.cell 1
          have r0 : WW.cell? ⟨w.heap.size, 0, none⟩ = some (.int .i64 0) := RAW.cell 0
          have r1 : WW.cell? ⟨w.heap.size, 1, none⟩ = some (.slice none 0 0) := RAW.cell 1
          have r2 : WW.cell? ⟨w.heap.size + 1, 0, none⟩ = some (.int .i64 0) := RBW.cell 0
          have r3 : WW.cell? ⟨w.heap.size + 1, 1, none⟩ = some (.slice none 0 0) := RBW.cell 1
          have t0 : WW.frozen? ⟨w.heap.size, 0, none⟩ = false := RAW.frozen 0
          have t1 : WW.frozen? ⟨w.heap.size, 1, none⟩ = false := RAW.frozen 1
          have t2 : WW.frozen? ⟨w.heap.size + 1, 0, none⟩ = false := RBW.frozen 0
          have t3 : WW.frozen? ⟨w.heap.size + 1, 1, none⟩ = false := RBW.frozen 1
          have dA : WW.drew.cell? ⟨ba, 0, none⟩ = some (.int .i64 a.1) := hwA
          have dA1 : WW.drew.cell? ⟨ba, 1, none⟩ = some (.slice A a.2.length c) := hwA1
          have dF : WW.drew.cell? ⟨bf, 0, none⟩ = some (.int .i64 f.1) := hwF
          have dF1 : WW.drew.cell? ⟨bf, 1, none⟩ = some (.slice A3 f.2.length c3) := hwF1
          have d0 : WW.drew.cell? ⟨w.heap.size, 0, none⟩ = some (.int .i64 0) := r0
          have d1 : WW.drew.cell? ⟨w.heap.size, 1, none⟩ = some (.slice none 0 0) := r1
          have d2 : WW.drew.cell? ⟨w.heap.size + 1, 0, none⟩ = some (.int .i64 0) := r2
          have d3 : WW.drew.cell? ⟨w.heap.size + 1, 1, none⟩ = some (.slice none 0 0) := r3
          have e0 : WW.drew.frozen? ⟨w.heap.size, 0, none⟩ = false := t0
          have e1 : WW.drew.frozen? ⟨w.heap.size, 1, none⟩ = false := t1
          have e2 : WW.drew.frozen? ⟨w.heap.size + 1, 0, none⟩ = false := t2
          have e3 : WW.drew.frozen? ⟨w.heap.size + 1, 1, none⟩ = false := t3
          have HD1 := Lib.hid (matchDone (a := a) (f := f) (ys := ys) (va := .slice A a.2.length c) (vf := .slice A3 f.2.length c3) (vb := .slice A5 ys.length c5) RAW RBW (by omega) BWW (Nat.le_refl _) (Nat.le_succ _) (by omega) (by omega) OAW OFW OBW (Nat.le_refl _) rfl)
          clear BAW BFW RAW RBW OAW OFW OBW BWW
          go_upto_region 17 with fail
          go_region_law (fail)
          all_goals
            obtain ⟨W, hW⟩ : ∃ W, W = (((WW.setCell ⟨w.heap.size, 0, none⟩ (.int .i64 a.1)).setCell ⟨w.heap.size, 1, none⟩ (.slice A a.2.length c)).setCell ⟨w.heap.size + 1, 0, none⟩ (.int .i64 f.1)).setCell ⟨w.heap.size + 1, 1, none⟩ (.slice A3 f.2.length c3) := ⟨_, rfl⟩
            rw [← hW] at HD1 ⊢
            obtain ⟨c0, c1, c4, c5', i1, i2, i3, bb⟩ := HD1.out
            have HE := Lib.hid (And.intro i1 (And.intro i2 (And.intro i3 bb)))
            clear HD1 hW i1 i2 i3 bb dA dA1 dF dF1 d0 d1 d2 d3 e0 e1 e2 e3 hwA hwA1 hwF hwF1 r0 r1 r2 r3 t0 t1 t2 t3
            go_wp2_with fail
            refine bodyPost_ret (v := .tuple #[.agg #[.int .i64 a.1, .slice A a.2.length c], .agg #[.int .i64 f.1, .slice A3 f.2.length c3], .slice A5 ys.length c5]) (by simp [results, Try.results20, go_sem, c0, c1, c4, c5']) rfl ?_
            exact ⟨a, f, ys, A, c, A3, c3, A5, c5, rfl, by omega, by omega, by omega, HE.out.1, HE.out.2.1, HE.out.2.2.1, HE.out.2.2.2.drew⟩

  · have hxb : decide (0 < x7) = false := by simpa using hx7
    obtain ⟨WW, rfl⟩ : ∃ WW, WW = w7 := ⟨_, rfl⟩
    have BAW := HBA7.out
    have BFW := HBF7.out
    have RAW := HRA7.out
    have RBW := HRB7.out
    have BWW := HBW7.out
    have OAW := HA7.out.mono (Nat.le_refl (g + 1)) (show bf ≤ WW.heap.size by omega)
    have OFW := HF7.out.mono (Nat.le_refl (g + 1)) (show bf ≤ WW.heap.size by omega)
    have OBW := HY7.out.mono (Nat.le_refl (g + 1)) (show w6.heap.size ≤ WW.heap.size by omega)
    clear hx7 hae
    have hwA : WW.cell? ⟨ba, 0, none⟩ = some (.int .i64 a.1) := BAW.cell 0
    have hwA1 : WW.cell? ⟨ba, 1, none⟩ = some (.slice A a.2.length c) := BAW.cell 1
    have hwF : WW.cell? ⟨bf, 0, none⟩ = some (.int .i64 f.1) := BFW.cell 0
    have hwF1 : WW.cell? ⟨bf, 1, none⟩ = some (.slice A3 f.2.length c3) := BFW.cell 1
    have r0 : WW.cell? ⟨w.heap.size, 0, none⟩ = some (.int .i64 0) := RAW.cell 0
    have r1 : WW.cell? ⟨w.heap.size, 1, none⟩ = some (.slice none 0 0) := RAW.cell 1
    have r2 : WW.cell? ⟨w.heap.size + 1, 0, none⟩ = some (.int .i64 0) := RBW.cell 0
    have r3 : WW.cell? ⟨w.heap.size + 1, 1, none⟩ = some (.slice none 0 0) := RBW.cell 1
    have t0 : WW.frozen? ⟨w.heap.size, 0, none⟩ = false := RAW.frozen 0
    have t1 : WW.frozen? ⟨w.heap.size, 1, none⟩ = false := RAW.frozen 1
    have t2 : WW.frozen? ⟨w.heap.size + 1, 0, none⟩ = false := RBW.frozen 0
    have t3 : WW.frozen? ⟨w.heap.size + 1, 1, none⟩ = false := RBW.frozen 1
    have dA : WW.drew.cell? ⟨ba, 0, none⟩ = some (.int .i64 a.1) := hwA
    have dA1 : WW.drew.cell? ⟨ba, 1, none⟩ = some (.slice A a.2.length c) := hwA1
    have dF : WW.drew.cell? ⟨bf, 0, none⟩ = some (.int .i64 f.1) := hwF
    have dF1 : WW.drew.cell? ⟨bf, 1, none⟩ = some (.slice A3 f.2.length c3) := hwF1
    have d0 : WW.drew.cell? ⟨w.heap.size, 0, none⟩ = some (.int .i64 0) := r0
    have d1 : WW.drew.cell? ⟨w.heap.size, 1, none⟩ = some (.slice none 0 0) := r1
    have d2 : WW.drew.cell? ⟨w.heap.size + 1, 0, none⟩ = some (.int .i64 0) := r2
    have d3 : WW.drew.cell? ⟨w.heap.size + 1, 1, none⟩ = some (.slice none 0 0) := r3
    have e0 : WW.drew.frozen? ⟨w.heap.size, 0, none⟩ = false := t0
    have e1 : WW.drew.frozen? ⟨w.heap.size, 1, none⟩ = false := t1
    have e2 : WW.drew.frozen? ⟨w.heap.size + 1, 0, none⟩ = false := t2
    have e3 : WW.drew.frozen? ⟨w.heap.size + 1, 1, none⟩ = false := t3
    have HD1 := Lib.hid (matchDone (a := a) (f := f) (ys := ys) (va := .slice A a.2.length c) (vf := .slice A3 f.2.length c3) (vb := .slice A5 ys.length c5) RAW RBW (by omega) BWW (Nat.le_refl _) (Nat.le_succ _) (by omega) (by omega) OAW OFW OBW (Nat.le_refl _) rfl)
    clear BAW BFW RAW RBW OAW OFW OBW BWW
    go_upto_region 17 with fail
    go_region_law (fail)
    all_goals
      obtain ⟨W, hW⟩ : ∃ W, W = (((WW.setCell ⟨w.heap.size, 0, none⟩ (.int .i64 a.1)).setCell ⟨w.heap.size, 1, none⟩ (.slice A a.2.length c)).setCell ⟨w.heap.size + 1, 0, none⟩ (.int .i64 f.1)).setCell ⟨w.heap.size + 1, 1, none⟩ (.slice A3 f.2.length c3) := ⟨_, rfl⟩
      rw [← hW] at HD1 ⊢
      obtain ⟨c0, c1, c4, c5', i1, i2, i3, bb⟩ := HD1.out
      have HE := Lib.hid (And.intro i1 (And.intro i2 (And.intro i3 bb)))
      clear HD1 hW i1 i2 i3 bb dA dA1 dF dF1 d0 d1 d2 d3 e0 e1 e2 e3 hwA hwA1 hwF hwF1 r0 r1 r2 r3 t0 t1 t2 t3
      go_wp2_with fail
      refine bodyPost_ret (v := .tuple #[.agg #[.int .i64 a.1, .slice A a.2.length c], .agg #[.int .i64 f.1, .slice A3 f.2.length c3], .slice A5 ys.length c5]) (by simp [results, Try.results20, go_sem, c0, c1, c4, c5']) rfl ?_
      exact ⟨a, f, ys, A, c, A3, c3, A5, c5, rfl, by omega, by omega, by omega, HE.out.1, HE.out.2.1, HE.out.2.2.1, HE.out.2.2.2.drew⟩

end Go.Proofs.Ytofkcmihcgmmpaa
/-
  The walks of DrawAtomOk and DrawLitOk.
-/
namespace Go.Proofs.Ytofkcmihcgmmpaa
open Go.RowKit

/-- A drawn program while more is drawn: rb is the result's block, g the reader, D the program's block. -/
structure AnyAt (w0 wr : World) (rb : Nat) (tb : TypeId) (zs : Array Value) (lo D B g : Nat) (bs : List Nat) (q : Nat) (A : Option Addr) (c : Nat) (ar : List Int) (Ar : Option Addr) (cr : Nat) (es : List Ent) : Prop where
  res : Blk wr rb tb zs
  prg : Blk wr D 44 #[.slice A ar.length c, .slice Ar es.length cr]
  own : OwnInts wr lo B (.slice A ar.length c) ar
  rules : RowR B wr es Ar cr
  rg : rb < g
  gl : g < lo
  lB : lo ≤ B
  dB : B ≤ D
  rdr : Rdr wr g bs q
  below : Below w0.heap.size w0 wr
  first : w0.heap.size ≤ rb
section
variable {w0 w1 w2 wr w' : World} {rb : Nat} {tb : TypeId} {zs : Array Value} {lo D B g q i : Nat} {bs : List Nat} {A Ar : Option Addr} {c cr : Nat} {ar : List Int} {es : List Ent}
theorem AnyAt.go (h : AnyAt w0 wr rb tb zs lo D B g bs q A c ar Ar cr es) {q' : Nat} (hr : Rdr w' g bs q') (ho : Only g (g + 1) wr w') : AnyAt w0 w' rb tb zs lo D B g bs q' A c ar Ar cr es :=
  ⟨h.res.only ho (.inl h.rg), h.prg.only ho (.inr (by have := h.gl; have := h.lB; have := h.dB; omega)), h.own.only ho (.inr h.gl), h.rules.only ho (by have := h.gl; have := h.lB; omega), h.rg, h.gl, h.lB, h.dB, hr, Only.then_ h.below ho (by have := h.first; have := h.rg; omega), h.first⟩
theorem AnyAt.on (h : AnyAt w0 wr rb tb zs lo D B g bs q A c ar Ar cr es) (hb : Below wr.heap.size wr w') : AnyAt w0 w' rb tb zs lo D B g bs q A c ar Ar cr es :=
  h.go (h.rdr.below hb h.rdr.lt) (Only.of_below hb)
theorem AnyAt.start (hres : Blk w1 rb tb zs) (hrg : rb < g) (hf : w0.heap.size ≤ rb) (hb0 : Below w0.heap.size w0 w1) (hg : g < w1.heap.size) (hB : w1.heap.size ≤ B) (hB2 : B ≤ w2.heap.size) (h1 : OwnInts w2 w1.heap.size B (.slice A ar.length c) ar) (h2 : RowR B w2 es Ar cr) (h3 : Rdr w2 g bs q) (h4 : Only g (g + 1) w1 w2)
    (hw : w' = w2.alloc (.cells #[.slice A ar.length c, .slice Ar es.length cr] 44)) : AnyAt w0 w' rb tb zs w1.heap.size w2.heap.size B g bs q A c ar Ar cr es := by
  have hb : Below w2.heap.size w2 w' := by rw [hw]; exact below1 _ _
  exact ⟨(hres.only h4 (.inl hrg)).below hb (by have := hres.lt; have := h4.size; omega), by rw [hw]; exact Blk.new _ _ _, h1.below hb hB2, h2.below hb, hrg, hg, hB, hB2, h3.below hb h3.lt, bthen (Only.then_ hb0 h4 (by omega)) hb, hf⟩
/-- A drawn rule in a variable of its own. -/
def RuleAt (w0 wx : World) (rb : Nat) (tb : TypeId) (zs : Array Value) (lo D B g : Nat) (bs : List Nat) (q : Nat) (A : Option Addr) (c : Nat) (ar : List Int) (Ar : Option Addr) (cr : Nat) (es : List Ent) (s : Value) : Prop :=
  ∃ (b : Nat) (e : Ent), s = .pointer (some ⟨b, 0, none⟩) ∧ e ∈ es ∧ Blk wx b 49 #[.int .i64 e.1.1.1, e.2.1, e.2.2] ∧ D < b ∧ AnyAt w0 wx rb tb zs lo D B g bs q A c ar Ar cr es
theorem AnyAt.forms (h : AnyAt w0 wr rb tb zs lo D B g bs q A c ar Ar cr es) (hi : i < es.length) : ∃ A5 c5 A6 c6, es[i].2.1 = .slice A5 es[i].1.1.2.length c5 ∧ es[i].2.2 = .slice A6 es[i].1.2.length c6 := by
  obtain ⟨_, _, _, _, _, _, _, _, _, _, h7, h8⟩ := h.rules.own i hi
  obtain ⟨A5, c5, e5⟩ := h7.form
  obtain ⟨A6, c6, e6, _⟩ := h8
  exact ⟨A5, c5, A6, c6, e5, e6⟩
theorem AnyAt.pick1 {v5 v6 : Value} (h : AnyAt w0 wr rb tb zs lo D B g bs q A c ar Ar cr es) (hi : i < es.length) (hv : (es[i].2.1, es[i].2.2) = (v5, v6)) : RuleAt w0 (wr.alloc (.cells #[.int .i64 es[i].1.1.1, v5, v6] 49)) rb tb zs lo D B g bs q A c ar Ar cr es (.pointer (some ⟨wr.heap.size, 0, none⟩)) := by
  injection hv with h5 h6
  rw [← h5, ← h6]
  exact ⟨_, es[i], rfl, List.getElem_mem hi, Blk.new _ _ _, h.prg.lt, h.on (below1 _ _)⟩
theorem AnyAt.pick2 {b q' : Nat} {wn : World} {v5 v6 : Value} (h : AnyAt w0 wr rb tb zs lo D B g bs q A c ar Ar cr es) (hi : i < es.length) (hb : wr.heap.size ≤ b) (hn : Only g (g + 1) wr wn) (hr : Rdr wn g bs q') (hB : Blk wn b 49 #[.int .i64 0, .slice none 0 0, .slice none 0 0])
    (h5 : es[i].2.1 = v5) (h6 : es[i].2.2 = v6) (hw : w' = ((wn.setCell ⟨b, 0, none⟩ (.int .i64 es[i].1.1.1)).setCell ⟨b, 1, none⟩ v5).setCell ⟨b, 2, none⟩ v6) : RuleAt w0 w' rb tb zs lo D B g bs q' A c ar Ar cr es (.pointer (some ⟨b, 0, none⟩)) := by
  subst hw
  have hgb : g < wr.heap.size := h.rdr.lt
  refine ⟨b, es[i], rfl, List.getElem_mem hi, ?_, Nat.lt_of_lt_of_le h.prg.lt hb, h.go (hr.same fun k hk => ?_) (((hn.setNew (p := ⟨b, 0, none⟩) hb _).setNew (p := ⟨b, 1, none⟩) hb _).setNew (p := ⟨b, 2, none⟩) hb _)⟩
  · rw [h5, h6]
    exact Blk.set3 hB _ _ _
  · exact ((Below.heap_setCell _ _ _ k (by show k ≠ b; omega)).trans (Below.heap_setCell _ _ _ k (by show k ≠ b; omega))).trans (Below.heap_setCell _ _ _ k (by show k ≠ b; omega))
/-- What the drawn rule reads as, wherever what lies behind the reader stays. -/
theorem AnyAt.head (h : AnyAt w0 wr rb tb zs lo D B g bs q A c ar Ar cr es) (hi : i < es.length) (hk : ∀ k, g < k → k < wr.heap.size → w'.heap[k]? = wr.heap[k]?) (hs : wr.heap.size ≤ w'.heap.size) : RdInts w' w'.heap.size es[i].2.1 es[i].1.1.2 := by
  obtain ⟨lo1, hi1, lo2, hi2, h1, h2, h3, h4, _, _, h7, h8⟩ := h.rules.own i hi
  have := h.gl
  have := h.lB
  exact (h7.keep fun k k1 k2 => hk k (by omega) (by omega)).rd.more (by omega)
theorem AnyAt.body (h : AnyAt w0 wr rb tb zs lo D B g bs q A c ar Ar cr es) (hi : i < es.length) (hk : ∀ k, g < k → k < wr.heap.size → w'.heap[k]? = wr.heap[k]?) (hs : wr.heap.size ≤ w'.heap.size) : RdLits w' w'.heap.size es[i].2.2 es[i].1.2 := by
  obtain ⟨lo1, hi1, lo2, hi2, h1, h2, h3, h4, _, _, h7, h8⟩ := h.rules.own i hi
  have := h.gl
  have := h.lB
  exact (h8.keep fun k k1 k2 => hk k (by omega) (by omega)).rd.more (by omega)
theorem AnyAt.arity (h : AnyAt w0 wr rb tb zs lo D B g bs q A c ar Ar cr es) (hk : ∀ k, g < k → k < wr.heap.size → w'.heap[k]? = wr.heap[k]?) (hs : wr.heap.size ≤ w'.heap.size) : RdInts w' w'.heap.size (.slice A ar.length c) ar := by
  have := h.gl
  have := h.dB
  have := h.prg.lt
  exact (h.own.keep fun k k1 k2 => hk k (by omega) (by omega)).rd.more (by omega)
end

/-- A literal in a variable of its own (block lb), while more is drawn. -/
def LitAt (wc wx : World) (g : Nat) (bs : List Nat) (n lb : Nat) : Prop :=
  ∃ (q : Nat) (l : LLit) (A7 : Option Addr) (c7 lo7 hi7 : Nat), q ≤ n ∧ Blk wx lb 28 #[.int .i64 l.1, .int .i64 l.2.1, .slice A7 l.2.2.length c7] ∧ l.2.2.length ≤ 8 ∧ OwnInts wx lo7 hi7 (.slice A7 l.2.2.length c7) l.2.2 ∧ g < lo7 ∧ hi7 ≤ wx.heap.size ∧ Rdr wx g bs q ∧ Only g (g + 1) wc wx
theorem OwnLits.at_ {w : World} {lo hi m : Nat} {v : Value} {ls : List LLit} (h : OwnLits w lo hi v ls) (hm : m < ls.length) : ∃ b o c A7 c7, v = .slice (some ⟨b, o, none⟩) ls.length c ∧ w.cell? ⟨b, o + m * 3, none⟩ = some (.int .i64 ls[m].1) ∧ w.cell? ⟨b, o + m * 3 + 1, none⟩ = some (.int .i64 ls[m].2.1) ∧ w.cell? ⟨b, o + m * 3 + 2, none⟩ = some (.slice A7 ls[m].2.2.length c7) ∧ OwnInts w lo hi (.slice A7 ls[m].2.2.length c7) ls[m].2.2 := by
  obtain ⟨A, c, rfl, _, hx⟩ := h
  obtain ⟨b, o, rfl, _, _, hk⟩ := hx (by omega)
  obtain ⟨_, u0, u1, u2, c0, c1, c2, rfl, rfl, ho⟩ := hk m hm
  obtain ⟨A7, c7, rfl⟩ := ho.form
  exact ⟨b, o, c, A7, c7, rfl, c0, c1, c2, ho⟩

end Go.Proofs.Ytofkcmihcgmmpaa
/-
  Two lists of facts drawn: the arguments of FactsEither.
-/
namespace Go.Proofs.Ytofkcmihcgmmpaa
open Go.RowKit

/-- A call's two lists. -/
def TwoFacts (w w' : World) (e : Ending) : Prop := ∃ (A : Option Addr) (c : Nat) (fs : List LFact) (A2 : Option Addr) (c2 : Nat) (gs : List LFact), e = .returned (.tuple #[.slice A fs.length c, .slice A2 gs.length c2]) ∧ fs.length ≤ 6 ∧ tot fs ≤ 18 ∧ gs.length ≤ 6 ∧ tot gs ≤ 18 ∧
  RdFacts w' w'.heap.size (.slice A fs.length c) fs ∧ RdFacts w' w'.heap.size (.slice A2 gs.length c2) gs ∧ Below w.heap.size w w'

end Go.Proofs.Ytofkcmihcgmmpaa
/-
  The walks of FactsOk: the program's and the specification's.
-/
namespace Go.Proofs.Ytofkcmihcgmmpaa
open Go.RowKit

def roundOk (ar : List Int) (fs : List LFact) (k : Nat) : Bool := factFits ar (fs.getD k (0, [])) && (decide (k = 0) || decide (factOrder (fs.getD (k - 1) (0, [])) (fs.getD k (0, [])) < 0))
def factsOk (ar : List Int) (fs : List LFact) : Bool := arityOk ar && (List.range fs.length).all (roundOk ar fs)
def OkTo (ar : List Int) (fs : List LFact) (k : Nat) : Prop := (List.range k).all (roundOk ar fs) = true
theorem OkTo.step {ar : List Int} {fs : List LFact} {k : Nat} (h : OkTo ar fs k) (e : roundOk ar fs k = true) : OkTo ar fs (k + 1) := by
  unfold OkTo at h ⊢
  rw [List.range_succ, List.all_append, h]
  simp [e]
theorem round_not {ar : List Int} {fs : List LFact} {k : Nat} (hk : k < fs.length) (e : roundOk ar fs k = false) : factsOk ar fs = false := by
  unfold factsOk
  have : (List.range fs.length).all (roundOk ar fs) = false := by
    rw [List.all_eq_false]
    exact ⟨k, List.mem_range.2 hk, by simp [e]⟩
  rw [this, Bool.and_false]
theorem getD_at {α : Type} {l : List α} {k : Nat} (h : k < l.length) {d : α} : l.getD k d = l[k] := by simp [h]
theorem round_first {ar : List Int} {fs : List LFact} {k : Nat} (hk : k < fs.length) (h : factFits ar fs[k] = true) (h0 : k = 0) : roundOk ar fs k = true := by
  unfold roundOk
  rw [getD_at hk, h]
  simp [h0]
theorem round_next {ar : List Int} {fs : List LFact} {j : Nat} (hk : j + 1 < fs.length) (hj : j < fs.length) (h : factFits ar fs[j + 1] = true) : roundOk ar fs (j + 1) = decide (factOrder fs[j] fs[j + 1] < 0) := by
  unfold roundOk
  rw [getD_at hk, h, Nat.add_sub_cancel, getD_at hj]
  simp
theorem round_unfit {ar : List Int} {fs : List LFact} {k : Nat} (hk : k < fs.length) (h : factFits ar fs[k] = false) : roundOk ar fs k = false := by
  unfold roundOk
  rw [getD_at hk, h]
  simp
theorem later_fact {w0 : World} {v : Value} {f : LFact} (h : RdFact w0 w0.heap.size v f) (x : Later w0) : RdFact x.val x.val.heap.size v f := h.on x.2
theorem later_ints {w0 : World} {v : Value} {f : List Int} (h : RdInts w0 w0.heap.size v f) (x : Later w0) : RdInts x.val x.val.heap.size v f := h.on x.2

end Go.Proofs.Ytofkcmihcgmmpaa
/-
  wrFacts on two slices that read as the same facts.
-/
namespace Go.Proofs.Ytofkcmihcgmmpaa
open Go.RowKit

theorem cmpL_self (xs : List Int) : cmpL xs xs = 0 := by
  induction xs with
  | nil => simp [cmpL]
  | cons x xs ih => simp [cmpL, ih]
theorem factOrder_self (f : LFact) : factOrder f f = 0 := by simp [factOrder, cmpL_self]

end Go.Proofs.Ytofkcmihcgmmpaa
/-
  The arguments of AllFacts drawn; the order turned round.
-/
namespace Go.Proofs.Ytofkcmihcgmmpaa
open Go.RowKit

theorem cmpI_turn (a b : Int) : cmpI a b = -cmpI b a := by
  unfold cmpI
  split <;> split <;> (try split) <;> omega
theorem cmpL_turn : ∀ xs ys : List Int, cmpL xs ys = -cmpL ys xs
  | [], [] => rfl
  | [], _ :: _ => rfl
  | _ :: _, [] => rfl
  | x :: xs, y :: ys => by
    unfold cmpL
    by_cases h : x = y
    · subst h
      simpa using cmpL_turn xs ys
    · rw [if_neg h, if_neg (fun e => h e.symm)]
      exact cmpI_turn x y
theorem factOrder_turn (f g : LFact) : factOrder f g = -factOrder g f := by
  unfold factOrder
  by_cases h : f.1 = g.1
  · rw [if_pos h, if_pos h.symm]
    exact cmpL_turn _ _
  · rw [if_neg h, if_neg (fun e => h e.symm)]
    exact cmpI_turn _ _

end Go.Proofs.Ytofkcmihcgmmpaa
/-
  The arguments of FactOk and of FactOrder drawn.
-/
namespace Go.Proofs.Ytofkcmihcgmmpaa
open Go.RowKit

/-- The two cells of a result's block set, of blocks behind it. -/
theorem keepTwo {w w3 : World} {lo hi lo2 hi2 : Nat} {v v2 : Value} {xs ys : List Int} {t : TypeId} {a b : Value} (h : Blk w3 w.heap.size t #[a, b]) (hv : OwnInts w3 lo hi v xs) (hv2 : OwnInts w3 lo2 hi2 v2 ys) (h1 : w.heap.size < lo) (h2 : w.heap.size < lo2) (hb : Below w.heap.size w w3) (x : Int) (u : Value) :
    Blk ((w3.setCell ⟨w.heap.size, 0, none⟩ (.int .i64 x)).setCell ⟨w.heap.size, 1, none⟩ u) w.heap.size t #[.int .i64 x, u] ∧ OwnInts ((w3.setCell ⟨w.heap.size, 0, none⟩ (.int .i64 x)).setCell ⟨w.heap.size, 1, none⟩ u) lo hi v xs ∧
    OwnInts ((w3.setCell ⟨w.heap.size, 0, none⟩ (.int .i64 x)).setCell ⟨w.heap.size, 1, none⟩ u) lo2 hi2 v2 ys ∧ Below w.heap.size w ((w3.setCell ⟨w.heap.size, 0, none⟩ (.int .i64 x)).setCell ⟨w.heap.size, 1, none⟩ u) :=
  ⟨by simpa using (h.set_ 0 (.int .i64 x)).set_ 1 u, (hv.set (.inl h1) _).set (.inl h1) _, (hv2.set (.inl h2) _).set (.inl h2) _, (hb.setCell (Nat.le_refl _) _).setCell (Nat.le_refl _) _⟩

theorem RdBytes.on {w w' : World} {v : Value} {bs : List Nat} (h : RdBytes w w.heap.size v bs) (hb : Below w.heap.size w w') : RdBytes w' w'.heap.size v bs := by
  obtain ⟨A, c, rfl, hc, hx⟩ := h.off (w' := w') (fun k hk => hb.block k hk)
  refine ⟨A, c, rfl, hc, fun hn => ?_⟩
  obtain ⟨b, o, rfl, hlt, hk⟩ := hx hn
  exact ⟨b, o, rfl, by have := hb.size; omega, hk⟩

end Go.Proofs.Ytofkcmihcgmmpaa
/-
  The arguments of FactsHas, FactsWith, FactsOf drawn.
-/
namespace Go.Proofs.Ytofkcmihcgmmpaa
open Go.RowKit

theorem OwnFacts.place {w : World} {lo hi c : Nat} {A : Option Addr} {fs : List LFact} (h : OwnFacts w lo hi (.slice A fs.length c) fs) {k : Nat} (hk : k < fs.length) :
    ∃ g A3 c3, A = some ⟨g, 0, none⟩ ∧ lo ≤ g ∧ g < hi ∧ w.cell? ⟨g, k * 2, none⟩ = some (.int .i64 fs[k].1) ∧ w.cell? ⟨g, k * 2 + 1, none⟩ = some (.slice A3 fs[k].2.length c3) ∧ OwnInts w lo hi (.slice A3 fs[k].2.length c3) fs[k].2 := by
  obtain ⟨av, ha, hr, hlt⟩ := h
  have hcells := @World.ownsRow.cells w lo 34 2 _ fs.length (flat fs av) hr
  have hl : av.length = fs.length := by simpa using ha.len
  have hb := hr.lt
  rcases hr.2 with ⟨e, e0⟩ | ⟨g, cap, cur, e, _⟩
  · omega
  · injection e with e1 _ _
    subst e1
    have h1 : OwnInts w lo hi (av[k]'(by omega)) fs[k].2 := by
      have := ha.own k (by simpa using hk) (by omega)
      simpa using this
    obtain ⟨A3, c3, e2⟩ := h1.form
    have d0 := hcells (g := g) rfl _ _ (flat_at fs av hl k hk (by omega)).1
    have d1 := hcells (g := g) rfl _ _ (flat_at fs av hl k hk (by omega)).2
    rw [Go.WideShapes.add_plain, Nat.zero_add] at d0 d1
    rw [e2] at d1
    exact ⟨g, A3, c3, rfl, (hb g rfl).1, hlt g rfl, d0, d1, e2 ▸ h1⟩

/-- A call's list of facts and a fact. -/
def HasDrawn (w w' : World) (e : Ending) : Prop := ∃ (A : Option Addr) (c : Nat) (fs : List LFact) (A3 : Option Addr) (c3 : Nat) (f : LFact), e = .returned (.tuple #[.slice A fs.length c, .agg #[.int .i64 f.1, .slice A3 f.2.length c3]]) ∧ fs.length ≤ 6 ∧ tot fs ≤ 18 ∧ f.2.length ≤ 18 ∧
  OwnFacts w' w.heap.size w'.heap.size (.slice A fs.length c) fs ∧ OwnInts w' w.heap.size w'.heap.size (.slice A3 f.2.length c3) f.2 ∧ Below w.heap.size w w'
/-- The tape was asked: nothing else has changed. -/
theorem HasDrawn.drew {w W : World} {e : Ending} (h : HasDrawn w W e) : HasDrawn w W.drew e := by
  obtain ⟨A, c, fs, A3, c3, f, h0, h1, h2, h3, h4, h5, h6⟩ := h
  have hb : Below W.heap.size W W.drew := (Below.refl _ _).drew
  exact ⟨A, c, fs, A3, c3, f, h0, h1, h2, h3, h4.below hb (Nat.le_refl _), h5.below hb (Nat.le_refl _), bthen h6 hb⟩

/-- The result's block is filled: all that stands behind it is as it was. -/
theorem hasDone {w w3 W : World} {fs : List LFact} {f : LFact} {A A3 : Option Addr} {c c3 lo : Nat} (h : Blk w3 w.heap.size 34 #[.int .i64 0, .slice none 0 0]) (hb : Below w.heap.size w w3) (hlo : w.heap.size < lo)
    (hf : OwnFacts w3 lo w3.heap.size (.slice A fs.length c) fs) (hi : OwnInts w3 lo w3.heap.size (.slice A3 f.2.length c3) f.2) (h1 : fs.length ≤ 6) (h2 : tot fs ≤ 18) (h3 : f.2.length ≤ 18)
    (hW : W = (w3.setCell ⟨w.heap.size, 0, none⟩ (.int .i64 f.1)).setCell ⟨w.heap.size, 1, none⟩ (.slice A3 f.2.length c3)) :
    W.cell? ⟨w.heap.size, 0, none⟩ = some (.int .i64 f.1) ∧ W.cell? ⟨w.heap.size, 1, none⟩ = some (.slice A3 f.2.length c3) ∧ HasDrawn w W (.returned (.tuple #[.slice A fs.length c, .agg #[.int .i64 f.1, .slice A3 f.2.length c3]])) := by
  have hB : Blk W w.heap.size 34 #[.int .i64 f.1, .slice A3 f.2.length c3] := by rw [hW]; simpa using (h.set_ 0 (.int .i64 f.1)).set_ 1 (.slice A3 f.2.length c3)
  have hO : Only w.heap.size (w.heap.size + 1) w3 W := by
    rw [hW]
    exact ((Only.refl _ _ w3).setCell (p := ⟨w.heap.size, 0, none⟩) ⟨Nat.le_refl _, Nat.lt_succ_self _⟩ _).setCell (p := ⟨w.heap.size, 1, none⟩) ⟨Nat.le_refl _, Nat.lt_succ_self _⟩ _
  have hbW : Below w.heap.size w W := by
    rw [hW]
    exact (hb.setCell (Nat.le_refl _) _).setCell (Nat.le_refl _) _
  have hs := hO.size
  exact ⟨hB.cell 0, hB.cell 1, A, c, fs, A3, c3, f, rfl, h1, h2, h3, (hf.offG hO hlo).mono (Nat.le_of_lt hlo) hs, (hi.offG hO hlo).mono (Nat.le_of_lt hlo) hs, hbW⟩

end Go.Proofs.Ytofkcmihcgmmpaa
/-
  The specification's l3Match at any fact: what it answers is a list of at most four.
-/
namespace Go.Proofs.Ytofkcmihcgmmpaa
open Go.RowKit

/-- What l3Match answers: a list of at most four, and whether it fits. -/
def MatchW (w w' : World) (e : Ending) : Prop := ∃ (A' : Option Addr) (c' : Nat) (R : List Int) (ok : Bool), e = .returned (.tuple #[.slice A' R.length c', .bool ok]) ∧ R.length ≤ 4 ∧ OwnInts w' w.heap.size w'.heap.size (.slice A' R.length c') R ∧ Below w.heap.size w w'

set_option maxHeartbeats 4000000 in
set_option maxRecDepth 100000 in
theorem l3Match_w (v v2 v3 : Value) (a f : LFact) (bs : List Int) (w : World) (hb : bs.length = 4) (h : RdFact w w.heap.size v a) (h2 : RdFact w w.heap.size v2 f) (h3 : RdInts w w.heap.size v3 bs) (ht : a.2.all termOk = true) (hr : a.2.length ≤ 1048576) (hr2 : f.2.length ≤ 1048576) :
    Calls Try.prog 16 #[v, v2, v3] w fun e w' => MatchW w w' e := by
  obtain ⟨pa, xs⟩ := a
  obtain ⟨pf, ys⟩ := f
  simp only at ht hr hr2
  have H3 := Lib.hid h3
  obtain ⟨A3, c3, rfl, hc3, _⟩ := h3
  obtain ⟨u, rfl, A, c, rfl, hc, hA⟩ := h
  obtain ⟨u, rfl, A2, c2, rfl, hc2, hA2⟩ := h2
  by_cases hp : pa = pf
  · have hpb : (pa != pf) = false := by simp [hp]
    by_cases hl : xs.length = ys.length
    · have hl1 : ((xs.length : Int) != (ys.length : Int)) = false := by simp [hl]
      have HL := Lib.hid hl
      have HB4 := Lib.hid hb
      clear hl hp hb
      have x0 := (Blk.new w 26 #[.int .i64 pa, .slice A xs.length c]).alloc (Obj.cells #[.int .i64 pf, .slice A2 ys.length c2] 34)
      have x1 : Blk ((w.alloc (Obj.cells #[.int .i64 pa, .slice A xs.length c] 26)).alloc (Obj.cells #[.int .i64 pf, .slice A2 ys.length c2] 34)) (w.heap.size + 1) 34 #[.int .i64 pf, .slice A2 ys.length c2] := by simpa using Blk.new (w.alloc (Obj.cells #[.int .i64 pa, .slice A xs.length c] 26)) 34 #[.int .i64 pf, .slice A2 ys.length c2]
      go_enter Try.func16, Try.ntmps16
      go_wp2_with (fail)
      obtain ⟨w2, hw2⟩ : ∃ w2, w2 = ((w.alloc (Obj.cells #[Value.int IntKind.i64 pa, Value.slice A xs.length c] 26)).alloc (Obj.cells #[Value.int IntKind.i64 pf, Value.slice A2 ys.length c2] 34)) := ⟨_, rfl⟩
      have B2 : Below w.heap.size w w2 := by rw [hw2]; exact below2 _ _ _
      rw [← hw2] at x0 x1 ⊢
      clear hw2
      have l1 := x1.lt
      refine (l3Copy_any _ bs _ (H3.out.on B2) (by have := HB4.out; omega)).mono ?_
      rintro e w3 ⟨A', c', rfl, ho, hb3⟩
      obtain ⟨g, rfl, hg1, hg2, hg3, _, _⟩ := ho.at_ (by have := HB4.out; omega)
      have R0 : OwnInts w3 w2.heap.size w3.heap.size (.slice (some ⟨g, 0, none⟩) bs.length c') bs ∧ Below w.heap.size w w3 ∧ Blk w3 w.heap.size 26 #[.int .i64 pa, .slice A xs.length c] ∧ Blk w3 (w.heap.size + 1) 34 #[.int .i64 pf, .slice A2 ys.length c2] := ⟨ho, bthen B2 hb3, x0.below hb3 x0.lt, x1.below hb3 x1.lt⟩
      rw [HB4.out] at R0 ⊢
      clear ho hb3 x0 x1 hg3 hg2
      go_wp2_with (fail)
      go_loopw [9, 10] (fun i _ wr => ∃ (k : Nat) (cur : List Int), k ≤ xs.length ∧ i = .int .i64 k ∧ cur.length = 4 ∧ OwnInts wr w2.heap.size wr.heap.size (.slice (some ⟨g, 0, none⟩) 4 c') cur ∧ Below w.heap.size w wr ∧ Blk wr w.heap.size 26 #[.int .i64 pa, .slice A xs.length c] ∧ Blk wr (w.heap.size + 1) 34 #[.int .i64 pf, .slice A2 ys.length c2]) (fun i _ _ => xs.length - (intOf i).toNat)
      case atStart => exact ⟨0, bs, Nat.zero_le _, rfl, HB4.out, R0.1, R0.2.1, R0.2.2.1, R0.2.2.2⟩
      case round =>
        obtain ⟨k, cur, hk, rfl, hcl, ho, hbe, y0, y1⟩ := hrel
        have q01 : wr.cell? ⟨w.heap.size, 1, none⟩ = some (.slice A xs.length c) := y0.cell 1
        have q11 : wr.cell? ⟨w.heap.size + 1, 1, none⟩ = some (.slice A2 ys.length c2) := y1.cell 1
        have HP2 := Lib.hid (And.intro ho (And.intro hbe (And.intro y0 y1)))
        have HCL := Lib.hid hcl
        by_cases hlt : k < xs.length
        · have hlt2 : k < ys.length := by have := HL.out; omega
          obtain ⟨b, o, rfl, hbB, hx⟩ := hA (by omega)
          obtain ⟨b2, o2, rfl, hbB2, hx2⟩ := hA2 (by omega)
          have hck : wr.cell? ⟨b, o + k, none⟩ = some (.int .i64 xs[k]) := (hbe.cell (p := ⟨b, o + k, none⟩) hbB).trans (hx k hlt)
          have hck2 : wr.cell? ⟨b2, o2 + k, none⟩ = some (.int .i64 ys[k]) := (hbe.cell (p := ⟨b2, o2 + k, none⟩) hbB2).trans (hx2 k hlt2)
          have htk : termOk xs[k] = true := List.all_eq_true.1 ht _ (List.getElem_mem hlt)
          have htb := termOk_at htk
          obtain ⟨hg1', _, hg3, hcc, hcf⟩ := ho.atG (by omega)
          clear hx hx2 hA hA2
          obtain ⟨t, htv⟩ : ∃ t, t = xs[k] := ⟨_, rfl⟩
          obtain ⟨y, hyv⟩ : ∃ y, y = ys[k] := ⟨_, rfl⟩
          rw [← htv] at htk hck htb
          rw [← hyv] at hck2
          clear htv hyv
          by_cases h0 : t < 0
          · obtain ⟨j, hj4, rfl⟩ : ∃ j : Nat, j < 4 ∧ t = -1 - (j : Int) := ⟨(-1 - t).toNat, by omega, by omega⟩
            have hjt : (-1 - (-1 - (j : Int))).toNat = j := by omega
            have hje : -1 - (-1 - (j : Int)) = (j : Int) := by omega
            have hjl : j < cur.length := by omega
            have hjI : (j : Int) < 4 := by omega
            have hcj : wr.cell? ⟨g, j, none⟩ = some (.int .i64 cur[j]) := hcc j hjl
            obtain ⟨x, hxv⟩ : ∃ x, x = cur[j] := ⟨_, rfl⟩
            rw [← hxv] at hcj
            by_cases hx0 : x < 0
            · have hdx : decide (x < 0) = true := by simpa using hx0
              have hfj := hcf j
              have hoo := OwnInts.store (A := some ⟨g, 0, none⟩) (c := c') (g := g) (xs := cur) (by rw [hcl]; exact ho) rfl hjl y
              obtain ⟨ws, hws⟩ : ∃ ws, ws = wr.setCell ⟨g, j, none⟩ (.int .i64 y) := ⟨_, rfl⟩
              have z0 := y0.far (p := ⟨g, j, none⟩) (by show w.heap.size ≠ g; omega) (.int .i64 y)
              have z1 := y1.far (p := ⟨g, j, none⟩) (by show w.heap.size + 1 ≠ g; omega) (.int .i64 y)
              have zb : Below w.heap.size w ws := by rw [hws]; exact hbe.setCell (by show w.heap.size ≤ g; omega) _
              have hsz : ws.heap.size = wr.heap.size := by rw [hws]; simp
              rw [← hws] at hoo z0 z1
              rw [hcl] at hoo
              have hsl : (cur.set j y).length = 4 := by rw [List.length_set]; exact hcl
              have HSL := Lib.hid hsl
              have HTV := Lib.hid (show termVal (cur.set j y) (-1 - (j : Int)) = y by
                rw [termVal_var (by omega), hjt]
                simp [hjl])
              have hck2s : ws.cell? ⟨b2, o2 + k, none⟩ = some (.int .i64 y) := by
                rw [hws, World.cell?_setCell_other _ _ _ _ (by intro e; injection e with e1 _ _; omega)]
                exact hck2
              have q11s : ws.cell? ⟨w.heap.size + 1, 1, none⟩ = some (.slice (some ⟨b2, o2, none⟩) ys.length c2) := z1.cell 1
              have HT := Lib.hid (fun n => quiet_left (l3Term_any (.slice (some ⟨g, 0, none⟩) 4 c') (cur.set j y) (-1 - (j : Int)) ws.heap.size (ws.drewN n) (by
                have := (hoo.rd.more (B' := ws.heap.size) (by omega)).below (bdrewN (Below.refl ws.heap.size ws) n) (Nat.le_refl _)
                exact this) hsl htk))
              have HQ := Lib.hid (And.intro (show OwnInts ws w2.heap.size ws.heap.size (.slice (some ⟨g, 0, none⟩) 4 c') (cur.set j y) by rw [hsz]; exact hoo) (And.intro zb (And.intro z0 z1)))
              have HW := Lib.hid hws
              clear hoo z0 z1 zb hws hcc hcf ho y0 y1 hsl hxv hcl
              rw [HTV.out] at HT
              go_wp2_with (fail)
              rw [← HW.out]
              go_quiet ((go_at_call 27; exact HT.out _))
              go_wp2_with (fail)
              go_roundw
              case rel =>
                obtain ⟨a1, a2, a3, a4⟩ := HQ.out
                exact ⟨k + 1, _, by omega, by go_num, HSL.out, a1.below (bdrewN (Below.refl _ _) _) (Nat.le_refl _), bdrewN a2 _, a3.drewN _, a4.drewN _⟩
              case measure => simp [intOf]; omega
            · have hdx : decide (x < 0) = false := by simpa using hx0
              have HTV := Lib.hid (show termVal cur (-1 - (j : Int)) = x by
                rw [termVal_var (by omega), hjt, hxv]
                simp [hjl])
              have HT := Lib.hid (fun n => quiet_left (l3Term_any (.slice (some ⟨g, 0, none⟩) 4 c') cur (-1 - (j : Int)) wr.heap.size (wr.drewN n) (by
                have h' : OwnInts wr w2.heap.size wr.heap.size (.slice (some ⟨g, 0, none⟩) cur.length c') cur := by rw [hcl]; exact ho
                have := h'.rd.below (bdrewN (Below.refl wr.heap.size wr) n) (Nat.le_refl _)
                rw [hcl] at this
                exact this) hcl htk))
              rw [HTV.out] at HT
              clear ho hcc hcf y0 y1 hxv hcl
              by_cases e1 : x = y
              · have hd1 : (x != y) = false := by simp [e1]
                clear e1
                go_wp2_with (fail)
                go_quiet ((go_at_call 27; exact HT.out _))
                go_wp2_with (fail)
                go_roundw
                case rel =>
                  obtain ⟨a1, a2, a3, a4⟩ := HP2.out
                  exact ⟨k + 1, _, by omega, by go_num, HCL.out, a1.below (bdrewN (Below.refl _ _) _) (Nat.le_refl _), bdrewN a2 _, a3.drewN _, a4.drewN _⟩
                case measure => simp [intOf]; omega
              · have hd1 : (x != y) = true := by simpa using e1
                clear e1
                go_wp2_with (fail)
                go_quiet ((go_at_call 27; exact HT.out _))
                go_wp2_with (fail)
                go_ret2
                unfold MatchW
                exact ⟨none, 0, [], false, rfl, by simp, zeroI _ _ _, bdrewN hbe _⟩
          · have hd0 : decide (t < 0) = false := by simp; omega
            have HT := Lib.hid (fun n => quiet_left (l3Term_any (.slice (some ⟨g, 0, none⟩) 4 c') cur t wr.heap.size (wr.drewN n) (by
              have h' : OwnInts wr w2.heap.size wr.heap.size (.slice (some ⟨g, 0, none⟩) cur.length c') cur := by rw [hcl]; exact ho
              have := h'.rd.below (bdrewN (Below.refl wr.heap.size wr) n) (Nat.le_refl _)
              rw [hcl] at this
              exact this) hcl htk))
            rw [termVal_const (by omega)] at HT
            clear ho hcc hcf y0 y1 hcl
            by_cases e1 : t = y
            · have hd1 : (t != y) = false := by simp [e1]
              clear e1
              go_wp2_with (fail)
              go_quiet ((go_at_call 27; exact HT.out _))
              go_wp2_with (fail)
              go_roundw
              case rel =>
                obtain ⟨a1, a2, a3, a4⟩ := HP2.out
                exact ⟨k + 1, _, by omega, by go_num, HCL.out, a1.below (bdrewN (Below.refl _ _) _) (Nat.le_refl _), bdrewN a2 _, a3.drewN _, a4.drewN _⟩
              case measure => simp [intOf]; omega
            · have hd1 : (t != y) = true := by simpa using e1
              clear e1
              go_wp2_with (fail)
              go_quiet ((go_at_call 27; exact HT.out _))
              go_wp2_with (fail)
              go_ret2
              unfold MatchW
              exact ⟨none, 0, [], false, rfl, by simp, zeroI _ _ _, bdrewN hbe _⟩
        · clear hA hA2 ho y0 y1 hcl
          go_wp2_with (fail)
          go_ret2
          unfold MatchW
          exact ⟨some ⟨g, 0, none⟩, c', cur, true, (by rw [HCL.out]; rfl), by rw [HCL.out]; exact Nat.le_refl _, by rw [HCL.out]; exact HP2.out.1.mono (by omega) (Nat.le_refl _), hbe⟩
    · have hl1 : ((xs.length : Int) != (ys.length : Int)) = true := by simp; omega
      clear hA hA2 hl
      go_enter Try.func16, Try.ntmps16
      go_wp2_with (fail)
      go_ret2
      unfold MatchW
      exact ⟨none, 0, [], false, rfl, by simp, zeroI _ _ _, below2 _ _ _⟩
  · have hpb : (pa != pf) = true := by simp [hp]
    clear hA hA2 hp
    go_enter Try.func16, Try.ntmps16
    go_wp2_with (fail)
    go_ret2
    unfold MatchW
    exact ⟨none, 0, [], false, rfl, by simp, zeroI _ _ _, below2 _ _ _⟩

end Go.Proofs.Ytofkcmihcgmmpaa
/-
  The draw of DrawHolds.
-/
namespace Go.Proofs.Ytofkcmihcgmmpaa
open Go.RowKit

/-- A literal in a variable of its own (block lb), of drawn terms, while more is drawn. -/
def LitH (wb wx : World) (g : Nat) (bs : List Nat) (n lb : Nat) : Prop :=
  ∃ (q : Nat) (l : LLit) (A7 : Option Addr) (c7 lo7 hi7 : Nat), q ≤ n ∧ Blk wx lb 28 #[.int .i64 l.1, .int .i64 l.2.1, .slice A7 l.2.2.length c7] ∧ (l.2.2.length ≤ 8 ∧ 0 ≤ l.1 ∧ l.2.2.all termOk = true) ∧ OwnInts wx lo7 hi7 (.slice A7 l.2.2.length c7) l.2.2 ∧ g < lo7 ∧ hi7 ≤ wx.heap.size ∧ Rdr wx g bs q ∧ Only g (g + 1) wb wx
theorem terms_ok {ls : List LLit} (h : KindsOk ls) {m : Nat} (hm : m < ls.length) : 0 ≤ ls[m].1 ∧ ls[m].2.2.all termOk = true := by
  obtain ⟨h1, _, h3⟩ := h _ (List.getElem_mem hm)
  refine ⟨h1, ?_⟩
  rw [List.all_eq_true]
  intro t ht
  unfold termOk
  rw [decide_eq_true_eq]
  exact h3 t ht

set_option maxHeartbeats 8000000 in
set_option maxRecDepth 100000 in
theorem drawHolds_any (v : Value) (code : List Nat) (w : World) (h : RdBytes w w.heap.size v code) (hby : ∀ b ∈ code, b < 256) (hn : code.length ≤ 1073741824) :
    Calls Try.prog 4 #[v] w fun e w' => ∃ (Af : Option Addr) (cf : Nat) (fs : List LFact) (l : LLit) (A2 : Option Addr) (c2 : Nat) (A3 : Option Addr) (c3 : Nat) (ys : List Int),
      e = .returned (.tuple #[.slice Af fs.length cf, .agg #[.int .i64 l.1, .int .i64 l.2.1, .slice A2 l.2.2.length c2], .slice A3 ys.length c3]) ∧ (fs.length ≤ 9 ∧ tot fs ≤ 27) ∧ (l.2.2.length ≤ 8 ∧ 0 ≤ l.1) ∧ ys.length ≤ 8 ∧
      RdFacts w' w'.heap.size (.slice Af fs.length cf) fs ∧ RdInts w' w'.heap.size (.slice A2 l.2.2.length c2) l.2.2 ∧ RdInts w' w'.heap.size (.slice A3 ys.length c3) ys ∧ Below w.heap.size w w' := by
  have HV := Lib.hid h
  clear h
  go_enter Try.func4, Try.ntmps4
  go_upto_region 1 with fail
  obtain ⟨w0, hw0⟩ : ∃ w0, w0 = w.alloc (Obj.cells #[Value.int IntKind.i64 0, Value.int IntKind.i64 0, Value.slice none 0 0] 28) := ⟨_, rfl⟩
  have HRA := Lib.hid (show Blk w0 w.heap.size 28 #[.int .i64 0, .int .i64 0, .slice none 0 0] by rw [hw0]; exact Blk.new _ _ _)
  have HB0 := Lib.hid (show Below w.heap.size w w0 by rw [hw0]; exact below1 _ _)
  have HS0 := Lib.hid (show w0.heap.size = w.heap.size + 1 by rw [hw0]; simp)
  rw [← hw0]
  clear hw0
  obtain ⟨g, hg⟩ : ∃ g, g = w0.heap.size := ⟨_, rfl⟩
  go_wp2_with fail
  refine (l40Open_any v code w0 (HV.out.onM HB0.out) hby hn).mono ?_
  rintro e w1 ⟨rfl, hr1, hb1⟩
  rw [← hg] at hr1 ⊢
  have hg1 : g < w1.heap.size := hr1.lt
  have HG := Lib.hid (show w.heap.size < g by rw [hg, HS0.out]; omega)
  have HB1 := Lib.hid (bthen HB0.out hb1)
  have HR1 := Lib.hid hr1
  have HRA1 := Lib.hid (HRA.out.below hb1 HRA.out.lt)
  obtain ⟨bs, hbs⟩ : ∃ bs, bs = code.take 2000 := ⟨_, rfl⟩
  rw [← hbs] at HR1
  clear hb1 hr1 hbs hg
  go_wp2_with fail
  refine (l3Case_any g bs 0 8 2 w1 HR1.out (by omega) (by omega)).mono ?_
  rintro e w2 ⟨A, Ar, Af, c, cr, cf, B, q, ar, es, fs, rfl, hok, hf1, hf2, hq, hB, hB2, h1, h2, h3, h4, h5⟩
  have HOK := Lib.hid hok
  have HF := Lib.hid (And.intro hf1 hf2)
  have HQ := Lib.hid (And.intro hB (And.intro hB2 (And.intro h1 (And.intro h2 (And.intro h4 h5)))))
  have HFS := Lib.hid h3
  clear hok hB hB2 h1 h2 h3 h4 h5 hf1 hf2
  go_upto_region 3 with fail
  obtain ⟨w3, hw3⟩ : ∃ w3, w3 = w2.alloc (.cells #[.slice A ar.length c, .slice Ar es.length cr] 44) := ⟨_, rfl⟩
  have H3 := Lib.hid (AnyAt.start HRA1.out HG.out (Nat.le_refl _) HB1.out hg1 HQ.out.1 HQ.out.2.1 HQ.out.2.2.1 HQ.out.2.2.2.1 HQ.out.2.2.2.2.1 HQ.out.2.2.2.2.2 hw3)
  have HF3 := Lib.hid (show OwnFacts w3 B w2.heap.size (.slice Af fs.length cf) fs from HFS.out.below (by rw [hw3]; exact below1 _ _) (Nat.le_refl _))
  have HS3 := Lib.hid (show w2.heap.size ≤ w3.heap.size by rw [hw3]; simp)
  rw [← hw3]
  clear hw3 HFS
  have hgB : g < B := by have := HQ.out.1; omega
  obtain ⟨D, hD⟩ : ∃ D, D = w2.heap.size := ⟨_, rfl⟩
  rw [← hD] at H3 HF3 HS3 ⊢
  clear hD HQ
  have HFW := Lib.hid (show ∀ W, Only g (g + 1) w3 W → OwnFacts W B D (.slice Af fs.length cf) fs from fun W hW => HF3.out.only hW (.inr (by omega)))
  have hel := HOK.out.2.2.2.1
  have hel4 := HOK.out.2.2.2.2.1
  obtain ⟨gr, hgr, hgr1, hgr2⟩ := H3.out.rules.form (by omega)
  subst hgr
  go_cut [8] (fun s8 wx => RuleAt w wx w.heap.size 28 #[.int .i64 0, .int .i64 0, .slice none 0 0] w1.heap.size D B g bs (q + 1) A c ar (some ⟨gr, 0, none⟩) cr es s8 ∧ Only g (g + 1) w3 wx)
  case first =>
    obtain ⟨SS, hSS⟩ : ∃ SS : World → Prop, SS = (fun W => W.cell? ⟨D, 1, none⟩ = some (.slice (some ⟨gr, 0, none⟩) es.length cr) ∧ ∀ i (h : i < es.length), W.cell? ⟨gr, i * 3, none⟩ = some (.int .i64 es[i].1.1.1) ∧ W.cell? ⟨gr, i * 3 + 1, none⟩ = some es[i].2.1 ∧ W.cell? ⟨gr, i * 3 + 2, none⟩ = some es[i].2.2) := ⟨_, rfl⟩
    have HB := Lib.hid (show ∀ W, SS W → W.cell? ⟨D, 1, none⟩ = some (.slice (some ⟨gr, 0, none⟩) es.length cr) ∧ ∀ i (h : i < es.length), W.cell? ⟨gr, i * 3, none⟩ = some (.int .i64 es[i].1.1.1) ∧ W.cell? ⟨gr, i * 3 + 1, none⟩ = some es[i].2.1 ∧ W.cell? ⟨gr, i * 3 + 2, none⟩ = some es[i].2.2 from by rw [hSS]; exact fun W hW => hW)
    have HC := Lib.hid (show ∀ W (q : Nat), AnyAt w W w.heap.size 28 #[.int .i64 0, .int .i64 0, .slice none 0 0] w1.heap.size D B g bs q A c ar (some ⟨gr, 0, none⟩) cr es → SS W from by rw [hSS]; exact fun W q hW => ⟨hW.prg.cell 1, fun i hi => hW.rules.at_ hi⟩)
    clear hSS
    have HRd := Lib.hid (H3.out.on (Below.refl _ _).drew)
    have SB := HC.out _ _ HRd.out
    have HGD := Lib.hid (show g + 1 ≤ w3.drew.heap.size from H3.out.rdr.lt)
    refine wp_region_rel SS 10 11 (by kernel_rfl) rfl ?_
    refine wpAnyR_pure (i := 0) (oi := _) ?v0 rfl rfl (by kernel_rfl) (by decide) (fun _ _ _ h => h) rfl ?hy0 (fun _ => SB) ?rest0
    case hy0 => (intro W; go_simp; (try with_reducible rfl))
    try simp only [List.setIfInBounds_toArray, List.set_cons_zero, List.set_cons_succ]
    refine wpAnyR_pure (i := 2) (oi := _) ?v2 rfl rfl (by kernel_rfl) (by decide) (fun _ _ _ h => h) rfl ?hy2 (fun _ => SB) ?rest2
    case hy2 => (intro W; go_simp; (try with_reducible rfl))
    try simp only [List.setIfInBounds_toArray, List.set_cons_zero, List.set_cons_succ]
    refine wpAnyR_pure (i := 3) (oi := _) ?v3 rfl rfl (by kernel_rfl) (by decide) (fun _ _ _ h => h) rfl ?hy3 (fun _ => SB) ?rest3
    case hy3 => (intro W; go_simp; (try with_reducible rfl))
    try simp only [List.setIfInBounds_toArray, List.set_cons_zero, List.set_cons_succ]
    refine wpAnyR_take (i := 1) (oi := _) ?v1 rfl rfl (by kernel_rfl) (fun _ _ _ h => h) rfl ?hy1 SB ?rest1
    case hy1 => (intro W hW; obtain ⟨E1, ER⟩ := HB.out W hW; go_simp; (try with_reducible rfl))
    try simp only [List.setIfInBounds_toArray, List.set_cons_zero, List.set_cons_succ]
    refine wpAnyR_take (i := 4) (oi := _) ?v4 rfl rfl (by kernel_rfl) (fun _ _ _ h => h) rfl ?hy4 SB ?rest4
    case hy4 => (intro W hW; obtain ⟨E1, ER⟩ := HB.out W hW; go_simp; (try with_reducible rfl))
    try simp only [List.setIfInBounds_toArray, List.set_cons_zero, List.set_cons_succ]
    refine wpAnyR_pure (i := 5) (oi := _) ?v5 rfl rfl (by kernel_rfl) (by decide) (fun _ _ _ h => h) rfl ?hy5 (fun _ => SB) ?rest5
    case hy5 => (intro W; go_simp; (try with_reducible rfl))
    try simp only [List.setIfInBounds_toArray, List.set_cons_zero, List.set_cons_succ]
    refine wpAnyR_two (i := 6) (j := 9) (by kernel_rfl) rfl rfl (fun K hK => ?_) (fun K hK => ?_)
    · try rw [if_pos (show Region.wanted _ _ = true from rfl)]
      go_simp
      refine (pick_any g bs q es.length _ HRd.out.rdr (by omega) (by omega)).mono ?_
      rintro e wn ⟨⟨i, rfl, hi⟩, hpn⟩
      have hir : 0 ≤ i ∧ i < es.length := hi.1 (by omega)
      obtain ⟨i, rfl⟩ : ∃ j : Nat, i = (j : Int) := ⟨i.toNat, by omega⟩
      have hi2 : i < es.length := by omega
      have hib : decide ((i : Int) < (es.length : Int)) = true := by simp; omega
      have Hn := Lib.hid (HRd.out.go hpn.1 hpn.2)
      have SN := HC.out _ _ Hn.out
      obtain ⟨A5, c5, A6, c6, hv5, hv6⟩ := Hn.out.forms hi2
      have HV56 := Lib.hid (And.intro hv5 hv6)
      have HPN := Lib.hid hpn.2
      clear hpn hi
      refine hK.out _ _ (fun _ => SN) ?_
      clear hK K
      try simp only [List.setIfInBounds_toArray, List.set_cons_zero, List.set_cons_succ, Act.put]
      refine wpAnyR_pure (i := 7) (oi := _) ?va7 rfl rfl (by kernel_rfl) (by decide) (fun _ _ _ h => h) rfl ?hya7 (fun _ => SN) ?resta7
      case hya7 => (intro W; go_simp; (try with_reducible rfl))
      try simp only [List.setIfInBounds_toArray, List.set_cons_zero, List.set_cons_succ]
      refine wpAnyR_take (i := 8) (oi := _) ?va8 rfl rfl (by kernel_rfl) (fun _ _ _ h => h) rfl ?hya8 SN ?resta8
      case hya8 => (intro W hW; obtain ⟨E1, ER⟩ := HB.out W hW; obtain ⟨R0, R1, R2⟩ := ER i hi2; rw [hv5] at R1; rw [hv6] at R2; go_simp; (try with_reducible rfl))
      try simp only [List.setIfInBounds_toArray, List.set_cons_zero, List.set_cons_succ]
      clear hv5 hv6
      refine wpAnyR_one (i := 9) (by kernel_rfl) rfl (fun K hK => ?_)
      try rw [if_pos (show Region.wanted _ _ = true from rfl)]
      go_simp
      have Ha := Lib.hid (Hn.out.on (below1 wn (Obj.cells #[Value.int .i64 0, Value.slice none 0 0, Value.slice none 0 0] 49)))
      have SA := HC.out _ _ Ha.out
      refine hK.out _ _ (fun _ => SA) ?_
      clear hK K
      try simp only [List.setIfInBounds_toArray, List.set_cons_zero, List.set_cons_succ, Act.put]
      refine wpAnyR_one (i := 10) (by kernel_rfl) rfl (fun K hK => ?_)
      go_simp
      refine hK.out _ _ (fun hf => absurd hf (by decide)) ?_
      clear hK K
      refine wpAnyR_done (by kernel_rfl) ?_
      go_wp2_with (fail)
      go_meet
      exact ⟨Hn.out.pick1 hi2 (by rw [HV56.out.1, HV56.out.2]), ((Only.of_below (Below.refl w3.heap.size w3).drew).trans HPN.out).trans (Only.of_below (below1 _ _))⟩
    · try rw [if_pos (show Region.wanted _ _ = true from rfl)]
      go_simp
      have Ha := Lib.hid (HRd.out.on (below1 _ (Obj.cells #[Value.int .i64 0, Value.slice none 0 0, Value.slice none 0 0] 49)))
      have SA := HC.out _ _ Ha.out
      refine hK.out _ _ (fun _ => SA) ?_
      clear hK K
      try simp only [List.setIfInBounds_toArray, List.set_cons_zero, List.set_cons_succ, Act.put]
      refine wpAnyR_one (i := 6) (by kernel_rfl) rfl (fun K hK => ?_)
      try rw [if_pos (show Region.wanted _ _ = true from rfl)]
      go_simp
      refine (pick_any g bs q es.length _ Ha.out.rdr (by omega) (by omega)).mono ?_
      rintro e wn ⟨⟨i, rfl, hi⟩, hpn⟩
      have hir : 0 ≤ i ∧ i < es.length := hi.1 (by omega)
      obtain ⟨i, rfl⟩ : ∃ j : Nat, i = (j : Int) := ⟨i.toNat, by omega⟩
      have hi2 : i < es.length := by omega
      have hib : decide ((i : Int) < (es.length : Int)) = true := by simp; omega
      have Hn := Lib.hid (Ha.out.go hpn.1 hpn.2)
      have SN := HC.out _ _ Hn.out
      obtain ⟨A5, c5, A6, c6, hv5, hv6⟩ := Hn.out.forms hi2
      have HV56 := Lib.hid (And.intro hv5 hv6)
      have hpn0 := hpn
      clear hi
      have HZn := Lib.hid (show Blk wn w3.heap.size 49 #[.int .i64 0, .slice none 0 0, .slice none 0 0] from (Blk.new w3.drew _ _).only hpn0.2 (.inr HGD.out))
      have z0 : wn.cell? ⟨w3.heap.size, 0, none⟩ = some (.int .i64 0) := HZn.out.cell 0
      have z1 : wn.cell? ⟨w3.heap.size, 1, none⟩ = some (.slice none 0 0) := HZn.out.cell 1
      have z2 : wn.cell? ⟨w3.heap.size, 2, none⟩ = some (.slice none 0 0) := HZn.out.cell 2
      have HPN := Lib.hid hpn0
      clear hpn0
      have f0 := HZn.out.frozen 0
      have f1 := HZn.out.frozen 1
      have f2 := HZn.out.frozen 2
      refine hK.out _ _ (fun _ => SN) ?_
      clear hK K
      try simp only [List.setIfInBounds_toArray, List.set_cons_zero, List.set_cons_succ, Act.put]
      refine wpAnyR_pure (i := 7) (oi := _) ?vb7 rfl rfl (by kernel_rfl) (by decide) (fun _ _ _ h => h) rfl ?hyb7 (fun _ => SN) ?restb7
      case hyb7 => (intro W; go_simp; (try with_reducible rfl))
      try simp only [List.setIfInBounds_toArray, List.set_cons_zero, List.set_cons_succ]
      refine wpAnyR_take (i := 8) (oi := _) ?vb8 rfl rfl (by kernel_rfl) (fun _ _ _ h => h) rfl ?hyb8 SN ?restb8
      case hyb8 => (intro W hW; obtain ⟨E1, ER⟩ := HB.out W hW; obtain ⟨R0, R1, R2⟩ := ER i hi2; rw [hv5] at R1; rw [hv6] at R2; go_simp; (try with_reducible rfl))
      try simp only [List.setIfInBounds_toArray, List.set_cons_zero, List.set_cons_succ]
      clear hv5 hv6
      refine wpAnyR_one (i := 10) (by kernel_rfl) rfl (fun K hK => ?_)
      go_simp
      refine hK.out _ _ (fun hf => absurd hf (by decide)) ?_
      clear hK K
      refine wpAnyR_done (by kernel_rfl) ?_
      go_wp2_with (fail)
      go_meet
      exact ⟨HRd.out.pick2 hi2 (Nat.le_refl _) ((Only.of_below (below1 w3.drew _)).trans HPN.out.2) HPN.out.1 HZn.out HV56.out.1 HV56.out.2 rfl, ((((Only.of_below (Below.refl w3.heap.size w3).drew).trans ((Only.of_below (below1 w3.drew _)).trans HPN.out.2)).setNew (p := ⟨w3.heap.size, 0, none⟩) (Nat.le_refl _) _).setNew (p := ⟨w3.heap.size, 1, none⟩) (Nat.le_refl _) _).setNew (p := ⟨w3.heap.size, 2, none⟩) (Nat.le_refl _) _⟩
  case rest =>
    obtain ⟨⟨b, e, rfl, he, hb, hDb, H⟩, hOc⟩ := hcut
    obtain ⟨i, hi, rfl⟩ := List.getElem_of_mem he
    obtain ⟨A5, c5, A6, c6, hv5, hv6⟩ := H.forms hi
    have HV2 := Lib.hid hv6
    rw [hv5, hv6] at hb
    obtain ⟨ls, hls⟩ : ∃ ls, ls = es[i].1.2 := ⟨_, rfl⟩
    have HLS := Lib.hid hls
    rw [← hls] at hb
    have hl4 : ls.length ≤ 4 := by rw [hls]; exact (HOK.out.2.2.2.2.2 _ he).2.1
    have hl8 : totL ls ≤ 8 := by rw [hls]; exact (HOK.out.2.2.2.2.2 _ he).2.2.1
    have HKD := Lib.hid (show KindsOk ls by rw [hls]; exact (HOK.out.2.2.2.2.2 _ he).2.2.2)
    have HBb := Lib.hid hb
    have Hc := Lib.hid H
    have HOC := Lib.hid hOc
    have hbl := hb.lt
    clear hv5 hv6 hls H he hOc
    go_upto_region 5 with fail
    obtain ⟨wd, hwd⟩ : ∃ wd, wd = (wc.alloc (.cells #[.int .i64 (-1), .int .i64 (-2)] 3)).alloc (.cells #[.int .i64 3, .int .i64 0, .slice (some ⟨wc.heap.size, 0, none⟩) 2 2] 28) := ⟨_, rfl⟩
    have bd : Below wc.heap.size wc wd := by rw [hwd]; exact below2 _ _ _
    have HLB := Lib.hid (show Blk wd (wc.heap.size + 1) 28 #[.int .i64 3, .int .i64 0, .slice (some ⟨wc.heap.size, 0, none⟩) 2 2] from by
      rw [hwd]
      have := Blk.new (wc.alloc (.cells #[.int .i64 (-1), .int .i64 (-2)] 3)) 28 #[.int .i64 3, .int .i64 0, .slice (some ⟨wc.heap.size, 0, none⟩) 2 2]
      simpa using this)
    have HOW := Lib.hid (show OwnInts wd wc.heap.size (wc.heap.size + 1) (.slice (some ⟨wc.heap.size, 0, none⟩) 2 2) [-1, -2] from by
      rw [hwd]
      exact (own_two wc wc.heap.size (-1) (-2) (Nat.le_refl _)).below (below1 _ _) (by simp))
    have HBd := Lib.hid (HBb.out.below bd hbl)
    have Hd := Lib.hid (Hc.out.on bd)
    have HOd := Lib.hid (HOC.out.trans (Only.of_below bd))
    rw [← hwd]
    obtain ⟨lb, hlb⟩ : ∃ lb, lb = wc.heap.size + 1 := ⟨_, rfl⟩
    have hgw : g < wc.heap.size := Hc.out.rdr.lt
    have hblb : b < lb := by omega
    have HL0 := Lib.hid (show LitH w3 wd g bs (q + 1) lb from
      ⟨q + 1, (3, (0, [-1, -2])), _, _, _, _, Nat.le_refl _, by rw [hlb]; exact HLB.out, ⟨by decide, by decide, by decide⟩, HOW.out, hgw, Nat.le_of_lt HLB.out.lt, Hd.out.rdr, HOd.out⟩)
    have hlbw : wc.heap.size ≤ lb := by omega
    have h3c := HOC.out.size
    rw [← hlb] at HLB ⊢
    clear hwd bd hb hlb HOW HBb
    have y1 : wd.cell? ⟨b, 2, none⟩ = some (.slice A6 ls.length c6) := HBd.out.cell 2
    go_upto_if 35 with (fail)
    go_cut [] (fun wx => LitH w3 wx g bs (q + 2) lb)
    case first =>
      by_cases h0 : 0 < ls.length
      · obtain ⟨lo1, hi1, lo2, hi2, _, hB2, _, hh2, _, _, _, hlits⟩ := Hd.out.rules.own i hi
        rw [HV2.out, ← HLS.out] at hlits
        obtain ⟨bb, oo, c9, A7, c7, e9, _, _, _, _⟩ := hlits.at_ h0
        injection e9 with e9 _ e10
        subst e9 e10
        have hpb : decide (0 < (ls.length : Int)) = true := by rw [decide_eq_true_eq]; omega
        obtain ⟨F, hF⟩ : ∃ F : Nat → Value, F = fun m => (wd.cell? ⟨bb, oo + m * 3 + 2, none⟩).getD (.int .i64 0) := ⟨_, rfl⟩
        have HLT := Lib.hid (show ∀ m (hm : m < ls.length), wd.cell? ⟨bb, oo + m * 3, none⟩ = some (.int .i64 ls[m].1) ∧ wd.cell? ⟨bb, oo + m * 3 + 1, none⟩ = some (.int .i64 ls[m].2.1) ∧ wd.cell? ⟨bb, oo + m * 3 + 2, none⟩ = some (F m) ∧ ∃ A7 c7, F m = .slice A7 ls[m].2.2.length c7 ∧ OwnInts wd lo2 hi2 (F m) ls[m].2.2 from fun m hm => by
          obtain ⟨b', o', c', A7', c7', e', k0, k1, k2, hrow⟩ := hlits.at_ hm
          injection e' with e' _ _
          injection e' with e'
          injection e' with e1 e2 _
          subst e1
          subst e2
          have hFm : F m = .slice A7' ls[m].2.2.length c7' := by rw [hF]; simp only [k2, Option.getD_some]
          exact ⟨k0, k1, by rw [hFm]; exact k2, A7', c7', hFm, by rw [hFm]; exact hrow⟩)
        have hbbl : bb < wd.heap.size := by
          have h1 := (HLT.out 0 h0).1
          unfold World.cell? at h1
          rcases Nat.lt_or_ge bb wd.heap.size with h | h
          · exact h
          · simp [Array.getElem?_eq_none h] at h1
        have hbbg : bb ≠ g := by
          obtain ⟨A', c', e', _, hx⟩ := hlits
          obtain ⟨b', o', eA, g1, _, _⟩ := hx h0
          injection e' with e' _ _
          rw [eA] at e'
          injection e' with e'
          injection e' with e' _ _
          have := Hd.out.gl
          have := Hd.out.lB
          omega
        have HH := Lib.hid (And.intro hB2 hh2)
        clear hlits hF hB2 hh2
        go_upto_region 6 with fail
        obtain ⟨SS, hSS⟩ : ∃ SS : World → Prop, SS = (fun W => W.cell? ⟨b, 2, none⟩ = some (.slice (some ⟨bb, oo, none⟩) ls.length c6) ∧ ∀ m (hm : m < ls.length), W.cell? ⟨bb, oo + m * 3, none⟩ = some (.int .i64 ls[m].1) ∧ W.cell? ⟨bb, oo + m * 3 + 1, none⟩ = some (.int .i64 ls[m].2.1) ∧ W.cell? ⟨bb, oo + m * 3 + 2, none⟩ = some (F m)) := ⟨_, rfl⟩
        have HB := Lib.hid (show ∀ W, SS W → W.cell? ⟨b, 2, none⟩ = some (.slice (some ⟨bb, oo, none⟩) ls.length c6) ∧ ∀ m (hm : m < ls.length), W.cell? ⟨bb, oo + m * 3, none⟩ = some (.int .i64 ls[m].1) ∧ W.cell? ⟨bb, oo + m * 3 + 1, none⟩ = some (.int .i64 ls[m].2.1) ∧ W.cell? ⟨bb, oo + m * 3 + 2, none⟩ = some (F m) from by rw [hSS]; exact fun W hW => hW)
        have hgD := Hd.out.rg
        have HC := Lib.hid (show ∀ W, Only g (g + 1) wd W → SS W from by
          rw [hSS]
          intro W hW
          have hbg : b < g ∨ g + 1 ≤ b := by have := Hd.out.dB; have := Hd.out.lB; have := Hd.out.gl; omega
          have hk : ∀ j, W.cell? ⟨bb, j, none⟩ = wd.cell? ⟨bb, j, none⟩ := fun j => World.cell?_of_block (hW.block bb hbbl (by omega))
          refine ⟨(hW.blk HBd.out hbg).cell 2, fun m hm => ?_⟩
          rw [hk, hk, hk]
          obtain ⟨a1, a2, a3, _⟩ := HLT.out m hm
          exact ⟨a1, a2, a3⟩)
        clear hSS
        refine wp_region_rel SS 9 10 (by kernel_rfl) rfl ?_
        obtain ⟨wy, hwy⟩ : ∃ wy, wy = wd.drew := ⟨_, rfl⟩
        have OY := Lib.hid (show Only g (g + 1) wd wy by rw [hwy]; exact Only.of_below (Below.refl wd.heap.size wd).drew)
        have RY := Lib.hid (show Rdr wy g bs (q + 1) by rw [hwy]; exact Hd.out.rdr)
        rw [← hwy]
        clear hwy y1
        have S0 := HC.out _ OY.out
        refine wpAnyR_pure (i := 0) (oi := _) ?ve0 rfl rfl (by kernel_rfl) (by decide) (fun _ _ _ h => h) rfl ?hye0 (fun _ => S0) ?reste0
        case hye0 => (intro W; go_simp; (try with_reducible rfl))
        try simp only [List.setIfInBounds_toArray, List.set_cons_zero, List.set_cons_succ]
        refine wpAnyR_take (i := 1) (oi := _) ?ve1 rfl rfl (by kernel_rfl) (fun _ _ _ h => h) rfl ?hye1 S0 ?reste1
        case hye1 => (intro W hW; obtain ⟨d0, _⟩ := HB.out W hW; go_simp; (try with_reducible rfl))
        try simp only [List.setIfInBounds_toArray, List.set_cons_zero, List.set_cons_succ]
        refine wpAnyR_pure (i := 2) (oi := _) ?ve2 rfl rfl (by kernel_rfl) (by decide) (fun _ _ _ h => h) rfl ?hye2 (fun _ => S0) ?reste2
        case hye2 => (intro W; go_simp; (try with_reducible rfl))
        try simp only [List.setIfInBounds_toArray, List.set_cons_zero, List.set_cons_succ]
        refine wpAnyR_pure (i := 3) (oi := _) ?ve3 rfl rfl (by kernel_rfl) (by decide) (fun _ _ _ h => h) rfl ?hye3 (fun _ => S0) ?reste3
        case hye3 => (intro W; go_simp; (try with_reducible rfl))
        try simp only [List.setIfInBounds_toArray, List.set_cons_zero, List.set_cons_succ]
        refine wpAnyR_take (i := 4) (oi := _) ?ve4 rfl rfl (by kernel_rfl) (fun _ _ _ h => h) rfl ?hye4 S0 ?reste4
        case hye4 => (intro W hW; obtain ⟨d0, _⟩ := HB.out W hW; go_simp; (try with_reducible rfl))
        try simp only [List.setIfInBounds_toArray, List.set_cons_zero, List.set_cons_succ]
        refine wpAnyR_pure (i := 5) (oi := _) ?ve5 rfl rfl (by kernel_rfl) (by decide) (fun _ _ _ h => h) rfl ?hye5 (fun _ => S0) ?reste5
        case hye5 => (intro W; go_simp; (try with_reducible rfl))
        try simp only [List.setIfInBounds_toArray, List.set_cons_zero, List.set_cons_succ]
        refine wpAnyR_one (i := 6) (by kernel_rfl) rfl (fun K hK => ?_)
        try rw [if_pos (show Region.wanted _ _ = true from rfl)]
        go_simp
        refine (pick_any g bs (q + 1) ls.length wy RY.out (by omega) (by omega)).mono ?_
        rintro e wn ⟨⟨x, rfl, hx⟩, hpn⟩
        have hxr := hx.1 (by omega)
        obtain ⟨m, rfl⟩ : ∃ m : Nat, x = (m : Int) := ⟨x.toNat, by omega⟩
        have hm : m < ls.length := by omega
        have hmb : decide ((m : Int) < (ls.length : Int)) = true := by rw [decide_eq_true_eq]; omega
        have HN := Lib.hid (And.intro hpn.1 (OY.out.trans hpn.2))
        have S1 := HC.out _ HN.out.2
        obtain ⟨_, _, _, A8, c8, e8, o8⟩ := HLT.out m hm
        have HE8 := Lib.hid e8
        have HO8 := Lib.hid o8
        have HLN := Lib.hid ((HLB.out.only HN.out.2 (.inr (by omega))))
        have z0 : wn.cell? ⟨lb, 0, none⟩ = some (.int .i64 3) := HLN.out.cell 0
        have z1 : wn.cell? ⟨lb, 1, none⟩ = some (.int .i64 0) := HLN.out.cell 1
        have z2 : wn.cell? ⟨lb, 2, none⟩ = some (.slice (some ⟨wc.heap.size, 0, none⟩) 2 2) := HLN.out.cell 2
        have f0 := HLN.out.frozen 0
        have f1 := HLN.out.frozen 1
        have f2 := HLN.out.frozen 2
        obtain ⟨l, hl⟩ : ∃ l, l = ls[m] := ⟨_, rfl⟩
        have HLE := Lib.hid hl
        have HLQ := Lib.hid (show l.2.2.length ≤ 8 ∧ 0 ≤ l.1 ∧ l.2.2.all termOk = true from by
          rw [hl]
          have h1 := len_le_totL ls m hm
          have h2 := terms_ok HKD.out hm
          exact ⟨by omega, h2.1, h2.2⟩)
        rw [← hl] at HE8 HO8
        clear hx hpn e8 o8 hl
        refine hK.out _ _ (fun _ => S1) ?_
        clear hK K
        try simp only [List.setIfInBounds_toArray, List.set_cons_zero, List.set_cons_succ, Act.put]
        refine wpAnyR_pure (i := 7) (oi := _) (.pointer (some ⟨bb, oo + m * 3, none⟩)) rfl rfl (by kernel_rfl) (by decide) (fun _ _ _ h => h) rfl ?hyf7 (fun _ => S1) ?restf7
        case hyf7 => (intro W; go_simp; (try simp))
        try simp only [List.setIfInBounds_toArray, List.set_cons_zero, List.set_cons_succ]
        refine wpAnyR_take (i := 8) (oi := _) (.agg #[.int .i64 l.1, .int .i64 l.2.1, .slice A8 l.2.2.length c8]) rfl rfl (by kernel_rfl) (fun _ _ _ h => h) rfl ?hyf8 S1 ?restf8
        case hyf8 =>
          intro W hW
          obtain ⟨_, hall⟩ := HB.out W hW
          obtain ⟨d0, d1, d2⟩ := hall m hm
          rw [← HLE.out] at d0 d1
          rw [HE8.out] at d2
          clear hall
          go_simp
          try with_reducible rfl
        try simp only [List.setIfInBounds_toArray, List.set_cons_zero, List.set_cons_succ]
        refine wpAnyR_one (i := 9) (by kernel_rfl) rfl (fun K hK => ?_)
        go_simp
        refine hK.out _ _ (fun hf => absurd hf (by decide)) ?_
        clear hK K
        refine wpAnyR_done (by kernel_rfl) ?_
        go_wp2_with fail
        go_meet
        have hlbl := HLN.out.lt
        have hgn := HN.out.1.lt
        have hne : ∀ k, k ≠ lb → (((wn.setCell ⟨lb, 0, none⟩ (.int .i64 l.1)).setCell ⟨lb, 1, none⟩ (.int .i64 l.2.1)).setCell ⟨lb, 2, none⟩ (.slice A8 l.2.2.length c8)).heap[k]? = wn.heap[k]? := fun k hk => ((Below.heap_setCell _ _ _ k hk).trans (Below.heap_setCell _ _ _ k hk)).trans (Below.heap_setCell _ _ _ k hk)
        have ho8 := HO8.out
        rw [HE8.out] at ho8
        have hgl2 : g < lo2 := by have := HH.out; have := Hd.out.gl; have := Hd.out.lB; omega
        have ho9 := ho8.only HN.out.2 (.inr (by omega))
        have hnr : ∀ b', (Value.slice A8 l.2.2.length c8).ownBlock = some b' → b' ≠ lb := fun b' hb' e => blk_ne_own ho9.1 HLN.out (by decide) (by rw [hb', e])
        have hs9 := HN.out.2.size
        exact ⟨q + 2, l, A8, c8, lo2, hi2, Nat.le_refl _, Blk.set3 HLN.out _ _ _, HLQ.out, ho9.kept fun b' hb' => hne b' (hnr b' hb'), hgl2, by have := HH.out.2; simp; omega, HN.out.1.same fun k hk => hne k (by omega), (((HOd.out.trans HN.out.2).setNew (p := ⟨lb, 0, none⟩) (by show w3.heap.size ≤ lb; omega) _).setNew (p := ⟨lb, 1, none⟩) (by show w3.heap.size ≤ lb; omega) _).setNew (p := ⟨lb, 2, none⟩) (by show w3.heap.size ≤ lb; omega) _⟩
      · have hpb : decide (0 < (ls.length : Int)) = false := by rw [decide_eq_false_iff_not]; omega
        go_wp2_with (fail)
        go_meet
        obtain ⟨q0, l0, r0⟩ := HL0.out
        obtain ⟨a1, a2, a3, a4, a5, a6⟩ := r0
        exact ⟨q0, l0, a1, a2, a3, a4, by have := a5; omega, a6⟩
    case rest =>
      obtain ⟨q5, l, A7, c7, lo7, hi7, hq5, hb5, ⟨hl5, hk5, ht5⟩, ho5, hg5, hh5, hr5, hO5⟩ := hcut
      have H5 := Lib.hid (And.intro hb5 (And.intro ho5 (And.intro hr5 hO5)))
      have HT5 := Lib.hid ht5
      have h35 := hO5.size
      clear hb5 ho5 hr5 hO5 ht5
      rename World => we
      have hgwe := H5.out.2.2.1.lt
      clear y1
      go_upto_region 8 with (go_at_call 15; refine (l3Draw_any g bs q5 we H5.out.2.2.1 (by omega)).mono ?_
                             rintro e w6 ⟨A9, c9, xs, q9, rfl, hxl, hq9, hdr⟩
                             have H6 := Lib.hid hdr
                             clear hdr)
      have hs6 := H6.out.only.size
      go_cut [54] (fun s wx => ∃ (y : Bool) (q2 : Nat), s = .bool y ∧ (y = true → 0 < fs.length) ∧ Rdr wx g bs q2 ∧ q2 ≤ q9 + 1 ∧ Only g (g + 1) w6 wx)
      case first =>
        by_cases hf0 : 0 < fs.length
        · have hfb : decide ((0 : Int) < (fs.length : Int)) = true := by rw [decide_eq_true_eq]; omega
          go_wp2_with (go_at_call 14; refine (pick_any g bs q9 2 w6 H6.out.rdr (by omega) (by omega)).mono ?_
                       rintro e w7 ⟨⟨x, rfl, _⟩, hpk⟩
                       have HPK := Lib.hid hpk
                       clear hpk)
          go_meet
          exact ⟨_, q9 + 1, rfl, fun _ => hf0, HPK.out.1, Nat.le_refl _, HPK.out.2⟩
        · have hfb : decide ((0 : Int) < (fs.length : Int)) = false := by rw [decide_eq_false_iff_not]; omega
          go_wp2_with (fail)
          go_meet
          exact ⟨false, q9, rfl, (fun h => by cases h), H6.out.rdr, by omega, Only.refl _ _ _⟩
      case rest =>
      obtain ⟨y, q2, rfl, hy, hr7, hq7, hO7⟩ := hcut
      rename World => w7
      have HY := Lib.hid hy
      have H7 := Lib.hid (And.intro hr7 (show Only g (g + 1) we w7 from H6.out.only.trans hO7))
      have HX7 := Lib.hid (show OwnInts w7 we.heap.size w6.heap.size (.slice A9 xs.length c9) xs from H6.out.own.only hO7 (.inr (by omega)))
      have hs7 := hO7.size
      clear hy hr7 hO7
      have HL7 := Lib.hid (show Blk w7 lb 28 #[.int .i64 l.1, .int .i64 l.2.1, .slice A7 l.2.2.length c7] from H7.out.2.blk H5.out.1 (.inr (by omega)))
      have HI7 := Lib.hid (show OwnInts w7 lo7 hi7 (.slice A7 l.2.2.length c7) l.2.2 from H5.out.2.1.only H7.out.2 (.inr (by omega)))
      have HF7 := Lib.hid (HFW.out w7 (H5.out.2.2.2.trans H7.out.2))
      have hg7 : g < w7.heap.size := H7.out.1.lt
      go_upto_if 54 with (fail)
      go_cut [10] (fun s10 wx => ∃ (A10 : Option Addr) (c10 : Nat) (ys : List Int) (lo10 hi10 : Nat), s10 = .slice A10 ys.length c10 ∧ ys.length ≤ 8 ∧ OwnInts wx lo10 hi10 (.slice A10 ys.length c10) ys ∧ (g < lo10 ∧ hi10 ≤ wx.heap.size) ∧ Only g (g + 1) w7 wx)
      case first =>
        cases y
        · go_wp2_with (fail)
          go_meet
          exact ⟨A9, c9, xs, we.heap.size, w6.heap.size, rfl, by omega, HX7.out, ⟨by omega, hs7⟩, Only.refl _ _ _⟩
        · have hf0 : 0 < fs.length := HY.out rfl
          have hfl9 : fs.length ≤ 9 := by have := HF.out.1; omega
          obtain ⟨bf, A3', c3', hAf, hbf1, hbf2, _, _, _⟩ := HF7.out.place hf0
          subst hAf
          obtain ⟨F2, hF2⟩ : ∃ F2 : Nat → Value, F2 = fun m => (w7.cell? ⟨bf, m * 2 + 1, none⟩).getD (.int .i64 0) := ⟨_, rfl⟩
          have hD3 : D ≤ w7.heap.size := by have := HS3.out; omega
          have HLT := Lib.hid (show ∀ m (hm : m < fs.length), w7.cell? ⟨bf, m * 2, none⟩ = some (.int .i64 fs[m].1) ∧ w7.cell? ⟨bf, m * 2 + 1, none⟩ = some (F2 m) ∧ ∃ A8 c8, F2 m = .slice A8 fs[m].2.length c8 ∧ OwnInts w7 B D (F2 m) fs[m].2 from fun m hm => by
            obtain ⟨b', A8, c8, e', _, _, k0, k1, hrow⟩ := HF7.out.place hm
            injection e' with e'
            injection e' with e1 _ _
            subst e1
            have hFm : F2 m = .slice A8 fs[m].2.length c8 := by rw [hF2]; simp only [k1, Option.getD_some]
            exact ⟨k0, by rw [hFm]; exact k1, A8, c8, hFm, by rw [hFm]; exact hrow⟩)
          have hcf : fs.length ≤ cf := by
            obtain ⟨A', c', e, hc, _⟩ := HF7.out.rd
            injection e with _ _ e3
            omega
          clear hF2
          go_upto_region 9 with (fail)
          obtain ⟨SS, hSS⟩ : ∃ SS : World → Prop, SS = (fun W => W.cell? ⟨lb, 1, none⟩ = some (.int .i64 l.2.1) ∧ W.cell? ⟨lb, 2, none⟩ = some (.slice A7 l.2.2.length c7) ∧ ∀ m (hm : m < fs.length), W.cell? ⟨bf, m * 2, none⟩ = some (.int .i64 fs[m].1) ∧ W.cell? ⟨bf, m * 2 + 1, none⟩ = some (F2 m)) := ⟨_, rfl⟩
          have HB := Lib.hid (show ∀ W, SS W → W.cell? ⟨lb, 1, none⟩ = some (.int .i64 l.2.1) ∧ W.cell? ⟨lb, 2, none⟩ = some (.slice A7 l.2.2.length c7) ∧ ∀ m (hm : m < fs.length), W.cell? ⟨bf, m * 2, none⟩ = some (.int .i64 fs[m].1) ∧ W.cell? ⟨bf, m * 2 + 1, none⟩ = some (F2 m) from by rw [hSS]; exact fun W hW => hW)
          have HC := Lib.hid (show ∀ W, Only g (g + 1) w7 W → SS W from by
            rw [hSS]
            intro W hW
            have hk : ∀ j, W.cell? ⟨bf, j, none⟩ = w7.cell? ⟨bf, j, none⟩ := fun j => World.cell?_of_block (hW.block bf (by omega) (.inr (by omega)))
            have hL := hW.blk HL7.out (.inr (by omega))
            refine ⟨hL.cell 1, hL.cell 2, fun m hm => ?_⟩
            rw [hk, hk]
            exact ⟨(HLT.out m hm).1, (HLT.out m hm).2.1⟩)
          clear hSS
          refine wp_region_rel SS 15 16 (by kernel_rfl) rfl ?_
          obtain ⟨wz, hwz⟩ : ∃ wz, wz = w7.drew := ⟨_, rfl⟩
          have OZ := Lib.hid (show Only g (g + 1) w7 wz by rw [hwz]; exact Only.of_below (Below.refl w7.heap.size w7).drew)
          have RZ := Lib.hid (show Rdr wz g bs q2 by rw [hwz]; exact H7.out.1)
          rw [← hwz]
          clear hwz
          have S0 := HC.out _ OZ.out
          refine wpAnyR_pure (i := 0) (oi := _) ?vg0 rfl rfl (by kernel_rfl) (by decide) (fun _ _ _ h => h) rfl ?hyg0 (fun _ => S0) ?restg0
          case hyg0 => (intro W; go_simp; (try with_reducible rfl))
          try simp only [List.setIfInBounds_toArray, List.set_cons_zero, List.set_cons_succ]
          refine wpAnyR_take (i := 1) (oi := _) ?vg1 rfl rfl (by kernel_rfl) (fun _ _ _ h => h) rfl ?hyg1 S0 ?restg1
          case hyg1 => (intro W hW; obtain ⟨d0, d1, _⟩ := HB.out W hW; go_simp; (try with_reducible rfl))
          try simp only [List.setIfInBounds_toArray, List.set_cons_zero, List.set_cons_succ]
          refine wpAnyR_pure (i := 2) (oi := _) ?vg2 rfl rfl (by kernel_rfl) (by decide) (fun _ _ _ h => h) rfl ?hyg2 (fun _ => S0) ?restg2
          case hyg2 => (intro W; go_simp; (try with_reducible rfl))
          try simp only [List.setIfInBounds_toArray, List.set_cons_zero, List.set_cons_succ]
          refine wpAnyR_pure (i := 3) (oi := _) ?vg3 rfl rfl (by kernel_rfl) (by decide) (fun _ _ _ h => h) rfl ?hyg3 (fun _ => S0) ?restg3
          case hyg3 => (intro W; go_simp; (try with_reducible rfl))
          try simp only [List.setIfInBounds_toArray, List.set_cons_zero, List.set_cons_succ]
          refine wpAnyR_pure (i := 4) (oi := _) ?vg4 rfl rfl (by kernel_rfl) (by decide) (fun _ _ _ h => h) rfl ?hyg4 (fun _ => S0) ?restg4
          case hyg4 => (intro W; go_simp; (try with_reducible rfl))
          try simp only [List.setIfInBounds_toArray, List.set_cons_zero, List.set_cons_succ]
          refine wpAnyR_pure (i := 5) (oi := _) ?vg5 rfl rfl (by kernel_rfl) (by decide) (fun _ _ _ h => h) rfl ?hyg5 (fun _ => S0) ?restg5
          case hyg5 => (intro W; go_simp; (try with_reducible rfl))
          try simp only [List.setIfInBounds_toArray, List.set_cons_zero, List.set_cons_succ]
          refine wpAnyR_one (i := 6) (by kernel_rfl) rfl (fun K hK => ?_)
          try rw [if_pos (show Region.wanted _ _ = true from rfl)]
          go_simp
          refine (pick_any g bs q2 fs.length wz RZ.out (by omega) (by omega)).mono ?_
          rintro e w8 ⟨⟨x, rfl, hx⟩, hpn⟩
          have hxr := hx.1 (by omega)
          obtain ⟨m, rfl⟩ : ∃ m : Nat, x = (m : Int) := ⟨x.toNat, by omega⟩
          have hm : m < fs.length := by omega
          have hmb : decide ((m : Int) < (fs.length : Int)) = true := by rw [decide_eq_true_eq]; omega
          have HN := Lib.hid (OZ.out.trans hpn.2)
          have S1 := HC.out _ HN.out
          obtain ⟨_, _, A8, c8, e8, o8⟩ := HLT.out m hm
          have HE8 := Lib.hid e8
          rw [e8] at o8
          obtain ⟨f, hf⟩ : ∃ f, f = fs[m] := ⟨_, rfl⟩
          have hfl : f.2.length ≤ 27 := by
            rw [hf]
            have := len_le_tot fs m hm
            have := HF.out.2
            omega
          have HFE := Lib.hid hf
          rw [← hf] at HE8 o8
          have HO8 := Lib.hid o8
          clear hx hpn e8 o8 hf
          refine hK.out _ _ (fun _ => S1) ?_
          clear hK K
          try simp only [List.setIfInBounds_toArray, List.set_cons_zero, List.set_cons_succ, Act.put]
          refine wpAnyR_pure (i := 7) (oi := _) (.pointer (some ⟨bf, m * 2, none⟩)) rfl rfl (by kernel_rfl) (by decide) (fun _ _ _ h => h) rfl ?hyh7 (fun _ => S1) ?resth7
          case hyh7 => (intro W; go_simp; (try simp))
          try simp only [List.setIfInBounds_toArray, List.set_cons_zero, List.set_cons_succ]
          refine wpAnyR_take (i := 8) (oi := _) (.agg #[.int .i64 f.1, .slice A8 f.2.length c8]) rfl rfl (by kernel_rfl) (fun _ _ _ h => h) rfl ?hyh8 S1 ?resth8
          case hyh8 =>
            intro W hW
            obtain ⟨_, _, hall⟩ := HB.out W hW
            obtain ⟨d0, d1⟩ := hall m hm
            rw [← HFE.out] at d0
            rw [HE8.out] at d1
            clear hall
            go_simp
            try with_reducible rfl
          try simp only [List.setIfInBounds_toArray, List.set_cons_zero, List.set_cons_succ]
          refine wpAnyR_one (i := 9) (by kernel_rfl) rfl (fun K hK => ?_)
          try rw [if_pos (show Region.wanted _ _ = true from rfl)]
          go_simp
          refine (l3None_any w8).mono ?_
          rintro e w9 ⟨A10, c10, rfl, o9, b9⟩
          have H9 := Lib.hid (HN.out.trans (Only.of_below b9))
          have HO9 := Lib.hid o9.rd
          have S2 := HC.out _ H9.out
          clear o9 b9
          refine hK.out _ _ (fun _ => S2) ?_
          clear hK K
          try simp only [List.setIfInBounds_toArray, List.set_cons_zero, List.set_cons_succ, Act.put]
          have hs9 := H9.out.size
          refine wpAnyR_one (i := 10) (by kernel_rfl) rfl (fun K hK => ?_)
          try rw [if_pos (show Region.wanted _ _ = true from rfl)]
          go_simp
          refine (l3Match_w (.agg #[.int .i64 l.2.1, .slice A7 l.2.2.length c7]) (.agg #[.int .i64 f.1, .slice A8 f.2.length c8]) (.slice A10 4 c10) l.2 f noneB w9 rfl ⟨_, rfl, (HI7.out.only H9.out (.inr (by omega))).rd.more (by omega)⟩ ⟨_, rfl, (HO8.out.only H9.out (.inr (by omega))).rd.more (by omega)⟩ HO9.out HT5.out (by omega) (by omega)).mono ?_
          rintro e w10 hMW
          unfold MatchW at hMW
          obtain ⟨A11, c11, R, ok, rfl, hR4, oR, bR⟩ := hMW
          have HRR := Lib.hid (And.intro oR (H9.out.trans (Only.of_below bR)))
          have S3 := HC.out _ HRR.out.2
          clear oR bR
          refine hK.out _ _ (fun _ => S3) ?_
          clear hK K
          try simp only [List.setIfInBounds_toArray, List.set_cons_zero, List.set_cons_succ, Act.put]
          refine wpAnyR_pure (i := 11) (oi := _) ?vk11 rfl rfl (by kernel_rfl) (by decide) (fun _ _ _ h => h) rfl ?hyk11 (fun _ => S3) ?restk11
          case hyk11 => (intro W; go_simp; (try with_reducible rfl))
          try simp only [List.setIfInBounds_toArray, List.set_cons_zero, List.set_cons_succ]
          refine wpAnyR_pure (i := 12) (oi := _) ?vk12 rfl rfl (by kernel_rfl) (by decide) (fun _ _ _ h => h) rfl ?hyk12 (fun _ => S3) ?restk12
          case hyk12 => (intro W; go_simp; (try with_reducible rfl))
          try simp only [List.setIfInBounds_toArray, List.set_cons_zero, List.set_cons_succ]
          refine wpAnyR_pure (i := 13) (oi := _) ?vk13 rfl rfl (by kernel_rfl) (by decide) (fun _ _ _ h => h) rfl ?hyk13 (fun _ => S3) ?restk13
          case hyk13 => (intro W; go_simp; (try with_reducible rfl))
          try simp only [List.setIfInBounds_toArray, List.set_cons_zero, List.set_cons_succ]
          refine wpAnyR_one (i := 14) (by kernel_rfl) rfl (fun K hK => ?_)
          try rw [if_pos (show Region.wanted _ _ = true from rfl)]
          go_simp
          refine hK.out _ _ (fun _ => S3) ?_
          clear hK K
          try simp only [List.setIfInBounds_toArray, List.set_cons_zero, List.set_cons_succ, Act.put]
          refine wpAnyR_one (i := 15) (by kernel_rfl) rfl (fun K hK => ?_)
          go_simp
          refine hK.out _ _ (fun hf => absurd hf (by decide)) ?_
          clear hK K
          refine wpAnyR_done (by kernel_rfl) ?_
          cases ok
          · go_wp2_with (fail)
            go_meet
            exact ⟨A9, c9, xs, we.heap.size, w6.heap.size, rfl, by omega, HX7.out.only HRR.out.2 (.inr (by omega)), ⟨by omega, by have := HRR.out.2.size; omega⟩, HRR.out.2⟩
          · go_wp2_with (fail)
            go_meet
            exact ⟨A11, c11, R, w9.heap.size, w10.heap.size, rfl, by omega, HRR.out.1, ⟨by omega, Nat.le_refl _⟩, HRR.out.2⟩
      case rest =>
      obtain ⟨A10, c10, ys, lo10, hi10, rfl, hyl, hoy, ⟨hgy, hhy⟩, hO8⟩ := hcut
      rename World => w8
      have H8 := Lib.hid (And.intro hoy hO8)
      have hs8 := hO8.size
      have HO3 := Lib.hid (show Only g (g + 1) w3 w8 from (H5.out.2.2.2.trans H7.out.2).trans hO8)
      clear hoy hO8
      obtain ⟨wz, hwz⟩ : ∃ wz, wz = w8.drew := ⟨_, rfl⟩
      have HZ := Lib.hid (show Only g (g + 1) w8 wz by rw [hwz]; exact Only.of_below (Below.refl w8.heap.size w8).drew)
      have HLz := Lib.hid (show Blk wz lb 28 #[.int .i64 l.1, .int .i64 l.2.1, .slice A7 l.2.2.length c7] from (H8.out.2.trans HZ.out).blk HL7.out (.inr (by omega)))
      have HRz := Lib.hid (show Blk wz w.heap.size 28 #[.int .i64 0, .int .i64 0, .slice none 0 0] from (HO3.out.trans HZ.out).blk H3.out.res (.inl HG.out))
      obtain ⟨SS, hSS⟩ : ∃ SS : World → Prop, SS = (fun W => W.cell? ⟨lb, 0, none⟩ = some (.int .i64 l.1) ∧ W.cell? ⟨lb, 1, none⟩ = some (.int .i64 l.2.1) ∧ W.cell? ⟨lb, 2, none⟩ = some (.slice A7 l.2.2.length c7)) := ⟨_, rfl⟩
      have HB := Lib.hid (show ∀ W, SS W → W.cell? ⟨lb, 0, none⟩ = some (.int .i64 l.1) ∧ W.cell? ⟨lb, 1, none⟩ = some (.int .i64 l.2.1) ∧ W.cell? ⟨lb, 2, none⟩ = some (.slice A7 l.2.2.length c7) from by rw [hSS]; exact fun W hW => hW)
      have SB : SS wz := by rw [hSS]; exact ⟨HLz.out.cell 0, HLz.out.cell 1, HLz.out.cell 2⟩
      clear hSS
      have j0 : wz.cell? ⟨w.heap.size, 0, none⟩ = some (.int .i64 0) := HRz.out.cell 0
      have j1 : wz.cell? ⟨w.heap.size, 1, none⟩ = some (.int .i64 0) := HRz.out.cell 1
      have j2 : wz.cell? ⟨w.heap.size, 2, none⟩ = some (.slice none 0 0) := HRz.out.cell 2
      have l0 : wz.frozen? ⟨w.heap.size, 0, none⟩ = false := HRz.out.frozen 0
      have l1 : wz.frozen? ⟨w.heap.size, 1, none⟩ = false := HRz.out.frozen 1
      have l2 : wz.frozen? ⟨w.heap.size, 2, none⟩ = false := HRz.out.frozen 2
      go_upto_region 12 with fail
      refine wp_region_rel SS 4 6 (by kernel_rfl) rfl ?_
      rw [← hwz]
      clear hwz
      refine wpAnyR_pure (i := 0) (oi := _) ?vm0 rfl rfl (by kernel_rfl) (by decide) (fun _ _ _ h => h) rfl ?hym0 (fun _ => SB) ?restm0
      case hym0 => (intro W; go_simp; (try with_reducible rfl))
      try simp only [List.setIfInBounds_toArray, List.set_cons_zero, List.set_cons_succ]
      refine wpAnyR_take (i := 1) (oi := _) ?vm1 rfl rfl (by kernel_rfl) (fun _ _ _ h => h) rfl ?hym1 SB ?restm1
      case hym1 => (intro W hW; obtain ⟨d0, d1, d2⟩ := HB.out W hW; go_simp; (try with_reducible rfl))
      try simp only [List.setIfInBounds_toArray, List.set_cons_zero, List.set_cons_succ]
      refine wpAnyR_pure (i := 2) (oi := _) ?vm2 rfl rfl (by kernel_rfl) (by decide) (fun _ _ _ h => h) rfl ?hym2 (fun _ => SB) ?restm2
      case hym2 => (intro W; go_simp; (try with_reducible rfl))
      try simp only [List.setIfInBounds_toArray, List.set_cons_zero, List.set_cons_succ]
      refine wpAnyR_one (i := 3) (by kernel_rfl) rfl (fun K hK => ?_)
      try rw [if_pos (show Region.wanted _ _ = true from rfl)]
      go_simp
      refine hK.out _ _ (fun _ => SB) ?_
      clear hK K
      try simp only [List.setIfInBounds_toArray, List.set_cons_zero, List.set_cons_succ, Act.put]
      refine wpAnyR_one (i := 4) (by kernel_rfl) rfl (fun K hK => ?_)
      try rw [if_pos (show Region.wanted _ _ = true from rfl)]
      go_simp
      refine hK.out _ _ (fun hf => absurd hf (by decide)) ?_
      clear hK K
      try simp only [List.setIfInBounds_toArray, List.set_cons_zero, List.set_cons_succ, Act.put]
      refine wpAnyR_one (i := 5) (by kernel_rfl) rfl (fun K hK => ?_)
      go_simp
      refine hK.out _ _ (fun hf => absurd hf (by decide)) ?_
      clear hK K
      refine wpAnyR_done (by kernel_rfl) ?_
      go_wp2_with (fail)
      obtain ⟨W, hW⟩ : ∃ W, W = ((wz.setCell ⟨w.heap.size, 0, none⟩ (.int .i64 l.1)).setCell ⟨w.heap.size, 1, none⟩ (.int .i64 l.2.1)).setCell ⟨w.heap.size, 2, none⟩ (.slice A7 l.2.2.length c7) := ⟨_, rfl⟩
      rw [← hW]
      have hbk := Blk.set3 HRz.out (.int .i64 l.1) (.int .i64 l.2.1) (.slice A7 l.2.2.length c7)
      rw [← hW] at hbk
      have d0 : W.cell? ⟨w.heap.size, 0, none⟩ = some (.int .i64 l.1) := hbk.cell 0
      have d1 : W.cell? ⟨w.heap.size, 1, none⟩ = some (.int .i64 l.2.1) := hbk.cell 1
      have d2 : W.cell? ⟨w.heap.size, 2, none⟩ = some (.slice A7 l.2.2.length c7) := hbk.cell 2
      have hgg := HG.out
      have hoW : Only w.heap.size (w.heap.size + 1) wz W := by
        rw [hW]
        exact (((Only.refl _ _ _).setCell (p := ⟨w.heap.size, 0, none⟩) ⟨Nat.le_refl _, Nat.lt_succ_self _⟩ _).setCell (p := ⟨w.heap.size, 1, none⟩) ⟨Nat.le_refl _, Nat.lt_succ_self _⟩ _).setCell (p := ⟨w.heap.size, 2, none⟩) ⟨Nat.le_refl _, Nat.lt_succ_self _⟩ _
      have hsz : wz.heap.size ≤ W.heap.size := hoW.size
      have hsz8 := HZ.out.size
      have hBz : Below w.heap.size w wz := Only.then_ H3.out.below (HO3.out.trans HZ.out) (by omega)
      have hBW : Below w.heap.size w W := by rw [hW]; exact ((hBz.setCell (Nat.le_refl _) _).setCell (Nat.le_refl _) _).setCell (Nat.le_refl _) _
      have hD3 := HS3.out
      have h38 := HO3.out.size
      refine bodyPost_ret (v := .tuple #[.slice Af fs.length cf, .agg #[.int .i64 l.1, .int .i64 l.2.1, .slice A7 l.2.2.length c7], .slice A10 ys.length c10]) (by simp [results, Try.results4, go_sem, d0, d1, d2]) rfl ?_
      have r1 : RdFacts W W.heap.size (.slice Af fs.length cf) fs := ((HFW.out wz (HO3.out.trans HZ.out)).only hoW (.inr (by omega))).rd.more (by omega)
      have r2 : RdInts W W.heap.size (.slice A7 l.2.2.length c7) l.2.2 := (((HI7.out.only (H8.out.2.trans HZ.out) (.inr (by omega))).only hoW (.inr (by omega))).rd).more (by omega)
      have r3 : RdInts W W.heap.size (.slice A10 ys.length c10) ys := (((H8.out.1.only HZ.out (.inr (by omega))).only hoW (.inr (by omega))).rd).more (by omega)
      have hfc := HF.out
      first
        | exact ⟨Af, cf, fs, l, A7, c7, A10, c10, ys, rfl, ⟨by omega, by omega⟩, ⟨hl5, hk5⟩, hyl, r1, r2, r3, hBW⟩
        | exact ⟨Af, cf, fs, l.1, l.2.1, l.2.2, A7, c7, A10, c10, ys, rfl, ⟨by omega, by omega⟩, ⟨hl5, hk5⟩, hyl, r1, r2, r3, hBW⟩

end Go.Proofs.Ytofkcmihcgmmpaa
/-
  The draw of DrawHeadOf.
-/
namespace Go.Proofs.Ytofkcmihcgmmpaa
open Go.RowKit

set_option maxHeartbeats 4000000 in
set_option maxRecDepth 100000 in
theorem drawHeadOf_any (v : Value) (code : List Nat) (w : World) (h : RdBytes w w.heap.size v code) (hby : ∀ b ∈ code, b < 256) (hn : code.length ≤ 1073741824) :
    Calls Try.prog 6 #[v] w fun e w' => ∃ (a : LFact) (ys : List Int) (A : Option Addr) (c : Nat) (A3 : Option Addr) (c3 : Nat),
      e = .returned (.tuple #[.agg #[.int .i64 a.1, .slice A a.2.length c], .slice A3 ys.length c3]) ∧ a.2.length ≤ 8 ∧ ys.length ≤ 8 ∧ RdInts w' w'.heap.size (.slice A a.2.length c) a.2 ∧ RdInts w' w'.heap.size (.slice A3 ys.length c3) ys ∧ Below w.heap.size w w' := by
  have HV := Lib.hid h
  clear h
  go_enter Try.func6, Try.ntmps6
  go_upto_region 1 with fail
  obtain ⟨w0, hw0⟩ : ∃ w0, w0 = w.alloc (Obj.cells #[Value.int IntKind.i64 0, Value.slice none 0 0] 26) := ⟨_, rfl⟩
  have HRA := Lib.hid (show Blk w0 w.heap.size 26 #[.int .i64 0, .slice none 0 0] by rw [hw0]; exact Blk.new _ _ _)
  have HB0 := Lib.hid (show Below w.heap.size w w0 by rw [hw0]; exact below1 _ _)
  have HS0 := Lib.hid (show w0.heap.size = w.heap.size + 1 by rw [hw0]; simp)
  rw [← hw0]
  clear hw0
  go_upto_region 2 with (go_at_call 20; refine (drawMatch_any _ code w0 (HV.out.onM HB0.out) hby hn).mono ?_
                         rintro e w1 ⟨a, f, ys, A, c, A2, c2, A3, c3, rfl, hal, hfl, hyl, ra, rf, ry, B1⟩
                         have HA := Lib.hid ra
                         have HY := Lib.hid ry
                         have HB1 := Lib.hid B1
                         clear ra rf ry B1)
  obtain ⟨w2, hw2⟩ : ∃ w2, w2 = (w1.alloc (Obj.cells #[Value.int IntKind.i64 a.1, Value.slice A a.2.length c] 26)).alloc (Obj.cells #[Value.int IntKind.i64 f.1, Value.slice A2 f.2.length c2] 34) := ⟨_, rfl⟩
  have b2 : Below w1.heap.size w1 w2 := by rw [hw2]; exact below2 _ _ _
  have BX : Blk w2 w1.heap.size 26 #[.int .i64 a.1, .slice A a.2.length c] := by rw [hw2]; exact (Blk.new _ _ _).alloc _
  rw [← hw2]
  have x0 : w2.cell? ⟨w1.heap.size, 0, none⟩ = some (.int .i64 a.1) := BX.cell 0
  have x1 : w2.cell? ⟨w1.heap.size, 1, none⟩ = some (.slice A a.2.length c) := BX.cell 1
  have HB2 := Lib.hid (bthen HB1.out b2)
  have J := HRA.out.below HB2.out HRA.out.lt
  have j0 : w2.cell? ⟨w.heap.size, 0, none⟩ = some (.int .i64 0) := J.cell 0
  have j1 : w2.cell? ⟨w.heap.size, 1, none⟩ = some (.slice none 0 0) := J.cell 1
  have l0 := J.frozen 0
  have l1 := J.frozen 1
  have HJ := Lib.hid J
  have HA2 := Lib.hid (HA.out.below b2 (Nat.le_refl _))
  have HY2 := Lib.hid (HY.out.below b2 (Nat.le_refl _))
  have HS2 := Lib.hid b2.size
  clear hw2 J b2 BX
  go_wp2_with (fail)
  obtain ⟨W, hW⟩ : ∃ W, W = (w2.setCell ⟨w.heap.size, 0, none⟩ (.int .i64 a.1)).setCell ⟨w.heap.size, 1, none⟩ (.slice A a.2.length c) := ⟨_, rfl⟩
  rw [← hW]
  have hbk := (HJ.out.set_ 0 (.int .i64 a.1)).set_ 1 (.slice A a.2.length c)
  rw [← hW] at hbk
  have d0 : W.cell? ⟨w.heap.size, 0, none⟩ = some (.int .i64 a.1) := by rw [hbk.cell 0]; simp
  have d1 : W.cell? ⟨w.heap.size, 1, none⟩ = some (.slice A a.2.length c) := by rw [hbk.cell 1]; simp
  have hoW : Only w.heap.size (w.heap.size + 1) w2 W := by
    rw [hW]
    exact ((Only.refl _ _ _).setCell (p := ⟨w.heap.size, 0, none⟩) ⟨Nat.le_refl _, Nat.lt_succ_self _⟩ _).setCell (p := ⟨w.heap.size, 1, none⟩) ⟨Nat.le_refl _, Nat.lt_succ_self _⟩ _
  have hs0 := HS0.out
  have hs2 := HS2.out
  have hsw := hoW.size
  have hBW : Below w.heap.size w W := by rw [hW]; exact ((bthen HB0.out HB2.out).setCell (Nat.le_refl _) _).setCell (Nat.le_refl _) _
  refine bodyPost_ret (v := .tuple #[.agg #[.int .i64 a.1, .slice A a.2.length c], .slice A3 ys.length c3]) (by simp [results, Try.results6, go_sem, d0, d1]) rfl ?_
  have r1 := ((HA2.out.only hoW (.inr (by omega))).rd).more (B' := W.heap.size) (by omega)
  have r2 := ((HY2.out.only hoW (.inr (by omega))).rd).more (B' := W.heap.size) (by omega)
  first
    | exact ⟨a, ys, A, c, A3, c3, rfl, hal, hyl, r1, r2, hBW⟩
    | exact ⟨a.1, a.2, ys, A, c, A3, c3, rfl, hal, hyl, r1, r2, hBW⟩

end Go.Proofs.Ytofkcmihcgmmpaa
/-
  What comes in, opened into the words of the Base text.
-/
namespace Go.Proofs.Ytofkcmihcgmmpaa
open Go.ChangeShapes Go.WideShapes Go.ChangeAt Go.RowKit Go.Joins Go.Deep

section
variable {H : Type} {enc : TypeId × Value → H} {W : World}

def InFact (W : World) (v : Value) (f : LFact) : Prop := RdFact W W.heap.size v f ∧ f.2.length ≤ maxLen
def InFacts (W : World) (v : Value) (fs : List LFact) : Prop := RdFacts W W.heap.size v fs ∧ fs.length ≤ maxLen ∧ ∀ k (h : k < fs.length), fs[k].2.length ≤ maxLen

end

end Go.Proofs.Ytofkcmihcgmmpaa
/-
  A slice of bytes that came in.
-/
namespace Go.Proofs.Ytofkcmihcgmmpaa
open Go.ChangeShapes Go.WideShapes Go.ChangeAt Go.RowKit Go.Joins Go.Deep

theorem Try.cells5 : Try.prog.cellsOf 5 = 1 := by kernel_rfl

/-- What is known of a slice of bytes that came in. -/
def InBytes (W : World) (v : Value) (bs : List Nat) : Prop := RdBytes W W.heap.size v bs ∧ bs.length ≤ maxLen ∧ ∀ b ∈ bs, b < 256

theorem byte_of_wf {n : Int} (h : (Lit.int .u8 n).wf = true) : 0 ≤ n ∧ n < 256 := by
  simp only [Lit.wf, Bool.and_eq_true, decide_eq_true_eq] at h
  have h1 : IntKind.u8.min = 0 := by decide
  have h2 : IntKind.u8.max = 255 := by decide
  omega

set_option maxRecDepth 100000 in
theorem open_inBytes {H : Type} {enc : TypeId × Value → H} {W : World} {v : Value} {d : DataW H} {p : List MemPlace} {b0 : Nat} (hv : Value.okWide Try.prog W .any b0 22 v) (h : DataW.Trod enc Try.prog W 0 (fun _ => true) true 22 v d p) :
    ∃ bs, InBytes W v bs := by
  obtain ⟨a, len, cap, rfl⟩ := okWide_slice Try.underlying22 hv
  obtain ⟨fuel, hf⟩ := h
  have hf : DataW.trod enc Try.prog W 0 (fun _ => true) true fuel 22 [.slice a len cap] = some (d, p) := by simpa [Value.cells] using hf
  rcases open_ints Try.underlying22 Try.underlying5 Try.cells5 hf with ⟨hcs, _⟩ | ⟨a, len, cap, zs, hcs, _, hl, hm, hz, _, hcell, hwz⟩
  · simp at hcs
    obtain ⟨rfl, rfl, rfl⟩ := hcs
    exact ⟨[], ⟨none, 0, rfl, by simp, fun h => absurd h (by simp)⟩, by simp, by simp⟩
  · simp at hcs
    obtain ⟨rfl, rfl, rfl⟩ := hcs
    simp at hz
    refine ⟨(zs.take len).map Int.toNat, ⟨some a, cap, ?_, by simp; omega, fun hn => ?_⟩, by simp; omega, ?_⟩
    · congr 1
      simp
      omega
    · have hlen : (zs.take len).length = len := by simp; omega
      simp only [List.length_map, hlen] at hn
      obtain ⟨b, o, rfl, hc⟩ := ints_at hcell (by omega)
      refine ⟨b, o, rfl, World.block_lt_of_cell? _ _ (hc 0 (by omega)), fun k hk => ?_⟩
      simp only [List.length_map, hlen] at hk
      have hw := byte_of_wf (hwz zs[k] (List.getElem_mem (by omega)))
      rw [hc k (by omega)]
      simp [show k < zs.length by omega]
      omega
    · intro b hb
      rw [List.mem_map] at hb
      obtain ⟨z, hz1, rfl⟩ := hb
      have := byte_of_wf (hwz z (List.mem_of_mem_take hz1))
      omega

end Go.Proofs.Ytofkcmihcgmmpaa
