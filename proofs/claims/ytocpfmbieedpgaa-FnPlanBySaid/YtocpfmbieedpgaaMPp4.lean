/-
  The law FnPlanOf: for every input the call returns true, and each argument reads behind it as it read before. Conditions: none but the row's own.
-/
import Derived.Test.YtocpfmbieedpgaaMPr1
import Derived.Test.YtocpfmbieedpgaaMPb4
import Derived.BigRegion
import Derived.Deep.RegionHeld3
import Derived.Deep.RegionWith
import Derived.Deep.RegionLaw
import Derived.Deep.DeepCutAuto
import Derived.Test.YtocpfmbieedpgaaMPb1
import Derived.Test.YtocpfmbieedpgaaMPb3
import Derived.Test.YtocpfmbieedpgaaMPr2
import Derived.Test.YtocpfmbieedpgaaMPo1
import Derived.Test.YtocpfmbieedpgaaRows
import Derived.Test.YtocpfmbieedpgaaMPp1
import Derived.Test.YtocpfmbieedpgaaMPp3
/-
  A program and facts of it drawn: the walk of l3Case.
-/
namespace Go.Proofs.Ytocpfmbieedpgaa
open Go.RowKit

theorem l6Least_any (a b : Int) (w : World) : Calls Try.prog 120 #[.int .i64 a, .int .i64 b] w fun e w' => e = .returned (.int .i64 (if b < a then b else a)) ∧ w = w' := by
  go_enter Try.func120, Try.ntmps120
  by_cases h : b < a
  · have hb : decide (b < a) = true := by simpa using h
    go_wp2_with (fail)
    go_ret
    exact ⟨ret_int rfl, rfl⟩
  · have hb : decide (b < a) = false := by simpa using h
    go_wp2_with (fail)
    go_ret
    exact ⟨ret_int rfl, rfl⟩

section
variable {w wr w' w1 : World} {D g q B : Nat} {bs : List Nat} {A Ar : Option Addr} {c cr : Nat} {ar : List Int} {es : List Ent}
theorem Pg4.go (h : Pg4 w wr D B g bs q A c ar Ar cr es) (hg : g < w.heap.size) {q' : Nat} (hr : Rdr w' g bs q') (ho : Only g (g + 1) wr w') : Pg4 w w' D B g bs q' A c ar Ar cr es :=
  ⟨h.res.only ho (.inr (by omega)), h.prg.only ho (.inr (by have := h.low; have := h.high; omega)), h.own.only ho (.inr (by omega)), h.rules.only ho (by have := h.low; omega), h.low, h.high, hr, h.only.trans ho⟩
theorem Pg4.start (hg : g < w.heap.size) (hB : w.heap.size + 1 ≤ B) (hB2 : B ≤ w1.heap.size) (hw : w' = w1.alloc (.cells #[.slice A ar.length c, .slice Ar es.length cr] 132))
    (h1 : OwnInts w1 (w.heap.size + 1) B (.slice A ar.length c) ar) (h2 : RowR B w1 es Ar cr) (h3 : Rdr w1 g bs q) (h4 : Only g (g + 1) (w.alloc (.cells #[.slice none 0 0, .slice none 0 0] 132)) w1) : Pg4 w w' w1.heap.size B g bs q A c ar Ar cr es := by
  have hb : Below w1.heap.size w1 w' := by rw [hw]; exact below1 _ _
  refine ⟨((Blk.new w 132 #[.slice none 0 0, .slice none 0 0]).only h4 (.inr (by omega))).below hb (by omega), by rw [hw]; exact Blk.new _ _ _, h1.below hb hB2, h2.below hb, hB, hB2, h3.below hb h3.lt, ((Only.of_below (below1 w _)).trans h4).trans (Only.of_below hb)⟩
end
theorem OwnInts.capLe {w : World} {lo hi c : Nat} {A : Option Addr} {xs : List Int} (h : OwnInts w lo hi (.slice A xs.length c) xs) : xs.length ≤ c := by
  rcases h.1.2 with ⟨e, h0⟩ | ⟨g, cq, cur, e, hb, hgg, hn, _⟩
  · injection e with _ _ e
    omega
  · injection e with _ _ e
    omega
/-- A row's first elements. -/
theorem OwnInts.front {w : World} {lo hi c n : Nat} {A : Option Addr} {xs : List Int} (h : OwnInts w lo hi (.slice A xs.length c) xs) (hn : n ≤ xs.length) (h0 : 0 < xs.length) : OwnInts w lo hi (.slice A n c) (xs.take n) := by
  obtain ⟨⟨hl, h⟩, hlt⟩ := h
  rcases h with ⟨e, h1⟩ | ⟨g, cap, cur, e, hb, hg, h1, h2, h3, h4⟩
  · omega
  · injection e with e1 e2 e3
    subst e1 e3
    have hlen : (xs.take n).length = n := by simp; omega
    refine ⟨⟨by rw [List.length_map, hlen]; omega, .inr ⟨g, c, cur, by rw [hlen], hb, hg, by omega, h2, h3, ?_⟩⟩, fun g' hg' => hlt g' hg'⟩
    rw [hlen, List.map_take, ← h4, List.take_take]
    congr 1
    omega

/-- The arity of the facts: a copy, no place over two; wd is the world that it was laid in. -/
def CapAt (wc wx : World) (g : Nat) (bs : List Nat) (q : Nat) (lo hi : Nat) (s : Value) : Prop :=
  ∃ (A4 : Option Addr) (c4 : Nat) (zs : List Int), s = .slice A4 zs.length c4 ∧ zs.length ≤ 5 ∧ (∀ x ∈ zs, 0 ≤ x ∧ x ≤ 2) ∧ OwnInts wx lo hi (.slice A4 zs.length c4) zs ∧ hi ≤ wx.heap.size ∧ Rdr wx g bs q ∧ Only g (g + 1) wc wx

/-- The same, ahead of the cut, with a flag. -/
def CapF (wc wx : World) (g : Nat) (bs : List Nat) (q : Nat) (lo hi : Nat) (A4 : Option Addr) (c4 : Nat) (zs : List Int) (s : Value) : Prop :=
  ∃ fl : Bool, s = .bool fl ∧ OwnInts wx lo hi (.slice A4 zs.length c4) zs ∧ hi ≤ wx.heap.size ∧ Rdr wx g bs q ∧ Only g (g + 1) wc wx

set_option maxHeartbeats 4000000 in
set_option maxRecDepth 100000 in
theorem l3Case_any (g : Nat) (bs : List Nat) (p most : Nat) (no : Int) (w : World) (h : Rdr w g bs p) (hp : p ≤ 50000) (hm : most ≤ 64) :
    Calls Try.prog 88 #[.pointer (some ⟨g, 0, none⟩), .int .i64 no, .int .i64 most] w fun e w' => ∃ (A Ar Af : Option Addr) (c cr cf B q : Nat) (ar : List Int) (es : List Ent) (fs : List LFact), e = .returned (.tuple #[.agg #[.slice A ar.length c, .slice Ar es.length cr], .slice Af fs.length cf]) ∧ AnyOk ar es ∧ fs.length ≤ most ∧ tot fs ≤ 3 * most ∧ q ≤ p + 1710 + 24 * most ∧
      w.heap.size ≤ B ∧ B ≤ w'.heap.size ∧ OwnInts w' w.heap.size B (.slice A ar.length c) ar ∧ RowR B w' es Ar cr ∧ OwnFacts w' B w'.heap.size (.slice Af fs.length cf) fs ∧ Rdr w' g bs q ∧ Only g (g + 1) w w' := by
  have hgl := h.lt
  have H := Lib.hid h
  clear h
  go_enter Try.func88, Try.ntmps88
  go_wp2_with (fail)
  refine (l2Any_any g bs p no _ (H.out.below (below1 w (.cells #[.slice none 0 0, .slice none 0 0] 132)) H.out.lt) (by omega)).mono ?_
  rintro e w1 ⟨A, Ar, c, cr, B, q, ar, es, rfl, hok, hq, hB, hB2, h1, h2, h3, h4⟩
  have HOK := Lib.hid hok
  simp only [World.size_alloc] at hB h1
  have HQ := Lib.hid (And.intro hB (And.intro hB2 (And.intro h1 (And.intro h2 (And.intro h3 h4)))))
  have hal4 := hok.1
  have hal5 := hok.2.1
  clear hok hB hB2 h1 h2 h3 h4
  go_upto_region 2 with (fail)
  obtain ⟨wc, hwc⟩ : ∃ wS, wS = w1.alloc (.cells #[.slice A ar.length c, .slice Ar es.length cr] 132) := ⟨_, rfl⟩
  have H1 := Lib.hid (Pg4.start hgl HQ.out.1 HQ.out.2.1 hwc HQ.out.2.2.1 HQ.out.2.2.2.1 HQ.out.2.2.2.2.1 HQ.out.2.2.2.2.2)
  rw [← hwc]
  clear hwc HQ
  obtain ⟨D, hD⟩ : ∃ D, D = w1.heap.size := ⟨_, rfl⟩
  rw [← hD] at H1 ⊢
  clear hD
  have k0 : wc.cell? ⟨D, 0, none⟩ = some (.slice A ar.length c) := H1.out.prg.cell 0
  have hgc : g < wc.heap.size := H1.out.rdr.lt
  have HSZ := Lib.hid H1.out.only.size
  have hDc := H1.out.prg.lt
  go_wp2_with (fail)
  refine (l3Copy_any (.slice A ar.length c) ar wc (H1.out.own.rd.more (by have := H1.out.high; omega)) (by omega)).mono ?_
  rintro e w2 ⟨A4, c4, rfl, o4, b4⟩
  have HI := Lib.hid o4
  have HO2 := Lib.hid (Only.of_below (lo := g) (hi := g + 1) b4)
  have HR2 := Lib.hid (H1.out.rdr.below b4 hgc)
  have hs2 := b4.size
  clear o4 b4 k0
  go_wp2_with (fail)
  go_loopw [10] (fun i wr => ∃ (k : Nat) (zs : List Int), k ≤ ar.length ∧ i = .int .i64 k ∧ zs.length = ar.length ∧ (∀ x ∈ zs, 0 ≤ x ∧ x ≤ 3) ∧ (∀ j (h : j < zs.length), j < k → zs[j] ≤ 2) ∧ OwnInts wr wc.heap.size w2.heap.size (.slice A4 ar.length c4) zs ∧ Rdr wr g bs q ∧ Only g (g + 1) wc wr ∧ wr.heap.size = w2.heap.size) (fun i _ => ar.length - (intOf i).toNat)
  case atStart => exact ⟨0, ar, Nat.zero_le _, rfl, rfl, HOK.out.2.2.1, fun j _ h => absurd h (Nat.not_lt_zero _), HI.out, HR2.out, HO2.out, rfl⟩
  case round =>
    obtain ⟨k, zs, hk, rfl, hzl, hz3, hz2, hzo, hrr, hor, hsr⟩ := hrel
    have HZL := Lib.hid hzl
    have HZ := Lib.hid (And.intro hz3 (And.intro hz2 (And.intro hzo (And.intro hrr (And.intro hor hsr)))))
    by_cases hlt : k < ar.length
    · have hlz : k < zs.length := by omega
      obtain ⟨g4, hg4⟩ : ∃ g4, A4 = some ⟨g4, 0, none⟩ := by
        obtain ⟨g2, cap, e, _⟩ := hzo.1.form (by omega)
        injection e with e1 _ _
        exact ⟨g2, e1⟩
      subst hg4
      rw [← hzl] at hzo
      have HST := Lib.hid (fun x => hzo.store (j := k) rfl hlz x)
      have r0 := hzo.1.cellAt k (by omega)
      have r1 := hzo.1.frozenAt k
      have hg4l := hzo.lt (g := g4) rfl
      have hg4w : wc.heap.size ≤ g4 := hg4l.1
      rw [show (zs.map (Value.int .i64))[k]? = some (.int .i64 zs[k]) by simp [hlz]] at r0
      have hkb : decide ((k : Int) < (ar.length : Int)) = true := by rw [decide_eq_true_eq]; omega
      clear hzl hz3 hz2 hzo hrr hor hsr hg4l
      go_wp2_with (go_at_call 120; refine (l6Least_any zs[k] 2 wr).mono ?_; rintro e wn ⟨rfl, rfl⟩)
      go_roundw
      case rel =>
        obtain ⟨z3, z2, zo, rr, orr, sr⟩ := HZ.out
        obtain ⟨x, hx⟩ : ∃ x, x = (if (2 : Int) < zs[k] then 2 else zs[k]) := ⟨_, rfl⟩
        have hxr : 0 ≤ x ∧ x ≤ 2 := by
          have := z3 _ (List.getElem_mem hlz)
          rw [hx]
          split <;> omega
        rw [← hx]
        refine ⟨k + 1, zs.set k x, by omega, by go_num, by rw [List.length_set]; exact HZL.out, fun y hy => ?_, fun j hj hjk => ?_, ?_, rr.same fun k' hk' => Below.heap_setCell _ _ _ k' (by show k' ≠ g4; omega), orr.setNew (p := ⟨g4, k, none⟩) hg4w _, by simpa using sr⟩
        · rcases List.mem_or_eq_of_mem_set hy with h | h
          · exact z3 y h
          · omega
        · by_cases e : k = j
          · subst e
            rw [List.getElem_set_self]
            exact hxr.2
          · rw [List.getElem_set_ne e]
            exact z2 j (by simpa using hj) (by omega)
        · have := HST.out x
          rw [HZL.out] at this
          exact this
      case measure => simp [intOf]; omega
    · have hkb : decide ((k : Int) < (ar.length : Int)) = false := by rw [decide_eq_false_iff_not]; omega
      have hz2' : ∀ x ∈ zs, 0 ≤ x ∧ x ≤ 2 := fun x hx => by
        obtain ⟨j, hj, rfl⟩ := List.getElem_of_mem hx
        exact ⟨(hz3 _ (List.getElem_mem hj)).1, hz2 j hj (by omega)⟩
      have HZ2 := Lib.hid (And.intro hz2' (And.intro hzo (And.intro hrr (And.intro hor hsr))))
      have hgr : g < wr.heap.size := hrr.lt
      clear hzl hz3 hz2 hz2' hzo hrr hor hsr HZ HI HR2 HO2
      go_upto_region 7 with (fail)
      obtain ⟨wl, rfl⟩ : ∃ wl, wl = wr := ⟨_, rfl⟩
      go_cut [38] (fun s38 wx => CapF wc wx g bs (q + 1) wc.heap.size w2.heap.size A4 c4 zs s38)
      case first =>
        go_wp2_with (fail)
        refine (pick_any g bs q 5 _ HZ2.out.2.2.1 (by omega) (by omega)).mono ?_
        rintro e w4 ⟨⟨x, rfl, _⟩, hp4⟩
        have H4 := Lib.hid (show OwnInts w4 wc.heap.size w2.heap.size (.slice A4 zs.length c4) zs ∧ w2.heap.size ≤ w4.heap.size ∧ Rdr w4 g bs (q + 1) ∧ Only g (g + 1) wc w4 from ⟨by rw [HZL.out]; exact HZ2.out.2.1.only hp4.2 (.inr hgc), by have := hp4.2.size; have := HZ2.out.2.2.2.2; omega, hp4.1, HZ2.out.2.2.2.1.trans hp4.2⟩)
        clear hp4
        by_cases hx : 0 < x
        · have hxb : decide (0 < x) = true := by simpa using hx
          have hlb : decide (2 < (ar.length : Int)) = true := by rw [decide_eq_true_eq]; omega
          go_wp2_with (fail)
          go_meet
          exact ⟨true, rfl, H4.out⟩
        · have hxb : decide (0 < x) = false := by simpa using hx
          go_wp2_with (fail)
          go_meet
          exact ⟨false, rfl, H4.out⟩
      case rest =>
      obtain ⟨fl, rfl, hcf⟩ := hcut
      rename World => w4
      have H4 := Lib.hid hcf
      clear hcf
      go_upto_if 38 with (fail)
      go_cut [9] (fun s9 wx => CapAt wc wx g bs (q + 1) wc.heap.size w2.heap.size s9)
      case first =>
        cases fl
        · go_wp2_with (fail)
          go_meet
          exact ⟨A4, c4, zs, by rw [HZL.out], by rw [HZL.out]; exact hal5, HZ2.out.1, H4.out⟩
        · have HFR := Lib.hid (H4.out.1.front (n := 2) (by rw [HZL.out]; omega) (by rw [HZL.out]; omega))
          obtain ⟨g4, hg4⟩ : ∃ g4, A4 = some ⟨g4, 0, none⟩ := by
            obtain ⟨g2, cap, e, _⟩ := H4.out.1.1.form (by rw [HZL.out]; omega)
            injection e with e1 _ _
            exact ⟨g2, e1⟩
          subst hg4
          have hc4 : ar.length ≤ c4 := by rw [← HZL.out]; exact H4.out.1.capLe
          go_wp2_with (fail)
          go_meet
          exact ⟨some ⟨g4, 0, none⟩, c4, zs.take 2, by simp [HZL.out]; omega, by simp; omega, fun x hx => HZ2.out.1 x (List.mem_of_mem_take hx), by
            have e : (zs.take 2).length = 2 := by simp [HZL.out]; omega
            rw [e]
            exact HFR.out, H4.out.2⟩
      case rest =>
      obtain ⟨A9, c9, zs9, rfl, hz9, hz9r, ho9, hh9, hr9, hO9⟩ := hcut
      rename World => w5
      have HZ9 := Lib.hid hz9r
      have H5 := Lib.hid (And.intro ho9 (And.intro hh9 (And.intro hr9 hO9)))
      clear ho9 hh9 hr9 hO9 hz9r H4
      obtain ⟨wy, hwy⟩ : ∃ wy, wy = w5.drew := ⟨_, rfl⟩
      have Hy := Lib.hid (show OwnInts wy wc.heap.size w2.heap.size (.slice A9 zs9.length c9) zs9 ∧ w2.heap.size ≤ wy.heap.size ∧ Rdr wy g bs (q + 1) ∧ Only g (g + 1) wc wy by rw [hwy]; exact ⟨H5.out.1.below (Below.refl _ _).drew H5.out.2.1, H5.out.2.1, H5.out.2.2.1.below (Below.refl _ _).drew H5.out.2.2.1.lt, H5.out.2.2.2.trans (Only.of_below (Below.refl _ _).drew)⟩)
      have HPy := Lib.hid (H1.out.go hgl Hy.out.2.2.1 Hy.out.2.2.2)
      obtain ⟨SS, hSS⟩ : ∃ SS : World → Prop, SS = (fun W => W.cell? ⟨D, 0, none⟩ = some (.slice A ar.length c) ∧ W.cell? ⟨D, 1, none⟩ = some (.slice Ar es.length cr)) := ⟨_, rfl⟩
      have HB := Lib.hid (show ∀ W, SS W → W.cell? ⟨D, 0, none⟩ = some (.slice A ar.length c) ∧ W.cell? ⟨D, 1, none⟩ = some (.slice Ar es.length cr) from by rw [hSS]; exact fun W hW => hW)
      have HC := Lib.hid (show ∀ W, W.cell? ⟨D, 0, none⟩ = some (.slice A ar.length c) → W.cell? ⟨D, 1, none⟩ = some (.slice Ar es.length cr) → SS W from by rw [hSS]; exact fun W h1 h2 => ⟨h1, h2⟩)
      clear hSS
      have SB := HC.out _ (HPy.out.prg.cell 0) (HPy.out.prg.cell 1)
      go_upto_region 9 with (fail)
      refine wp_region_rel SS 5 7 (by kernel_rfl) rfl ?_
      rw [← hwy]
      clear hwy
      refine wpAnyR_pure (i := 1) (oi := _) ?vk1 rfl rfl (by kernel_rfl) (by decide) (fun _ _ _ h => h) rfl ?hyk1 (fun _ => SB) ?restk1
      case hyk1 => (intro W; go_simp; (try with_reducible rfl))
      try simp only [List.setIfInBounds_toArray, List.set_cons_zero, List.set_cons_succ]
      refine wpAnyR_pure (i := 2) (oi := _) ?vk2 rfl rfl (by kernel_rfl) (by decide) (fun _ _ _ h => h) rfl ?hyk2 (fun _ => SB) ?restk2
      case hyk2 => (intro W; go_simp; (try with_reducible rfl))
      try simp only [List.setIfInBounds_toArray, List.set_cons_zero, List.set_cons_succ]
      refine wpAnyR_pure (i := 3) (oi := _) ?vk3 rfl rfl (by kernel_rfl) (by decide) (fun _ _ _ h => h) rfl ?hyk3 (fun _ => SB) ?restk3
      case hyk3 => (intro W; go_simp; (try with_reducible rfl))
      try simp only [List.setIfInBounds_toArray, List.set_cons_zero, List.set_cons_succ]
      refine wpAnyR_take (i := 0) (oi := _) ?vk0 rfl rfl (by kernel_rfl) (fun _ _ _ h => h) rfl ?hyk0 SB ?restk0
      case hyk0 => (intro W hW; obtain ⟨E0, E1⟩ := HB.out W hW; go_simp; (try with_reducible rfl))
      try simp only [List.setIfInBounds_toArray, List.set_cons_zero, List.set_cons_succ]
      refine wpAnyR_one (i := 4) (by kernel_rfl) rfl (fun K hK => ?_)
      try rw [if_pos (show Region.wanted _ _ = true from rfl)]
      go_simp
      refine (l1Some_any g bs (q + 1) most wc.heap.size w2.heap.size (.slice A9 zs9.length c9) zs9 wy Hy.out.2.2.1 (by omega) Hy.out.1 hgc Hy.out.2.1 HZ9.out (by omega) hm).mono ?_
      rintro e wn ⟨Af, cf, fs, qn, rfl, hfl, hft, hqn, ofs, hrn, hon⟩
      have HN := Lib.hid (And.intro ofs (And.intro hrn (Hy.out.2.2.2.trans hon)))
      have hsn := hon.size
      have H4n := Lib.hid (H1.out.go hgl hrn (Hy.out.2.2.2.trans hon))
      have j0 : wn.cell? ⟨w.heap.size, 0, none⟩ = some (.slice none 0 0) := H4n.out.res.cell 0
      have j1 : wn.cell? ⟨w.heap.size, 1, none⟩ = some (.slice none 0 0) := H4n.out.res.cell 1
      have l0 := H4n.out.res.frozen 0
      have l1 := H4n.out.res.frozen 1
      have SN := HC.out _ (H4n.out.prg.cell 0) (H4n.out.prg.cell 1)
      clear ofs hrn hon
      refine hK.out _ _ (fun _ => SN) ?_
      clear hK K
      try simp only [List.setIfInBounds_toArray, List.set_cons_zero, List.set_cons_succ, Act.put]
      refine wpAnyR_one (i := 5) (by kernel_rfl) rfl (fun K hK => ?_)
      try rw [if_pos (show Region.wanted _ _ = true from rfl)]
      go_simp
      refine hK.out _ _ (fun hf => absurd hf (by decide)) ?_
      clear hK K
      try simp only [List.setIfInBounds_toArray, List.set_cons_zero, List.set_cons_succ, Act.put]
      refine wpAnyR_one (i := 6) (by kernel_rfl) rfl (fun K hK => ?_)
      go_simp
      refine hK.out _ _ (fun hf => absurd hf (by decide)) ?_
      clear hK K
      refine wpAnyR_done (by kernel_rfl) ?_
      go_wp2_with (fail)
      obtain ⟨W, hW⟩ : ∃ W, W = (wn.setCell ⟨w.heap.size, 0, none⟩ (.slice A ar.length c)).setCell ⟨w.heap.size, 1, none⟩ (.slice Ar es.length cr) := ⟨_, rfl⟩
      rw [← hW]
      have hbk := (H4n.out.res.set_ 0 (.slice A ar.length c)).set_ 1 (.slice Ar es.length cr)
      rw [← hW] at hbk
      have d0 : W.cell? ⟨w.heap.size, 0, none⟩ = some (.slice A ar.length c) := by rw [hbk.cell 0]; simp
      have d1 : W.cell? ⟨w.heap.size, 1, none⟩ = some (.slice Ar es.length cr) := by rw [hbk.cell 1]; simp
      have hB := H4n.out.low
      have hH := H4n.out.high
      have hyB := HPy.out.prg.lt
      have hDn := H4n.out.prg.lt
      have hk : ∀ k, k ≠ w.heap.size → W.heap[k]? = wn.heap[k]? := fun k hk => by
        rw [hW]
        exact (Below.heap_setCell _ _ _ k hk).trans (Below.heap_setCell _ _ _ k hk)
      have hsz : W.heap.size = wn.heap.size := by rw [hW]; simp
      have hO := H4n.out.only
      refine bodyPost_ret (v := .tuple #[.agg #[.slice A ar.length c, .slice Ar es.length cr], .slice Af fs.length cf]) (by simp [results, Try.results88, go_sem, d0, d1]) rfl ?_
      refine ⟨A, Ar, Af, c, cr, cf, B, qn, ar, es, fs, rfl, HOK.out, hfl, hft, by omega, by omega, by omega, (H4n.out.own.keep fun k k1 k2 => hk k (by omega)).mono (by omega) (Nat.le_refl _), H4n.out.rules.keep (by rw [hsz]; exact Nat.le_refl _) (fun k k1 _ => hk k (by omega)), ?_, H4n.out.rdr.same fun k hk' => hk k (by omega), ⟨?_, ?_, ?_, by rw [hsz]; exact hO.size, fun k hk' hn => (hk k (by omega)).trans (hO.block k hk' hn)⟩⟩
      · rw [hsz]
        have ho2 : Only w.heap.size (w.heap.size + 1) wn W := by
          rw [hW]
          exact ((Only.refl w.heap.size (w.heap.size + 1) wn).setCell (p := ⟨w.heap.size, 0, none⟩) ⟨Nat.le_refl _, Nat.lt_succ_self _⟩ _).setCell (p := ⟨w.heap.size, 1, none⟩) ⟨Nat.le_refl _, Nat.lt_succ_self _⟩ _
        exact (HN.out.1.only ho2 (.inr (by omega))).mono (by omega) (Nat.le_refl _)
      · rw [hW]; exact hO.os
      · rw [hW]; exact hO.tape
      · rw [hW]; exact hO.output

end Go.Proofs.Ytocpfmbieedpgaa
/-
  The draws of l10Case and DrawPlanOf.
-/
namespace Go.Proofs.Ytocpfmbieedpgaa
open Go.RowKit

theorem RdBytes.onP {w w' : World} {v : Value} {bs : List Nat} (h : RdBytes w w.heap.size v bs) (hb : Below w.heap.size w w') : RdBytes w' w'.heap.size v bs := by
  obtain ⟨A, c, rfl, hc, hx⟩ := h.off (w' := w') (fun k hk => hb.block k hk)
  refine ⟨A, c, rfl, hc, fun hn => ?_⟩
  obtain ⟨b, o, rfl, hlt, hk⟩ := hx hn
  exact ⟨b, o, rfl, by have := hb.size; omega, hk⟩

theorem OwnInts.rdM {w : World} {lo hi : Nat} {v : Value} {xs : List Int} (h : OwnInts w lo hi v xs) (hh : hi ≤ w.heap.size) : RdInts w w.heap.size v xs := (h.mono (Nat.le_refl _) hh).rd
theorem ent_sz {ar : List Int} {es : List Ent} (h : AnyOk ar es) {i : Nat} (hi : i < es.length) : szR es[i].1 ≤ 16 ∧ KindsOk es[i].1.2 := by
  obtain ⟨h1, h2, h3, h4⟩ := h.2.2.2.2.2 _ (List.getElem_mem hi)
  exact ⟨by unfold szR; omega, h4⟩

set_option maxHeartbeats 4000000 in
set_option maxRecDepth 100000 in
theorem l10Case_any (g : Nat) (bs : List Nat) (p : Nat) (w : World) (h : Rdr w g bs p) (hp : p ≤ 40000) :
    Calls Try.prog 44 #[.pointer (some ⟨g, 0, none⟩)] w fun e w' => ∃ (A Af A2 A3 : Option Addr) (c cf c2 c3 q : Nat) (ar : List Int) (fs : List LFact) (r : LRule), e = .returned (.tuple #[.slice A ar.length c, .slice Af fs.length cf, .agg #[.int .i64 r.1.1, .slice A2 r.1.2.length c2, .slice A3 r.2.length c3]]) ∧ ar.length ≤ 5 ∧ szR r ≤ 16 ∧ KindsOk r.2 ∧ fs.length ≤ 8 ∧ tot fs ≤ 24 ∧ q ≤ p + 2000 ∧
      OwnInts w' w.heap.size w'.heap.size (.slice A ar.length c) ar ∧ OwnFacts w' w.heap.size w'.heap.size (.slice Af fs.length cf) fs ∧ OwnInts w' w.heap.size w'.heap.size (.slice A2 r.1.2.length c2) r.1.2 ∧ OwnLits w' w.heap.size w'.heap.size (.slice A3 r.2.length c3) r.2 ∧ Rdr w' g bs q ∧ Only g (g + 1) w w' := by
  have hgl := h.lt
  have H := Lib.hid h
  clear h
  go_enter Try.func44, Try.ntmps44
  go_upto_region 1 with fail
  obtain ⟨w0, hw0⟩ : ∃ w0, w0 = w.alloc (Obj.cells #[Value.int IntKind.i64 0, Value.slice none 0 0, Value.slice none 0 0] 28) := ⟨_, rfl⟩
  have HRA := Lib.hid (show Blk w0 w.heap.size 28 #[.int .i64 0, .slice none 0 0, .slice none 0 0] by rw [hw0]; exact Blk.new _ _ _)
  have HB0 := Lib.hid (show Below w.heap.size w w0 by rw [hw0]; exact below1 _ _)
  have hs0 : w0.heap.size = w.heap.size + 1 := by rw [hw0]; simp
  rw [← hw0]
  clear hw0
  have CL := Lib.hid (l3Case_any g bs p 8 2 w0 (H.out.below HB0.out hgl) (by omega) (by omega))
  go_upto_region 2 with (go_at_call 88; refine CL.out.mono ?_; rintro e w1 ⟨A, Ar, Af, c, cr, cf, B, q, ar, es, fs, rfl, hok, hf1, hf2, hq, hB, hB2, h1, h2, h3, h4, h5⟩)
  obtain ⟨w2, hw2⟩ : ∃ w2, w2 = w1.alloc (.cells #[.slice A ar.length c, .slice Ar es.length cr] 132) := ⟨_, rfl⟩
  have b12 : Below w1.heap.size w1 w2 := by rw [hw2]; exact below1 _ _
  have XD : Blk w2 w1.heap.size 132 #[.slice A ar.length c, .slice Ar es.length cr] := by rw [hw2]; exact Blk.new _ _ _
  rw [← hw2]
  clear hw2
  have hn1 : 0 < es.length := hok.2.2.2.1
  obtain ⟨gr, rfl, hgr1, hgr2⟩ := h2.form hn1
  have hgw : g < w1.heap.size := h4.lt
  have hne : g ≠ w1.heap.size := by omega
  have hneg : g ≠ gr := by omega
  have HES := Lib.hid (show ∀ i (h : i < es.length), szR es[i].1 ≤ 16 ∧ KindsOk es[i].1.2 from fun i hi => ent_sz hok hi)
  have HAL := Lib.hid hok.2.1
  have HCE := Lib.hid (show es.length ≤ cr from h2.capOk)
  have hel : es.length ≤ 4 := hok.2.2.2.2.1
  have X1 := Lib.hid (And.intro hB (And.intro hB2 (And.intro h1 (And.intro h2 (And.intro h3 (And.intro h4 h5))))))
  obtain ⟨SS, hSS⟩ : ∃ SS : World → Prop, SS = (fun W => W.cell? ⟨w1.heap.size, 0, none⟩ = some (.slice A ar.length c) ∧ W.cell? ⟨w1.heap.size, 1, none⟩ = some (.slice (some ⟨gr, 0, none⟩) es.length cr) ∧ ∀ i (_ : i < es.length), W.cell? ⟨gr, i * 3, none⟩ = some (.int .i64 es[i].1.1.1) ∧ W.cell? ⟨gr, i * 3 + 1, none⟩ = some es[i].2.1 ∧ W.cell? ⟨gr, i * 3 + 2, none⟩ = some es[i].2.2) := ⟨_, rfl⟩
  have HB := Lib.hid (show ∀ W, SS W → (W.cell? ⟨w1.heap.size, 0, none⟩ = some (.slice A ar.length c) ∧ W.cell? ⟨w1.heap.size, 1, none⟩ = some (.slice (some ⟨gr, 0, none⟩) es.length cr) ∧ ∀ i (_ : i < es.length), W.cell? ⟨gr, i * 3, none⟩ = some (.int .i64 es[i].1.1.1) ∧ W.cell? ⟨gr, i * 3 + 1, none⟩ = some es[i].2.1 ∧ W.cell? ⟨gr, i * 3 + 2, none⟩ = some es[i].2.2) from by rw [hSS]; exact fun W hW => hW)
  have HS := Lib.hid (show ∀ W, Only g (g + 1) w2 W → SS W from by
    rw [hSS]
    intro W hW
    have y := hW.blk XD (by omega)
    have hr2 : ∀ j, W.cell? ⟨gr, j, none⟩ = w1.cell? ⟨gr, j, none⟩ := fun j => World.cell?_of_block ((hW.block gr (by have := b12.size; omega) (by omega)).trans (b12.block gr hgr2))
    refine ⟨y.cell 0, y.cell 1, fun i hi => ?_⟩
    rw [hr2, hr2, hr2]
    exact h2.at_ hi)
  have O12 := Lib.hid (And.intro b12 (show Rdr w2 g bs q from h4.below b12 hgw))
  clear hSS hok hB hB2 h1 h2 h3 h4 h5 b12 XD
  refine wp_region_rel SS 14 15 (by kernel_rfl) rfl ?_
  obtain ⟨wy, hwy⟩ : ∃ wy, wy = w2.drew := ⟨_, rfl⟩
  have OY : Only g (g + 1) w2 wy := by rw [hwy]; exact ⟨rfl, rfl, rfl, Nat.le_refl _, fun _ _ _ => rfl⟩
  have RY : Rdr wy g bs q := by rw [hwy]; exact O12.out.2
  rw [← hwy]
  clear hwy
  have S0 := HS.out _ OY
  refine wpAnyR_pure (i := 0) (oi := _) ?va0 rfl rfl (by kernel_rfl) (by decide) (fun _ _ _ h => h) rfl ?hya0 (fun _ => S0) ?resta0
  case hya0 => (intro W; go_simp; (try with_reducible rfl))
  try simp only [List.setIfInBounds_toArray, List.set_cons_zero, List.set_cons_succ]
  refine wpAnyR_take (i := 1) (oi := _) ?va1 rfl rfl (by kernel_rfl) (fun _ _ _ h => h) rfl ?hya1 S0 ?resta1
  case hya1 => (intro W hW; obtain ⟨d0, d1, _⟩ := HB.out W hW; go_simp; (try with_reducible rfl))
  try simp only [List.setIfInBounds_toArray, List.set_cons_zero, List.set_cons_succ]
  refine wpAnyR_pure (i := 2) (oi := _) ?va2 rfl rfl (by kernel_rfl) (by decide) (fun _ _ _ h => h) rfl ?hya2 (fun _ => S0) ?resta2
  case hya2 => (intro W; go_simp; (try with_reducible rfl))
  try simp only [List.setIfInBounds_toArray, List.set_cons_zero, List.set_cons_succ]
  refine wpAnyR_pure (i := 3) (oi := _) ?va3 rfl rfl (by kernel_rfl) (by decide) (fun _ _ _ h => h) rfl ?hya3 (fun _ => S0) ?resta3
  case hya3 => (intro W; go_simp; (try with_reducible rfl))
  try simp only [List.setIfInBounds_toArray, List.set_cons_zero, List.set_cons_succ]
  refine wpAnyR_take (i := 4) (oi := _) ?va4 rfl rfl (by kernel_rfl) (fun _ _ _ h => h) rfl ?hya4 S0 ?resta4
  case hya4 => (intro W hW; obtain ⟨d0, d1, _⟩ := HB.out W hW; go_simp; (try with_reducible rfl))
  try simp only [List.setIfInBounds_toArray, List.set_cons_zero, List.set_cons_succ]
  refine wpAnyR_pure (i := 5) (oi := _) ?va5 rfl rfl (by kernel_rfl) (by decide) (fun _ _ _ h => h) rfl ?hya5 (fun _ => S0) ?resta5
  case hya5 => (intro W; go_simp; (try with_reducible rfl))
  try simp only [List.setIfInBounds_toArray, List.set_cons_zero, List.set_cons_succ]
  refine wpAnyR_pure (i := 6) (oi := _) ?va6 rfl rfl (by kernel_rfl) (by decide) (fun _ _ _ h => h) rfl ?hya6 (fun _ => S0) ?resta6
  case hya6 => (intro W; go_simp; (try with_reducible rfl))
  try simp only [List.setIfInBounds_toArray, List.set_cons_zero, List.set_cons_succ]
  refine wpAnyR_take (i := 7) (oi := _) ?va7 rfl rfl (by kernel_rfl) (fun _ _ _ h => h) rfl ?hya7 S0 ?resta7
  case hya7 => (intro W hW; obtain ⟨d0, d1, _⟩ := HB.out W hW; go_simp; (try with_reducible rfl))
  try simp only [List.setIfInBounds_toArray, List.set_cons_zero, List.set_cons_succ]
  refine wpAnyR_pure (i := 8) (oi := _) ?va8 rfl rfl (by kernel_rfl) (by decide) (fun _ _ _ h => h) rfl ?hya8 (fun _ => S0) ?resta8
  case hya8 => (intro W; go_simp; (try with_reducible rfl))
  try simp only [List.setIfInBounds_toArray, List.set_cons_zero, List.set_cons_succ]
  refine wpAnyR_one (i := 9) (by kernel_rfl) rfl (fun K hK => ?_)
  try rw [if_pos (show Region.wanted _ _ = true from rfl)]
  go_simp
  refine (pick_any g bs q (es.length : Int) wy RY (by omega) (by omega)).mono ?_
  rintro e w3 ⟨⟨x, rfl, hx⟩, hpk⟩
  have hxr := hx.1 (by omega)
  obtain ⟨i, rfl⟩ : ∃ i : Nat, x = (i : Int) := ⟨x.toNat, by omega⟩
  have hi : i < es.length := by omega
  have O3 := Lib.hid (OY.trans hpk.2)
  have R3 := Lib.hid hpk.1
  have S1 := HS.out _ O3.out
  clear hx hpk
  refine hK.out _ _ (fun _ => S1) ?_
  clear hK K
  try simp only [List.setIfInBounds_toArray, List.set_cons_zero, List.set_cons_succ, Act.put]
  obtain ⟨lo1, hi1, lo2, hi2, e1, e2, e3, e4, _, _, e7, e8⟩ := X1.out.2.2.2.1.own i hi
  obtain ⟨A2, c2, e9⟩ := e7.form
  obtain ⟨A3, c3, e10⟩ := e8.form
  rw [e9] at e7
  rw [e10] at e8
  have HEI := Lib.hid (And.intro e1 (And.intro e2 (And.intro e3 (And.intro e4 (And.intro e7 e8)))))
  have HRW := Lib.hid (And.intro e9 e10)
  clear e1 e2 e3 e4 e7 e8 e9 e10
  refine wpAnyR_pure (i := 10) (oi := _) (.pointer (some ⟨gr, i * 3, none⟩)) rfl rfl (by kernel_rfl) (by decide) (fun _ _ _ h => h) rfl ?hyb10 (fun _ => S1) ?restb10
  case hyb10 => (intro W; go_simp; (try simp))
  try simp only [List.setIfInBounds_toArray, List.set_cons_zero, List.set_cons_succ]
  refine wpAnyR_take (i := 11) (oi := _) (.agg #[.int .i64 es[i].1.1.1, .slice A2 es[i].1.1.2.length c2, .slice A3 es[i].1.2.length c3]) rfl rfl (by kernel_rfl) (fun _ _ _ h => h) rfl ?hyb11 S1 ?restb11
  case hyb11 =>
    intro W hW
    obtain ⟨_, _, hall⟩ := HB.out W hW
    obtain ⟨d0, d1, d2⟩ := hall i hi
    rw [HRW.out.1] at d1
    rw [HRW.out.2] at d2
    clear hall
    go_simp
    try with_reducible rfl
  try simp only [List.setIfInBounds_toArray, List.set_cons_zero, List.set_cons_succ]
  refine wpAnyR_one (i := 12) (by kernel_rfl) rfl (fun K hK => ?_)
  try rw [if_pos (show Region.wanted _ _ = true from rfl)]
  go_simp
  refine hK.out _ _ (fun _ => S1) ?_
  clear hK K
  refine wpAnyR_one (i := 13) (by kernel_rfl) rfl (fun K hK => ?_)
  try rw [if_pos (show Region.wanted _ _ = true from rfl)]
  go_simp
  refine hK.out _ _ (fun _ => S1) ?_
  clear hK K
  have hRA1 := X1.out.2.2.2.2.2.2.blk HRA.out (.inr (by omega))
  have HRA3 := Lib.hid (O3.out.blk (hRA1.below O12.out.1 hRA1.lt) (.inr (by omega)))
  have j0 := HRA3.out.cell 0
  have j1 := HRA3.out.cell 1
  have j2 := HRA3.out.cell 2
  have l0 := HRA3.out.frozen 0
  have l1 := HRA3.out.frozen 1
  have l2 := HRA3.out.frozen 2
  clear hRA1
  refine wpAnyR_one (i := 14) (by kernel_rfl) rfl (fun K hK => ?_)
  go_simp
  refine hK.out _ _ (fun hf => absurd hf (by decide)) ?_
  clear hK K
  refine wpAnyR_done (by kernel_rfl) ?_
  go_wp2_with fail
  obtain ⟨W, hW⟩ : ∃ W, W = ((w3.setCell ⟨w.heap.size, 0, none⟩ (.int .i64 es[i].1.1.1)).setCell ⟨w.heap.size, 1, none⟩ (.slice A2 es[i].1.1.2.length c2)).setCell ⟨w.heap.size, 2, none⟩ (.slice A3 es[i].1.2.length c3) := ⟨_, rfl⟩
  rw [← hW]
  have hbk := Blk.set3 HRA3.out (.int .i64 es[i].1.1.1) (.slice A2 es[i].1.1.2.length c2) (.slice A3 es[i].1.2.length c3)
  rw [← hW] at hbk
  have d0 : W.cell? ⟨w.heap.size, 0, none⟩ = some (.int .i64 es[i].1.1.1) := hbk.cell 0
  have d1 : W.cell? ⟨w.heap.size, 1, none⟩ = some (.slice A2 es[i].1.1.2.length c2) := hbk.cell 1
  have d2 : W.cell? ⟨w.heap.size, 2, none⟩ = some (.slice A3 es[i].1.2.length c3) := hbk.cell 2
  have hk3 : ∀ k, k ≠ w.heap.size → W.heap[k]? = w3.heap[k]? := fun k hne => by
    rw [hW]
    exact ((Below.heap_setCell _ _ _ k hne).trans (Below.heap_setCell _ _ _ k hne)).trans (Below.heap_setCell _ _ _ k hne)
  have hsz : w3.heap.size = W.heap.size := by rw [hW]; simp
  have hO3 : Only g (g + 1) w W := by
    have h1 : Only g (g + 1) w w3 := ((Only.of_below HB0.out).trans X1.out.2.2.2.2.2.2).trans ((Only.of_below O12.out.1).trans O3.out)
    rw [hW]
    exact Only.set3 h1 (Nat.le_refl _) _ _ _
  have hs1 := X1.out.2.2.2.2.2.2.size
  have hs3 := O3.out.size
  have hs2 := O12.out.1.size
  have hk : ∀ k, w0.heap.size ≤ k → k < w1.heap.size → W.heap[k]? = w1.heap[k]? := fun k k1 k2 =>
    ((hk3 k (by omega)).trans (O3.out.block k (by omega) (by omega))).trans (O12.out.1.block k k2)
  have hBl := X1.out.1
  have hBu := X1.out.2.1
  obtain ⟨e1, e2, e3, e4, e7, e8⟩ := HEI.out
  refine bodyPost_ret (v := .tuple #[.slice A ar.length c, .slice Af fs.length cf, .agg #[.int .i64 es[i].1.1.1, .slice A2 es[i].1.1.2.length c2, .slice A3 es[i].1.2.length c3]]) (by simp [results, Try.results44, go_sem, d0, d1, d2]) rfl ?_
  have hF : OwnFacts W B w1.heap.size (.slice Af fs.length cf) fs := by
    have h1 := (X1.out.2.2.2.2.1.below O12.out.1 (Nat.le_refl _)).only O3.out (.inr (by omega))
    rw [hW]
    exact h1.only (((Only.refl w.heap.size (w.heap.size + 1) w3).setCell (p := ⟨w.heap.size, 0, none⟩) ⟨Nat.le_refl _, Nat.lt_succ_self _⟩ _).setCell (p := ⟨w.heap.size, 1, none⟩) ⟨Nat.le_refl _, Nat.lt_succ_self _⟩ _ |>.setCell (p := ⟨w.heap.size, 2, none⟩) ⟨Nat.le_refl _, Nat.lt_succ_self _⟩ _) (.inr (by omega))
  exact ⟨A, Af, A2, A3, c, cf, c2, c3, q + 1, ar, fs, es[i].1, rfl, HAL.out, (HES.out i hi).1, (HES.out i hi).2, hf1, hf2, by omega,
    (X1.out.2.2.1.keep fun k k1 k2 => hk k (by omega) (by omega)).mono (by omega) (by omega), hF.mono (by omega) (by omega), (e7.keep fun k k1 k2 => hk k (by omega) (by omega)).mono (by omega) (by omega), (e8.keep fun k k1 k2 => hk k (by omega) (by omega)).mono (by omega) (by omega), R3.out.same fun k k1 => hk3 k (by omega), hO3⟩

set_option maxHeartbeats 1000000 in
set_option maxRecDepth 100000 in
theorem drawPlanOf_any (v : Value) (code : List Nat) (w : World) (h : RdBytes w w.heap.size v code) (hby : ∀ b ∈ code, b < 256) (hn : code.length ≤ 1073741824) :
    Calls Try.prog 10 #[v] w fun e w' => ∃ (ar : List Int) (r : LRule) (A : Option Addr) (c : Nat) (A2 : Option Addr) (c2 : Nat) (A3 : Option Addr) (c3 : Nat),
      e = .returned (.tuple #[.slice A ar.length c, .agg #[.int .i64 r.1.1, .slice A2 r.1.2.length c2, .slice A3 r.2.length c3]]) ∧ ar.length ≤ 5 ∧ szR r ≤ 16 ∧
      RdInts w' w'.heap.size (.slice A ar.length c) ar ∧ RdInts w' w'.heap.size (.slice A2 r.1.2.length c2) r.1.2 ∧ RdLits w' w'.heap.size (.slice A3 r.2.length c3) r.2 ∧ Below w.heap.size w w' := by
  have HV := Lib.hid h
  clear h
  go_enter Try.func10, Try.ntmps10
  go_upto_region 1 with fail
  obtain ⟨w0, hw0⟩ : ∃ w0, w0 = w.alloc (Obj.cells #[Value.int IntKind.i64 0, Value.slice none 0 0, Value.slice none 0 0] 28) := ⟨_, rfl⟩
  have HRA := Lib.hid (show Blk w0 w.heap.size 28 #[.int .i64 0, .slice none 0 0, .slice none 0 0] by rw [hw0]; exact Blk.new _ _ _)
  have HB0 := Lib.hid (show Below w.heap.size w w0 by rw [hw0]; exact below1 _ _)
  rw [← hw0]
  clear hw0
  obtain ⟨g, hg⟩ : ∃ g, g = w0.heap.size := ⟨_, rfl⟩
  go_upto_region 2 with (first
    | (go_at_call 45; refine (l40Open_any v code w0 (HV.out.onP HB0.out) hby hn).mono ?_
       rintro e w1 ⟨rfl, hr1, hb1⟩
       rw [← hg] at hr1 ⊢
       have hg1 : g < w1.heap.size := hr1.lt
       have HB1 := Lib.hid (bthen HB0.out hb1)
       have HRA1 := Lib.hid (HRA.out.below hb1 HRA.out.lt)
       obtain ⟨bs, hbs⟩ : ∃ bs, bs = code.take 2000 := ⟨_, rfl⟩
       rw [← hbs] at hr1
       have CC := Lib.hid (l10Case_any g bs 0 w1 hr1 (by omega))
       have HGL := Lib.hid (And.intro hg1 (show w.heap.size < g from by rw [hg]; exact HRA.out.lt))
       clear hb1 hr1 hbs hg1 hg)
    | (go_at_call 44; refine CC.out.mono ?_
       rintro e w2 ⟨A, Af, A2, A3, c, cf, c2, c3, q, ar, fs, r, rfl, h1, h2, _, _, _, _, ra, _, rh, rb, _, ho⟩
       have HQ := Lib.hid (And.intro ra (And.intro rh rb))
       have HO := Lib.hid ho
       clear ra rh rb ho))
  obtain ⟨w3, hw3⟩ : ∃ w3, w3 = w2.alloc (Obj.cells #[.int .i64 r.1.1, .slice A2 r.1.2.length c2, .slice A3 r.2.length c3] 28) := ⟨_, rfl⟩
  have b23 : Below w2.heap.size w2 w3 := by rw [hw3]; exact below1 _ _
  have XD := Lib.hid (show Blk w3 w2.heap.size 28 #[.int .i64 r.1.1, .slice A2 r.1.2.length c2, .slice A3 r.2.length c3] by rw [hw3]; exact Blk.new _ _ _)
  rw [← hw3]
  clear hw3
  have hs2 := HO.out.size
  have hsw : w.heap.size < w1.heap.size := HRA1.out.lt
  have hgw := HGL.out.2
  have HRA3 := Lib.hid ((HO.out.blk HRA1.out (.inl (by omega))).below b23 (by omega))
  have HQ3 := Lib.hid (And.intro (HQ.out.1.below b23 (Nat.le_refl _)) (And.intro (HQ.out.2.1.below b23 (Nat.le_refl _)) (HQ.out.2.2.below b23 (Nat.le_refl _))))
  have hs3 := b23.size
  have HB3 := Lib.hid (bthen (HB1.out.trans (HO.out.below (by omega) HB1.out.size)) b23)
  obtain ⟨SS, hSS⟩ : ∃ SS : World → Prop, SS = (fun W => W.cell? ⟨w2.heap.size, 0, none⟩ = some (.int .i64 r.1.1) ∧ W.cell? ⟨w2.heap.size, 1, none⟩ = some (.slice A2 r.1.2.length c2) ∧ W.cell? ⟨w2.heap.size, 2, none⟩ = some (.slice A3 r.2.length c3)) := ⟨_, rfl⟩
  have HB := Lib.hid (show ∀ W, SS W → (W.cell? ⟨w2.heap.size, 0, none⟩ = some (.int .i64 r.1.1) ∧ W.cell? ⟨w2.heap.size, 1, none⟩ = some (.slice A2 r.1.2.length c2) ∧ W.cell? ⟨w2.heap.size, 2, none⟩ = some (.slice A3 r.2.length c3)) from by rw [hSS]; exact fun W hW => hW)
  have S3 : SS w3 := by rw [hSS]; exact ⟨XD.out.cell 0, XD.out.cell 1, XD.out.cell 2⟩
  have HS := Lib.hid (show ∀ W, Below w3.heap.size w3 W → SS W from by rw [hSS]; exact fun W hW => ⟨(XD.out.below hW XD.out.lt).cell 0, (XD.out.below hW XD.out.lt).cell 1, (XD.out.below hW XD.out.lt).cell 2⟩)
  clear hSS b23 S3
  refine wp_region_rel SS 3 4 (by kernel_rfl) rfl ?_
  obtain ⟨wy, hwy⟩ : ∃ wy, wy = w3.drew := ⟨_, rfl⟩
  have BY : Below w3.heap.size w3 wy := by rw [hwy]; exact (Below.refl _ _).drew
  rw [← hwy]
  clear hwy
  have S0 := HS.out _ BY
  refine wpAnyR_pure (i := 0) (oi := _) ?va0 rfl rfl (by kernel_rfl) (by decide) (fun _ _ _ h => h) rfl ?hya0 (fun _ => S0) ?resta0
  case hya0 => (intro W; go_simp; (try with_reducible rfl))
  try simp only [List.setIfInBounds_toArray, List.set_cons_zero, List.set_cons_succ]
  refine wpAnyR_take (i := 1) (oi := _) ?va1 rfl rfl (by kernel_rfl) (fun _ _ _ h => h) rfl ?hya1 S0 ?resta1
  case hya1 => (intro W hW; obtain ⟨d0, d1, d2⟩ := HB.out W hW; go_simp; (try with_reducible rfl))
  try simp only [List.setIfInBounds_toArray, List.set_cons_zero, List.set_cons_succ]
  refine wpAnyR_one (i := 2) (by kernel_rfl) rfl (fun K hK => ?_)
  try rw [if_pos (show Region.wanted _ _ = true from rfl)]
  go_simp
  refine hK.out _ _ (fun _ => S0) ?_
  clear hK K
  have HRY := Lib.hid (HRA3.out.below BY HRA3.out.lt)
  have j0 : wy.cell? ⟨w.heap.size, 0, none⟩ = some (.int .i64 0) := HRY.out.cell 0
  have j1 : wy.cell? ⟨w.heap.size, 1, none⟩ = some (.slice none 0 0) := HRY.out.cell 1
  have j2 : wy.cell? ⟨w.heap.size, 2, none⟩ = some (.slice none 0 0) := HRY.out.cell 2
  have l0 := HRY.out.frozen 0
  have l1 := HRY.out.frozen 1
  have l2 := HRY.out.frozen 2
  refine wpAnyR_one (i := 3) (by kernel_rfl) rfl (fun K hK => ?_)
  go_simp
  refine hK.out _ _ (fun hf => absurd hf (by decide)) ?_
  clear hK K
  refine wpAnyR_done (by kernel_rfl) ?_
  go_wp2_with fail
  obtain ⟨W, hW⟩ : ∃ W, W = ((wy.setCell ⟨w.heap.size, 0, none⟩ (.int .i64 r.1.1)).setCell ⟨w.heap.size, 1, none⟩ (.slice A2 r.1.2.length c2)).setCell ⟨w.heap.size, 2, none⟩ (.slice A3 r.2.length c3) := ⟨_, rfl⟩
  rw [← hW]
  have hbk := Blk.set3 HRY.out (.int .i64 r.1.1) (.slice A2 r.1.2.length c2) (.slice A3 r.2.length c3)
  rw [← hW] at hbk
  have d0 : W.cell? ⟨w.heap.size, 0, none⟩ = some (.int .i64 r.1.1) := hbk.cell 0
  have d1 : W.cell? ⟨w.heap.size, 1, none⟩ = some (.slice A2 r.1.2.length c2) := hbk.cell 1
  have d2 : W.cell? ⟨w.heap.size, 2, none⟩ = some (.slice A3 r.2.length c3) := hbk.cell 2
  have hk3 : ∀ k, k ≠ w.heap.size → W.heap[k]? = wy.heap[k]? := fun k hne => by
    rw [hW]
    exact ((Below.heap_setCell _ _ _ k hne).trans (Below.heap_setCell _ _ _ k hne)).trans (Below.heap_setCell _ _ _ k hne)
  have hsz : wy.heap.size = W.heap.size := by rw [hW]; simp
  have hB : Below w.heap.size w W := by rw [hW]; exact (((bthen HB3.out BY).setCell (Nat.le_refl _) _).setCell (Nat.le_refl _) _).setCell (Nat.le_refl _) _
  refine bodyPost_ret (v := .tuple #[.slice A ar.length c, .agg #[.int .i64 r.1.1, .slice A2 r.1.2.length c2, .slice A3 r.2.length c3]]) (by simp [results, Try.results10, go_sem, d0, d1, d2]) rfl ?_
  have hy := BY.size
  have hk : ∀ k, w1.heap.size ≤ k → k < w2.heap.size → W.heap[k]? = w3.heap[k]? := fun k k1 k2 => (hk3 k (by omega)).trans (BY.block k (by omega))
  exact ⟨ar, r, A, c, A2, c2, A3, c3, rfl, h1, h2, (HQ3.out.1.keep hk).rd.more (by omega), (HQ3.out.2.1.keep hk).rd.more (by omega), (HQ3.out.2.2.keep hk).rd.more (by omega), hB⟩

end Go.Proofs.Ytocpfmbieedpgaa
/-
  The walk of the plain laws' wrInts.
-/
namespace Go.Proofs.Ytocpfmbieedpgaa
open Go.RowKit

theorem RdInts.at_ {w : World} {B c : Nat} {A : Option Addr} {xs : List Int} (h : RdInts w B (.slice A xs.length c) xs) {k : Nat} (hk : k < xs.length) : ∃ b o, A = some ⟨b, o, none⟩ ∧ b < B ∧ w.cell? ⟨b, o + k, none⟩ = some (.int .i64 xs[k]) := by
  obtain ⟨A', c', e, _, hx⟩ := h
  injection e with e1 _ _
  subst e1
  obtain ⟨b, o, rfl, hb, hx⟩ := hx (by omega)
  exact ⟨b, o, rfl, hb, hx k hk⟩

set_option maxHeartbeats 1000000 in
set_option maxRecDepth 100000 in
theorem wrInts_any (va vb : Value) (xs ys : List Int) (w : World) (ha : RdInts w w.heap.size va xs) (hb : RdInts w w.heap.size vb ys) (hx : xs.length ≤ 1048576) (hy : ys.length ≤ 1048576) :
    Calls Try.prog 21 #[va, vb] w fun e w' => e = .returned (.bool (decide (xs = ys))) ∧ Below w.heap.size w w' := by
  have HX := Lib.hid ha
  have HY := Lib.hid hb
  obtain ⟨A, c, rfl, hc, _⟩ := ha
  obtain ⟨A2, c2, rfl, hc2, _⟩ := hb
  by_cases hl : xs.length = ys.length
  · have hl1 : ((xs.length : Int) != (ys.length : Int)) = false := by simp [hl]
    have HL := Lib.hid hl
    clear hl
    go_enter Try.func21, Try.ntmps21
    go_wp2_with (fail)
    go_loopw [13] (fun i wr => ∃ k : Nat, k ≤ xs.length ∧ i = .int .i64 k ∧ (∀ j, j < k → xs[j]? = ys[j]?) ∧ Below w.heap.size w wr) (fun i _ => xs.length - (intOf i).toNat)
    case atStart => exact ⟨0, Nat.zero_le _, rfl, fun j h => absurd h (Nat.not_lt_zero _), Below.refl _ _⟩
    case round =>
      obtain ⟨k, hk, rfl, hs, hbe⟩ := hrel
      by_cases hlt : k < xs.length
      · have hlt2 : k < ys.length := by have := HL.out; omega
        obtain ⟨b, o, rfl, hbB, k0⟩ := (HX.out.on hbe).at_ hlt
        obtain ⟨b2, o2, rfl, hbB2, m0⟩ := (HY.out.on hbe).at_ hlt2
        have d0 : wr.drew.cell? ⟨b, o + k, none⟩ = some (.int .i64 xs[k]) := k0
        have d1 : wr.drew.cell? ⟨b2, o2 + k, none⟩ = some (.int .i64 ys[k]) := m0
        have HBE := Lib.hid hbe
        by_cases he : xs[k] = ys[k]
        · have hdb : (xs[k] != ys[k]) = false := by simp [he]
          have HS2 := Lib.hid (show ∀ j, j < k + 1 → xs[j]? = ys[j]? from fun j hj => by
            by_cases e : j = k
            · subst e; rw [List.getElem?_eq_getElem hlt, List.getElem?_eq_getElem hlt2, he]
            · exact hs j (by omega))
          clear he hs hbe
          go_upto_region 6 with fail
          go_big_region
          go_wp2_with (fail)
          go_roundw
          case rel => exact ⟨k + 1, by omega, by go_num, HS2.out, HBE.out.drew⟩
          case measure => simp [intOf]; omega
        · have hdb : (xs[k] != ys[k]) = true := by simpa using he
          have HE := Lib.hid (show decide (xs = ys) = false from decide_eq_false fun e => he (by subst e; rfl))
          clear he hs hbe
          go_upto_region 6 with fail
          go_big_region
          go_wp2_with (fail)
          go_ret
          exact ⟨ret_bool HE.out.symm, HBE.out.drew⟩
      · have HE := Lib.hid (show decide (xs = ys) = true from decide_eq_true (List.ext_getElem? fun j => by
          by_cases e : j < k
          · exact hs j e
          · have := HL.out
            rw [List.getElem?_eq_none (by omega), List.getElem?_eq_none (by omega)]))
        clear hs
        go_wp2_with (fail)
        go_ret
        exact ⟨ret_bool HE.out.symm, hbe⟩
  · have hl1 : ((xs.length : Int) != (ys.length : Int)) = true := by simp; omega
    have HE := Lib.hid (show decide (xs = ys) = false from decide_eq_false fun e => hl (by rw [e]))
    clear hl
    go_enter Try.func21, Try.ntmps21
    go_wp2_with (fail)
    go_ret
    exact ⟨ret_bool HE.out.symm, Below.refl _ _⟩

end Go.Proofs.Ytocpfmbieedpgaa
/-
  An order makes a plan just if it is among all orders; the plan by an order is a plan. Plain mathematics.
-/
namespace Go.Proofs.Ytocpfmbieedpgaa
open Go.RowKit

theorem ordF_mem {b : List LLit} : ∀ d xs, xs.length + d = b.length → OrdTo b xs xs.length → ∀ y, (y ∈ ordF b d xs ↔ orderOk b y = true ∧ y.take xs.length = xs)
  | 0, xs, hl, h, y => by
    show y ∈ [xs] ↔ _
    rw [List.mem_singleton]
    constructor
    · rintro rfl
      exact ⟨orderOk_yes (by omega) h rfl, List.take_length⟩
    · rintro ⟨h1, h2⟩
      have := (orderOk_range' h1)
      rw [List.take_of_length_le (by omega)] at h2
      exact h2
  | d + 1, xs, hl, h, y => by
    show y ∈ ordTo (ordF b d) (canAt b xs) xs b.length ↔ _
    rw [ordTo_mem]
    have ih : ∀ i, i < b.length → canAt b xs i = true → _ := fun i (hi : i < b.length) (hc : canAt b xs i = true) => ordF_mem (b := b) d (xs ++ [(i : Int)]) (by simp; omega) (by
      rw [show (xs ++ [(i : Int)]).length = xs.length + 1 by simp]
      exact (OrdTo_snoc hi).2 ⟨h, hc⟩) y
    constructor
    · rintro ⟨i, hi, hc, hy⟩
      obtain ⟨h1, h2⟩ := (ih i hi hc).1 hy
      refine ⟨h1, ?_⟩
      have h3 := congrArg (List.take xs.length) h2
      rw [List.take_take, show (xs ++ [(i : Int)]).length = xs.length + 1 by simp, Nat.min_eq_left (by omega), List.take_append_of_le_length (Nat.le_refl _), List.take_length] at h3
      exact h3
    · rintro ⟨h1, h2⟩
      have hyl := orderOk_range' h1
      have hk : xs.length < y.length := by omega
      have ha : ordAt b y xs.length = true := by
        unfold orderOk at h1
        simp only [Bool.and_eq_true, decide_eq_true_eq] at h1
        exact h1.2 _ hk
      rw [ordAt_get hk, h2] at ha
      simp only [Bool.and_eq_true, decide_eq_true_eq] at ha
      obtain ⟨⟨r0, r1⟩, r2, r3⟩ := ha
      have e : ((y[xs.length].toNat : Nat) : Int) = y[xs.length] := by omega
      have hc : canAt b xs y[xs.length].toNat = true := by
        unfold canAt
        rw [e, r2, r3]
        rfl
      refine ⟨y[xs.length].toNat, by omega, hc, (ih _ (by omega) hc).2 ⟨h1, ?_⟩⟩
      rw [show (xs ++ [((y[xs.length].toNat : Nat) : Int)]).length = xs.length + 1 by simp, take_snoc y xs.length hk, h2, e]
where orderOk_range' {b : List LLit} {y : List Int} (h : orderOk b y = true) : y.length = b.length := by
        unfold orderOk at h
        simp only [Bool.and_eq_true, decide_eq_true_eq] at h
        exact h.1
theorem planOrd_mem {ar : List Int} {r : LRule} {os : List Int} : os ∈ planOrdL ar r ↔ planByK ar r os = true := by
  unfold planOrdL planByK
  cases hr : ruleOk ar r
  · simp
  · rw [if_pos rfl, Bool.true_and, ordF_mem r.2.length [] (by simp) (fun j hj => absurd hj (by simp))]
    simp

/-- What stands in a range without doubles, as many as there are, leaves none out. -/
theorem nodup_len : ∀ (n : Nat) (os : List Int), os.Nodup → (∀ i ∈ os, 0 ≤ i ∧ i < (n : Int)) → os.length ≤ n
  | 0, os, _, h => by
    cases os with
    | nil => simp
    | cons i os => have := h i List.mem_cons_self; omega
  | n + 1, os, hn, h => by
    by_cases hm : (n : Int) ∈ os
    · have := nodup_len n (os.erase (n : Int)) (hn.erase _) fun i hi => by
        have h1 := h i (List.mem_of_mem_erase hi)
        have h2 : i ≠ (n : Int) := fun e => by
          rw [e] at hi
          exact (List.Nodup.mem_erase_iff hn).1 hi |>.1 rfl
        omega
      rw [List.length_erase_of_mem hm] at this
      omega
    · have := nodup_len n os hn fun i hi => by
        have h1 := h i hi
        have h2 : i ≠ (n : Int) := fun e => hm (e ▸ hi)
        omega
      omega
theorem OrdTo.nodup {b : List LLit} {os : List Int} : ∀ k, k ≤ os.length → OrdTo b os k → (os.take k).Nodup
  | 0, _, _ => by simp
  | k + 1, hk, h => by
    have ih := OrdTo.nodup k (by omega) fun j hj => h j (by omega)
    rw [take_snoc os k hk, List.nodup_append]
    have h1 := h k (by omega)
    rw [ordAt_get hk] at h1
    simp only [Bool.and_eq_true] at h1
    refine ⟨ih, by simp, fun a ha c hc => ?_⟩
    obtain rfl := List.mem_singleton.1 hc
    intro e
    rw [← e] at h1
    simp [ha] at h1
theorem order_all {b : List LLit} {os : List Int} (h : orderOk b os = true) {i : Nat} (hi : i < b.length) : (i : Int) ∈ os := by
  unfold orderOk at h
  simp only [Bool.and_eq_true, decide_eq_true_eq] at h
  have hn := OrdTo.nodup os.length (Nat.le_refl _) h.2
  rw [List.take_length] at hn
  apply Classical.byContradiction
  intro hm
  have := nodup_len b.length ((i : Int) :: os) (List.nodup_cons.2 ⟨hm, hn⟩) fun j hj => by
    rcases List.mem_cons.1 hj with rfl | hj
    · omega
    · obtain ⟨k, hk, rfl⟩ := List.getElem_of_mem hj
      have := h.2 k hk
      rw [ordAt_get hk] at this
      simp only [Bool.and_eq_true, decide_eq_true_eq] at this
      exact this.1
  simp at this
  omega

theorem bodyMask_more (ls : List LLit) (l : LLit) : bodyMask (ls ++ [l]) = bodyMask ls ||| maskOf l.2.2 := by simp [bodyMask, List.foldl_append]
theorem opsTo_mask (b : List LLit) (os : List Int) : ∀ k, k ≤ os.length → bodyMask (opsTo b os k) = ordMask b (os.take k)
  | 0, _ => by simp [opsTo, bodyMask, ordMask]
  | k + 1, hk => by
    rw [opsTo_step hk, bodyMask_more, opsTo_mask b os k (by omega), ordMask_take hk]
theorem opsTo_take (b : List LLit) (os : List Int) : ∀ n k, k ≤ n → (opsTo b os n).take k = opsTo b os k
  | 0, k, h => by simp [show k = 0 by omega, opsTo]
  | n + 1, k, h => by
    by_cases e : k = n + 1
    · subst e
      rw [List.take_of_length_le (by rw [opsTo_len]; exact Nat.le_refl _)]
    · rw [opsTo, List.take_append_of_le_length (by rw [opsTo_len]; omega)]
      exact opsTo_take b os n k (by omega)
theorem opsTo_get {b : List LLit} {os : List Int} {n k : Nat} (hn : n ≤ os.length) (hk : k < n) (h : k < (opsTo b os n).length) : (opsTo b os n)[k] = (kindOf (litAt b (os[k]'(by omega))) (ordMask b (os.take k)), (litAt b (os[k]'(by omega))).2) := by
  have h1 := opsTo_take b os n (k + 1) hk
  rw [take_snoc _ k h, opsTo_take b os n k (by omega), opsTo_step (b := b) (by omega)] at h1
  have := List.append_cancel_left h1
  simpa using this

theorem ruleOk_parts {ar : List Int} {r : LRule} (h : ruleOk ar r = true) : arityOk ar = true ∧ atomFits ar r.1 = true ∧ r.2.length ≤ 4 ∧ (∀ l ∈ r.2, litFits ar l = true) ∧ ruleSafe r = true := by
  unfold ruleOk ruleFits at h
  simp only [Bool.and_eq_true, decide_eq_true_eq] at h
  exact ⟨h.1, h.2.1, h.2.2.1, List.all_eq_true.1 h.2.2.2.1, h.2.2.2.2⟩
/-- A literal's operation can stand where the literal can come. -/
theorem opOk_lit {ar : List Int} {l : LLit} {m : Nat} (h : litFits ar l = true) (hc : canB l m = true) : opOk ar (kindOf l m, l.2) m false = true := by
  obtain ⟨k, a⟩ := l
  have hk := litFits_kind h
  unfold litFits at h
  unfold canB at hc
  unfold opOk opFits kindOf
  simp only at h hc hk ⊢
  rcases hk with rfl | rfl | rfl | rfl
  · cases ho : openB a.2 m <;> simp_all
  · simp_all
  · simp_all
  · simp_all
/-- The head's terms are known behind all literals. -/
theorem head_known {r : LRule} (hs : ruleSafe r = true) {os : List Int} (h : orderOk r.2 os = true) : openB r.1.2 (ordMask r.2 os) = false := by
  rw [openB_no]
  intro t ht hv
  rw [ruleSafe_eq] at hs
  have hi := var_lt4 hv
  have h1 : (ruleMask r).testBit (-1 - t).toNat = true := by
    unfold ruleMask
    rw [Nat.testBit_or, maskOf_bit]
    have : (r.1.2.any fun s => isVarB s && decide ((-1 - s).toNat = (-1 - t).toNat)) = true := by
      rw [List.any_eq_true]
      exact ⟨t, ht, by simp [hv]⟩
    rw [this, Bool.true_or]
  have h2 : (yesMask r.2).testBit (-1 - t).toNat = true := by
    unfold safeTo at hs
    rw [List.all_eq_true] at hs
    have := hs (-1 - t).toNat (by simp; omega)
    rw [h1] at this
    simpa using this
  rw [yesMask_bit, List.any_eq_true] at h2
  obtain ⟨l, hl, h3⟩ := h2
  simp only [Bool.and_eq_true, decide_eq_true_eq] at h3
  obtain ⟨i, hil, rfl⟩ := List.getElem_of_mem hl
  rw [ordMask_bit, List.any_eq_true]
  refine ⟨(i : Int), order_all h hil, ?_⟩
  rw [litAt_get rfl hil]
  exact h3.2
/-- The plan by an order is a plan. -/
theorem planOk_by {ar : List Int} {r : LRule} {os : List Int} (h : planByK ar r os = true) : planOk ar (planFor r os) = true := by
  unfold planByK at h
  rw [Bool.and_eq_true] at h
  obtain ⟨hr, ho⟩ := h
  obtain ⟨h1, h2, h3, h4, h5⟩ := ruleOk_parts hr
  obtain ⟨hl, hrg⟩ := orderOk_range ho
  have hlen := planFor_len r os
  refine planOk_yes (k := os.length + 1) h1 (by omega) (by omega) ?_ (by omega)
  have hod : OrdTo r.2 os os.length := by
    unfold orderOk at ho
    simp only [Bool.and_eq_true, decide_eq_true_eq] at ho
    exact ho.2
  have hol := opsTo_len r.2 os os.length
  intro j hj hjl
  by_cases e : j = os.length
  · subst e
    have e1 : (planFor r os)[os.length] = (5, r.1) := by
      simp [planFor, List.getElem_append, hol]
    have e2 : (planFor r os).take os.length = opsTo r.2 os os.length := by
      unfold planFor
      rw [List.take_append_of_le_length (by omega), List.take_of_length_le (by omega)]
    rw [e1, e2, opsTo_mask r.2 os _ (Nat.le_refl _), List.take_length, hlen]
    unfold opOk opFits
    simp [h2, head_known h5 ho]
  · have hjo : j < os.length := by omega
    have e1 : (planFor r os)[j] = (kindOf (litAt r.2 os[j]) (ordMask r.2 (os.take j)), (litAt r.2 os[j]).2) := by
      have hj2 : j < (opsTo r.2 os os.length).length := by omega
      simp only [planFor, List.getElem_append_left hj2]
      exact opsTo_get (Nat.le_refl _) hjo hj2
    have e2 : (planFor r os).take j = opsTo r.2 os j := by
      unfold planFor
      rw [List.take_append_of_le_length (by omega), opsTo_take r.2 os _ j (by omega)]
    rw [e1, e2, opsTo_mask r.2 os _ (by omega), hlen, show decide (j + 1 = os.length + 1) = false by simp; omega]
    have ha := hod j hjo
    rw [ordAt_get hjo] at ha
    simp only [Bool.and_eq_true, decide_eq_true_eq] at ha
    refine opOk_lit (h4 _ ?_) ha.2.2
    obtain ⟨n, hn⟩ : ∃ n : Nat, os[j] = (n : Int) := ⟨os[j].toNat, by omega⟩
    have hnl : n < r.2.length := by omega
    rw [litAt_get hn hnl]
    exact List.getElem_mem hnl
theorem planOk_of {ar : List Int} {r : LRule} (h : ruleOk ar r = true) : planOk ar (planOfL ar r) = true := by
  obtain ⟨h1, h2⟩ := planOf_by h
  rw [← h1, planBy_yes h2]
  exact planOk_by h2
theorem planOf_among {ar : List Int} {r : LRule} (h : ruleOk ar r = true) : ∃ os ∈ planOrdL ar r, planByL ar r os = planOfL ar r :=
  ⟨_, planOrd_mem.2 (planOf_by h).2, (planOf_by h).1⟩

end Go.Proofs.Ytocpfmbieedpgaa
/-
  The law's wrPlan: two lists of operations are the same.
-/
namespace Go.Proofs.Ytocpfmbieedpgaa
open Go.RowKit

theorem take_more_eq {xs ys : List LLit} {k : Nat} (hx : k < xs.length) (hy : k < ys.length) (h : xs.take k = ys.take k) (e : xs[k] = ys[k]) : xs.take (k + 1) = ys.take (k + 1) := by
  rw [take_snoc xs k hx, take_snoc ys k hy, h, e]
set_option maxHeartbeats 4000000 in
set_option maxRecDepth 100000 in
theorem wrPlan_any (va vb : Value) (xs ys : List LLit) (w : World) (ha : RdLits w w.heap.size va xs) (hb : RdLits w w.heap.size vb ys) (hx : xs.length ≤ 1048576) (hy : ys.length ≤ 1048576) (hx2 : totL xs ≤ 1048576) (hy2 : totL ys ≤ 1048576) :
    Calls Try.prog 13 #[va, vb] w fun e w' => e = .returned (.bool (decide (xs = ys))) ∧ Below w.heap.size w w' := by
  have HX := Lib.hid ha
  have HY := Lib.hid hb
  obtain ⟨A, c, rfl, hc, _⟩ := ha
  obtain ⟨A2, c2, rfl, hc2, _⟩ := hb
  obtain ⟨R, hR⟩ : ∃ R, R = decide (xs = ys) := ⟨_, rfl⟩
  have HR := Lib.hid hR
  rw [← hR]
  clear hR
  by_cases hl : xs.length = ys.length
  · have l0 : ((xs.length : Int) != (ys.length : Int)) = false := by simp [hl]
    have HL := Lib.hid hl
    clear hl
    go_enter Try.func13, Try.ntmps13
    go_wp2_with (fail)
    go_loopw [5, 13] (fun _ i wr => ∃ k : Nat, k ≤ xs.length ∧ i = .int .i64 k ∧ xs.take k = ys.take k ∧ Below w.heap.size w wr) (fun _ i _ => xs.length - (intOf i).toNat)
    case atStart => exact ⟨0, Nat.zero_le _, rfl, by simp, Below.refl _ _⟩
    case round =>
      obtain ⟨k, hk, rfl, hs, hbe⟩ := hrel
      have HS := Lib.hid hs
      clear hs
      by_cases hlt : k < xs.length
      · have hlt2 : k < ys.length := by rw [← HL.out]; exact hlt
        obtain ⟨b3, o3, u0, u1, u2, hAB, hbB3, k0, k1, k2, rfl, rfl, p3⟩ := HX.out.get hlt
        subst hAB
        obtain ⟨b4, o4, v0, v1, v2, hAB4, hbB4, j0, j1, j2, rfl, rfl, p4⟩ := HY.out.get hlt2
        subst hAB4
        have CC := Lib.hid (fun x : Later wr => later_of (wrInts_any _ _ _ _ x.val ((p3.on hbe).on x.2) ((p4.on hbe).on x.2) (by have := len_le_totL xs k hlt; omega) (by have := len_le_totL ys k hlt2; omega)))
        have M0 := later_cell ((hbe.cell (p := ⟨b3, o3 + k * 3, none⟩) hbB3).trans k0)
        have M1 := later_cell ((hbe.cell (p := ⟨b3, o3 + k * 3 + 1, none⟩) hbB3).trans k1)
        have M2 := later_cell ((hbe.cell (p := ⟨b3, o3 + k * 3 + 2, none⟩) hbB3).trans k2)
        have N0 := later_cell ((hbe.cell (p := ⟨b4, o4 + k * 3, none⟩) hbB4).trans j0)
        have N1 := later_cell ((hbe.cell (p := ⟨b4, o4 + k * 3 + 1, none⟩) hbB4).trans j1)
        have N2 := later_cell ((hbe.cell (p := ⟨b4, o4 + k * 3 + 2, none⟩) hbB4).trans j2)
        clear k0 k1 k2 j0 j1 j2 p3 p4
        obtain ⟨c1, hc1⟩ : ∃ c, c = (xs[k].1 != ys[k].1) := ⟨_, rfl⟩
        obtain ⟨c2, hc2'⟩ : ∃ c, c = (xs[k].2.1 != ys[k].2.1) := ⟨_, rfl⟩
        obtain ⟨c3, hc3⟩ : ∃ c, c = decide (xs[k].2.2 = ys[k].2.2) := ⟨_, rfl⟩
        rw [← hc3] at CC
        have HE := Lib.hid (show (c1 || (c2 || !c3)) = !(decide (xs[k] = ys[k])) by
          rw [hc1, hc2', hc3]
          by_cases e1 : xs[k].1 = ys[k].1 <;> by_cases e2 : xs[k].2.1 = ys[k].2.1 <;> by_cases e3 : xs[k].2.2 = ys[k].2.2 <;> simp [e1, e2, e3, Prod.ext_iff])
        have e1 := hc1.symm
        have e2 := hc2'.symm
        clear hc1 hc2' hc3
        have HBE := Lib.hid hbe
        clear hbe
        go_upto_region 6 with fail
        go_cut [57] (fun v wx => v = .bool (c1 || (c2 || !c3)) ∧ Below wr.heap.size wr wx)
        case first =>
          cases c1 <;> cases c2 <;> cases c3
          all_goals
            refine wp_region_later (by kernel_rfl) (by kernel_rfl) ?_
            repeat (go_big_quiet_step (first | (go_at_call 21; exact CC.out _)))
            refine wpQuiet_nil ?_
            rintro _ ⟨xq, rfl⟩
            go_wp2_with (fail)
            go_meet
            exact ⟨rfl, xq.2⟩
        case rest =>
          obtain ⟨rfl, b9⟩ := hcut
          have B9 := bthen HBE.out b9
          obtain ⟨z, hz⟩ : ∃ z, z = (c1 || (c2 || !c3)) := ⟨_, rfl⟩
          rw [← hz]
          have HZ := Lib.hid (hz.trans HE.out)
          clear hz e1 e2 M0 M1 M2 N0 N1 N2
          cases z
          · have HN := Lib.hid (take_more_eq hlt hlt2 HS.out (by simpa using HZ.out.symm))
            go_wp2_with (fail)
            go_roundw
            case rel => exact ⟨k + 1, by omega, by go_num, HN.out, B9⟩
            case measure => simp [intOf]; omega
          · have HF := Lib.hid (show false = R by
              rw [HR.out]
              symm
              rw [decide_eq_false_iff_not]
              intro e
              have := HZ.out
              simp [e] at this)
            go_wp2_with (fail)
            go_ret
            exact ⟨ret_bool HF.out, B9⟩
      · have HF := Lib.hid (show true = R by
          rw [HR.out]
          symm
          rw [decide_eq_true_eq]
          have := HS.out
          rw [List.take_of_length_le (by omega), List.take_of_length_le (by have := HL.out; omega)] at this
          exact this)
        go_wp2_with (fail)
        go_ret
        exact ⟨ret_bool HF.out, hbe⟩
  · have l0 : ((xs.length : Int) != (ys.length : Int)) = true := by simp; omega
    have HF := Lib.hid (show false = R by
      rw [HR.out]
      symm
      rw [decide_eq_false_iff_not]
      exact fun e => hl (by rw [e]))
    go_enter Try.func13, Try.ntmps13
    go_wp2_with (fail)
    go_ret
    exact ⟨ret_bool HF.out, Below.refl _ _⟩

end Go.Proofs.Ytocpfmbieedpgaa
/-
  A slice of bytes that came in.
-/
namespace Go.Proofs.Ytocpfmbieedpgaa
open Go.ChangeShapes Go.WideShapes Go.ChangeAt Go.RowKit Go.Joins Go.Deep

theorem Try.cells5 : Try.prog.cellsOf 5 = 1 := by kernel_rfl

/-- What is known of a slice of bytes that came in. -/
def InBytes (W : World) (v : Value) (bs : List Nat) : Prop := RdBytes W W.heap.size v bs ∧ bs.length ≤ maxLen ∧ ∀ b ∈ bs, b < 256

theorem byte_of_wf {n : Int} (h : (Lit.int .u8 n).wf = true) : 0 ≤ n ∧ n < 256 := by
  simp only [Lit.wf, Bool.and_eq_true, decide_eq_true_eq] at h
  have h1 : IntKind.u8.min = 0 := by decide
  have h2 : IntKind.u8.max = 255 := by decide
  omega

set_option maxRecDepth 100000 in
theorem open_inBytes {H : Type} {enc : TypeId × Value → H} {W : World} {v : Value} {d : DataW H} {p : List MemPlace} {b0 : Nat} (hv : Value.okWide Try.prog W .any b0 22 v) (h : DataW.Trod enc Try.prog W 0 (fun _ => true) true 22 v d p) :
    ∃ bs, InBytes W v bs := by
  obtain ⟨a, len, cap, rfl⟩ := okWide_slice Try.underlying22 hv
  obtain ⟨fuel, hf⟩ := h
  have hf : DataW.trod enc Try.prog W 0 (fun _ => true) true fuel 22 [.slice a len cap] = some (d, p) := by simpa [Value.cells] using hf
  rcases open_ints Try.underlying22 Try.underlying5 Try.cells5 hf with ⟨hcs, _⟩ | ⟨a, len, cap, zs, hcs, _, hl, hm, hz, _, hcell, hwz⟩
  · simp at hcs
    obtain ⟨rfl, rfl, rfl⟩ := hcs
    exact ⟨[], ⟨none, 0, rfl, by simp, fun h => absurd h (by simp)⟩, by simp, by simp⟩
  · simp at hcs
    obtain ⟨rfl, rfl, rfl⟩ := hcs
    simp at hz
    refine ⟨(zs.take len).map Int.toNat, ⟨some a, cap, ?_, by simp; omega, fun hn => ?_⟩, by simp; omega, ?_⟩
    · congr 1
      simp
      omega
    · have hlen : (zs.take len).length = len := by simp; omega
      simp only [List.length_map, hlen] at hn
      obtain ⟨b, o, rfl, hc⟩ := ints_at hcell (by omega)
      refine ⟨b, o, rfl, World.block_lt_of_cell? _ _ (hc 0 (by omega)), fun k hk => ?_⟩
      simp only [List.length_map, hlen] at hk
      have hw := byte_of_wf (hwz zs[k] (List.getElem_mem (by omega)))
      rw [hc k (by omega)]
      simp [show k < zs.length by omega]
      omega
    · intro b hb
      rw [List.mem_map] at hb
      obtain ⟨z, hz1, rfl⟩ := hb
      have := byte_of_wf (hwz z (List.mem_of_mem_take hz1))
      omega

end Go.Proofs.Ytocpfmbieedpgaa
/-
  The walk of the law FnPlanOf.
-/
namespace Go.Proofs.Ytocpfmbieedpgaa
open Go.RowKit

set_option maxHeartbeats 4000000 in
set_option maxRecDepth 100000 in
theorem lawPlainPlanOf_any (v : Value) (code : List Nat) (w : World) (hr : RdBytes w w.heap.size v code) (_ : code.length ≤ maxLen) (hby : ∀ b ∈ code, b < 256) :
    Calls Try.prog 3 #[v] w fun e w' => e = .returned (.bool true) ∧ Below w.heap.size w w' := by
  have HV := Lib.hid hr
  obtain ⟨Av, cv, rfl, hcv, _⟩ := hr
  go_enter Try.func3, Try.ntmps3
  by_cases hbig : 1048576 < code.length
  · have hd : decide ((1048576 : Int) < code.length) = true := by simp; omega
    go_wp2_with (fail)
    go_ret
    exact ⟨rfl, Below.refl _ _⟩
  have hd : decide ((1048576 : Int) < code.length) = false := by simp; omega
  have hbn : code.length ≤ 1073741824 := by omega
  go_upto_region 4 with (go_at_call 10; refine (drawPlanOf_any _ code w HV.out hby hbn).mono ?_
                         rintro e w1 ⟨ar, r, A, c, A2, c2, A3, c3, rfl, hal, hsz, ra, rh, rb, B1⟩)
  have hsr : szR r ≤ 1048576 := by omega
  obtain ⟨w2, hw2⟩ : ∃ w2, w2 = w1.alloc (Obj.cells #[Value.int .i64 r.1.1, Value.slice A2 r.1.2.length c2, Value.slice A3 r.2.length c3] 28) := ⟨_, rfl⟩
  have b2 : Below w1.heap.size w1 w2 := by rw [hw2]; exact below1 _ _
  have X2 := Lib.hid (show Blk w2 w1.heap.size 28 #[.int .i64 r.1.1, .slice A2 r.1.2.length c2, .slice A3 r.2.length c3] by rw [hw2]; exact Blk.new _ _ _)
  rw [← hw2]
  clear hw2
  have HA := Lib.hid (ra.on b2)
  have HR := Lib.hid (show RdRule w2 w2.heap.size (.agg #[.int .i64 r.1.1, .slice A2 r.1.2.length c2, .slice A3 r.2.length c3]) r from ⟨_, _, rfl, rh.on b2, rb.on b2⟩)
  have B2 := Lib.hid (bthen B1 b2)
  clear ra rh rb B1 b2
  have q0 : w2.cell? ⟨w1.heap.size, 0, none⟩ = some (.int .i64 r.1.1) := X2.out.cell 0
  have q1 : w2.cell? ⟨w1.heap.size, 1, none⟩ = some (.slice A2 r.1.2.length c2) := X2.out.cell 1
  have q2 : w2.cell? ⟨w1.heap.size, 2, none⟩ = some (.slice A3 r.2.length c3) := X2.out.cell 2
  obtain ⟨L, hL⟩ : ∃ L, L = planOfL ar r := ⟨_, rfl⟩
  have HL := Lib.hid hL
  have HLS := Lib.hid (show L.length + totL L ≤ 64 by rw [hL]; exact planOf_sz ar r)
  have hll : L.length ≤ 64 := by have := HLS.out; omega
  have C1 := Lib.hid (implPlanOf_any (.slice A ar.length c) (.agg #[.int .i64 r.1.1, .slice A2 r.1.2.length c2, .slice A3 r.2.length c3]) ar r w2 HA.out HR.out (by omega) hsr)
  rw [← hL] at C1
  clear hL
  go_upto_region 5 with (go_at_call 11; refine C1.out.mono ?_; rintro e w3 ⟨A4, c4, rfl, o4, b3⟩)
  have X3 := Lib.hid (X2.out.below b3 X2.out.lt)
  have HA3 := Lib.hid (HA.out.on b3)
  have HR3 := Lib.hid (HR.out.on b3)
  have HO3 := Lib.hid o4
  have B3 := Lib.hid (bthen B2.out b3)
  clear q0 q1 q2 o4 b3
  have q0 : w3.cell? ⟨w1.heap.size, 0, none⟩ = some (.int .i64 r.1.1) := X3.out.cell 0
  have q1 : w3.cell? ⟨w1.heap.size, 1, none⟩ = some (.slice A2 r.1.2.length c2) := X3.out.cell 1
  have q2 : w3.cell? ⟨w1.heap.size, 2, none⟩ = some (.slice A3 r.2.length c3) := X3.out.cell 2
  have C2 := Lib.hid (specPlanOf_any (.slice A ar.length c) (.agg #[.int .i64 r.1.1, .slice A2 r.1.2.length c2, .slice A3 r.2.length c3]) ar r w3 HA3.out HR3.out (by omega) hsr)
  rw [← HL.out] at C2
  go_upto_region 6 with (go_at_call 12; refine C2.out.mono ?_; rintro e w4 ⟨A5, c5, rfl, o5, b4⟩)
  have X4 := Lib.hid (X3.out.below b4 X3.out.lt)
  have HA4 := Lib.hid (HA3.out.on b4)
  have HR4 := Lib.hid (HR3.out.on b4)
  have HP4 := Lib.hid (HO3.out.below b4 (Nat.le_refl _))
  have HI4 := Lib.hid (HP4.out.rd.more b4.size)
  have HW4 := Lib.hid o5.rd
  have B4 := Lib.hid (bthen B3.out b4)
  clear q0 q1 q2 o5 b4
  have M0 := later_cell (X4.out.cell 0 : w4.cell? ⟨w1.heap.size, 0, none⟩ = some (.int .i64 r.1.1))
  have M1 := later_cell (X4.out.cell 1 : w4.cell? ⟨w1.heap.size, 1, none⟩ = some (.slice A2 r.1.2.length c2))
  have M2 := later_cell (X4.out.cell 2 : w4.cell? ⟨w1.heap.size, 2, none⟩ = some (.slice A3 r.2.length c3))
  obtain ⟨ro, hro⟩ : ∃ ro, ro = ruleOk ar r := ⟨_, rfl⟩
  have HRO := Lib.hid hro
  clear hro
  have D1 := Lib.hid (fun x : Later w4 => later_of (show Calls Try.prog 13 #[.slice A4 L.length c4, .slice A5 L.length c5] x.val fun e w' => e = .returned (.bool true) ∧ Below x.val.heap.size x.val w' from by
    have := wrPlan_any (.slice A4 L.length c4) (.slice A5 L.length c5) L L x.val (HI4.out.on x.2) (HW4.out.on x.2) (by have := HLS.out; omega) (by have := HLS.out; omega) (by have := HLS.out; omega) (by have := HLS.out; omega)
    rw [show decide (L = L) = true by simp] at this
    exact this))
  have D2 := Lib.hid (fun x : Later w4 => later_of (implRuleOk_any (.slice A ar.length c) (.agg #[.int .i64 r.1.1, .slice A2 r.1.2.length c2, .slice A3 r.2.length c3]) ar r x.val (HA4.out.on x.2) (HR4.out.on x.2) (by omega) hsr))
  have D3 := Lib.hid (fun x : Later w4 => later_of (specRuleOk_any (.slice A ar.length c) (.agg #[.int .i64 r.1.1, .slice A2 r.1.2.length c2, .slice A3 r.2.length c3]) ar r x.val (HA4.out.on x.2) (HR4.out.on x.2) (by omega) hsr))
  rw [← HRO.out] at D2 D3
  have hn1 : (ro != ro) = false := by simp
  go_cut [37] (fun s wx => s = .bool false ∧ Below w4.heap.size w4 wx)
  case first =>
    refine wp_region_later (by kernel_rfl) (by kernel_rfl) ?_
    repeat (go_big_quiet_step (first | (go_at_call 13; exact D1.out _) | (go_at_call 14; exact D2.out _) | (go_at_call 15; exact D3.out _)))
    refine wpQuiet_nil ?_
    rintro _ ⟨xq, rfl⟩
    go_wp2_with (fail)
    go_meet
    exact ⟨rfl, xq.2⟩
  case rest =>
    obtain ⟨rfl, b5⟩ := hcut
    have X5 := Lib.hid (X4.out.below b5 X4.out.lt)
    have HA5 := Lib.hid (HA4.out.on b5)
    have HR5 := Lib.hid (HR4.out.on b5)
    have HI5 := Lib.hid (HI4.out.on b5)
    have B5 := Lib.hid (bthen B4.out b5)
    clear M0 M1 M2 b5 hn1
    have q0 : wc.cell? ⟨w1.heap.size, 0, none⟩ = some (.int .i64 r.1.1) := X5.out.cell 0
    have q1 : wc.cell? ⟨w1.heap.size, 1, none⟩ = some (.slice A2 r.1.2.length c2) := X5.out.cell 1
    have q2 : wc.cell? ⟨w1.heap.size, 2, none⟩ = some (.slice A3 r.2.length c3) := X5.out.cell 2
    have C3 := Lib.hid (implRuleOk_any (.slice A ar.length c) (.agg #[.int .i64 r.1.1, .slice A2 r.1.2.length c2, .slice A3 r.2.length c3]) ar r wc HA5.out HR5.out (by omega) hsr)
    rw [← HRO.out] at C3
    cases ro
    · have hl0 : L = [] := by rw [HL.out]; unfold planOfL; rw [← HRO.out]; rfl
      have hl1 : ((L.length : Int) == 0) = true := by rw [hl0]; rfl
      clear hl0
      go_wp2_with (go_at_call 14; refine C3.out.mono ?_; rintro e w6 ⟨rfl, b6⟩)
      go_ret
      exact ⟨rfl, bthen B5.out b6⟩
    · go_upto_region 10 with (go_at_call 14; refine C3.out.mono ?_; rintro e w6 ⟨rfl, b6⟩)
      have X6 := Lib.hid (X5.out.below b6 X5.out.lt)
      have HA6 := Lib.hid (HA5.out.on b6)
      have HR6 := Lib.hid (HR5.out.on b6)
      have HI6 := Lib.hid (HI5.out.on b6)
      have B6 := Lib.hid (bthen B5.out b6)
      clear q0 q1 q2 b6
      have q0 : w6.cell? ⟨w1.heap.size, 0, none⟩ = some (.int .i64 r.1.1) := X6.out.cell 0
      have q1 : w6.cell? ⟨w1.heap.size, 1, none⟩ = some (.slice A2 r.1.2.length c2) := X6.out.cell 1
      have q2 : w6.cell? ⟨w1.heap.size, 2, none⟩ = some (.slice A3 r.2.length c3) := X6.out.cell 2
      obtain ⟨O, hO⟩ : ∃ O, O = planOrdL ar r := ⟨_, rfl⟩
      have HO := Lib.hid hO
      have HOF := Lib.hid (planOrd_few ar r)
      rw [← hO] at HOF
      have hol := HOF.out.1
      have C4 := Lib.hid (implPlanOrders_any (.slice A ar.length c) (.agg #[.int .i64 r.1.1, .slice A2 r.1.2.length c2, .slice A3 r.2.length c3]) ar r w6 HA6.out HR6.out (by omega) hsr)
      rw [← hO] at C4
      clear hO
      go_upto_region 11 with (go_at_call 16; refine C4.out.mono ?_; rintro e w7 ⟨A7, c7, rfl, o7, b7⟩)
      have X7 := Lib.hid (X6.out.below b7 X6.out.lt)
      have HA7 := Lib.hid (HA6.out.on b7)
      have HR7 := Lib.hid (HR6.out.on b7)
      have HI7 := Lib.hid (HI6.out.on b7)
      have HO7 := Lib.hid o7.rd
      have B7 := Lib.hid (bthen B6.out b7)
      clear q0 q1 q2 o7 b7
      go_loopw [8, 9, 10, 49] (fun _ _ _ i wr => ∃ k : Nat, k ≤ O.length ∧ i = .int .i64 k ∧ (∀ j (_ : j < O.length), j < k → planByL ar r O[j] ≠ L) ∧ Below w7.heap.size w7 wr) (fun _ _ _ i _ => O.length - (intOf i).toNat)
      case atStart => exact ⟨0, Nat.zero_le _, rfl, fun j _ hj => absurd hj (Nat.not_lt_zero _), Below.refl _ _⟩
      case round =>
        obtain ⟨k, hk, rfl, hs, hbe⟩ := hrel
        have HS := Lib.hid hs
        clear hs
        have B8 := Lib.hid (bthen B7.out hbe)
        by_cases hlt : k < O.length
        · obtain ⟨bb, oo, A8, c8, hA7, hbb, k0, hrd⟩ := (HO7.out.on hbe).get hlt
          subst hA7
          have hl8 : O[k].length ≤ 4 := HOF.out.2 _ (List.getElem_mem hlt)
          have x8 := X7.out.below hbe X7.out.lt
          have q0 : wr.cell? ⟨w1.heap.size, 0, none⟩ = some (.int .i64 r.1.1) := x8.cell 0
          have q1 : wr.cell? ⟨w1.heap.size, 1, none⟩ = some (.slice A2 r.1.2.length c2) := x8.cell 1
          have q2 : wr.cell? ⟨w1.heap.size, 2, none⟩ = some (.slice A3 r.2.length c3) := x8.cell 2
          obtain ⟨P, hP⟩ : ∃ P, P = planByL ar r O[k] := ⟨_, rfl⟩
          have HP := Lib.hid hP
          have HPS := Lib.hid (show P.length + totL P ≤ 64 by rw [hP]; exact planBy_sz ar r _)
          have C5 := Lib.hid (implPlanBy_any (.slice A ar.length c) (.agg #[.int .i64 r.1.1, .slice A2 r.1.2.length c2, .slice A3 r.2.length c3]) (.slice A8 O[k].length c8) ar r O[k] wr (HA7.out.on hbe) (HR7.out.on hbe) hrd (by omega) hsr (by omega))
          rw [← hP] at C5
          have HI8 := Lib.hid (HI7.out.on hbe)
          have HA8 := Lib.hid (HA7.out.on hbe)
          have HBE := Lib.hid hbe
          clear hP x8 hrd hbe
          go_upto_region 14 with (go_at_call 17; refine C5.out.mono ?_; rintro e w9 ⟨A9, c9, rfl, o9, b9⟩)
          have HB9 := Lib.hid b9
          have C6 := Lib.hid (wrPlan_any (.slice A9 P.length c9) (.slice A4 L.length c4) P L w9 o9.rd (HI8.out.on b9) (by have := HPS.out; omega) (by omega) (by have := HPS.out; omega) (by have := HLS.out; omega))
          have HI9 := Lib.hid (HI8.out.on b9)
          have HA9 := Lib.hid (HA8.out.on b9)
          obtain ⟨z, hz⟩ : ∃ z, z = decide (P = L) := ⟨_, rfl⟩
          rw [← hz] at C6
          have HZ := Lib.hid hz
          clear hz o9 b9 q0 q1 q2 k0
          cases z
          · have HN := Lib.hid (show planByL ar r O[k] ≠ L from by
              rw [← HP.out]
              exact of_decide_eq_false HZ.out.symm)
            go_wp2_with (go_at_call 13; refine C6.out.mono ?_; rintro e wb ⟨rfl, bb2⟩)
            go_roundw
            case rel =>
              refine ⟨k + 1, by omega, by go_num, fun j hj hjk => ?_, bthen (bthen HBE.out HB9.out) bb2⟩
              by_cases e : j = k
              · subst e; exact HN.out
              · exact HS.out j hj (by omega)
            case measure => simp [intOf]; omega
          · have HPK := Lib.hid (show planOk ar L = true from by rw [HL.out]; exact planOk_of HRO.out.symm)
            go_upto_region 15 with (go_at_call 13; refine C6.out.mono ?_; rintro e wb ⟨rfl, bb2⟩)
            have C7 := Lib.hid (implPlanOk_any (.slice A ar.length c) (.slice A4 L.length c4) ar L wb (HA9.out.on bb2) (HI9.out.on bb2) (by omega) (by omega) (by have := HLS.out; omega))
            rw [HPK.out] at C7
            have HBB := Lib.hid bb2
            clear bb2
            go_wp2_with (go_at_call 18; refine C7.out.mono ?_; rintro e wd ⟨rfl, bd⟩)
            go_ret
            exact ⟨rfl, bthen (bthen (bthen B8.out HB9.out) HBB.out) bd⟩
        · exfalso
          obtain ⟨os, h1, h2⟩ := planOf_among HRO.out.symm
          rw [← HO.out] at h1
          rw [← HL.out] at h2
          obtain ⟨j, hj, rfl⟩ := List.getElem_of_mem h1
          exact HS.out j hj (by omega) h2
theorem lawPlainPlanOf_in (v : Value) (bs : List Nat) (w : World) (h : InBytes w v bs) : Calls Try.prog 3 #[v] w fun e w' => e = .returned (.bool true) ∧ Below w.heap.size w w' :=
  lawPlainPlanOf_any v bs w h.1 h.2.1 h.2.2

end Go.Proofs.Ytocpfmbieedpgaa
namespace Go.Proofs.Ytocpfmbieedpgaa
open Go.ChangeShapes Go.WideShapes Go.ChangeAt Go.RowKit

set_option maxRecDepth 100000 in
theorem fnPlanOf_lifted (os : Os) (started : os.Started) (H : Type) (enc : TypeId × Value → H) :
    ReturnsInHanded {} Try.checked os 3 .any (Rows.fnPlanOfSpec.pre6 enc Try.prog Try.f3 Rows.fnPlanOfRow.domain false) (Rows.fnPlanOfSpec.post enc Try.prog Try.f3 false true false false) := by
  refine returnsInHanded_of_change (C := Try.checked) Try.own started (by kernel_rfl) Try.func3
    (ChangeSpec.witness6 (enc := enc) (C := Try.checked) false ⟨#[], #[.slice none 0 0], []⟩ 8 (by kernel_rfl) (by kernel_rfl) (by kernel_rfl) (by kernel_rfl)) ?_
  intro W base args ds gs before hval0 hW hcnd _
  have hval : ∀ (j : Nat) t v, Try.f3.params[j]? = some t → args[j]? = some v → Value.okWide Try.prog W .any base t v := hval0
  have hW' := hW
  obtain ⟨p, q, hA0, hV, rfl, hfz, hnd⟩ := hW
  have hA : DataW.TrodAll enc Try.prog W 0 (fun _ => true) true Try.f3.params.toList args.toList ds p := hA0
  rw [Try.params3] at hA hval
  obtain ⟨v0, vs0, d0, ds0, p0, q0, hargs, rfl, rfl, h0, r0⟩ := trodAll_cons hA
  obtain ⟨rfl, rfl, rfl⟩ := trodAll_nil r0
  obtain rfl : args = #[v0] := by cases args; simp_all
  obtain ⟨rfl, rfl⟩ := trodVars_none hV
  have lt0 : ∀ x ∈ p0, x.block < W.heap.size := by obtain ⟨m, hm⟩ := h0; exact DataW.trod_lt m _ _ _ hm
  obtain ⟨x0, w0⟩ := open_inBytes (hval 0 22 v0 rfl rfl) h0
  clear hA0 hval0
  refine (lawPlainPlanOf_in v0 x0 W w0).mono fun e W' ⟨he, bel⟩ => ?_
  subst he
  exact ⟨_, rfl, _, _, _, [], _, [], hW', trodAll_mk1 (shut_bool Try.underlying4 _), (trodAll_cons_mk (Below.trod Try.laidOut (by kernel_rfl) (of_decide_eq_true (by kernel_rfl)) h0 bel lt0) trodAll_mk0), rfl, bel.frame _, fun h => by cases h⟩

theorem fnPlanOf_holds : Rows.FnPlanOfSaid :=
  OpenClaim.holds_of_wide 3 Try.f3 rfl rfl rfl rfl rfl rfl rfl ⟨rfl, rfl, rfl, rfl, rfl⟩ rfl rfl rfl rfl rfl (by kernel_rfl) Try.func3 (by kernel_rfl)
    (of_decide_eq_true (by kernel_rfl)) (by unfold Func.isWrapper; rw [if_neg (of_decide_eq_false (by kernel_rfl))]; exact ⟨rfl, rfl⟩)
    (fun os started H enc _ => fnPlanOf_lifted os started H enc)

end Go.Proofs.Ytocpfmbieedpgaa
