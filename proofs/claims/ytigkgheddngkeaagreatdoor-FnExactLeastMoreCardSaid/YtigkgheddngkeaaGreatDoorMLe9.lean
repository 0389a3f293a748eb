/-
  Texts that the claim's last one imports, laid together: part 9 of 13. No condition of its own.
-/
import Derived.Laws.CopyOwn
import Derived.Deep.WholeRow
import Derived.Test.YtigkgheddngkeaaGreatDoorMLe2
import Derived.Test.YtigkgheddngkeaaGreatDoorMLe3
import Derived.Test.YtigkgheddngkeaaGreatDoorMLe6
import Derived.Test.YtigkgheddngkeaaGreatDoorMLe7
import Derived.Test.YtigkgheddngkeaaGreatDoorMLe8
/-
  A table of facts is filled: constantsNumber, addAll.
-/
namespace Go.Proofs.YtigkgheddngkeaaGreatDoor
open Go.RowKit

/-- The number of which constants are the digits. -/
def numF (xs : List Int) : Nat := xs.foldl (fun n c => n * 6 + c.toNat) 0
theorem numF_take {xs : List Int} {k : Nat} (h : k < xs.length) : numF (xs.take (k + 1)) = numF (xs.take k) * 6 + xs[k].toNat := by
  unfold numF
  rw [take_snoc xs k h, List.foldl_append]
  rfl
theorem numF_lt {xs : List Int} (hc : xs.all constOk = true) : ∀ k, k ≤ xs.length → numF (xs.take k) < 6 ^ k
  | 0, _ => by simp [numF]
  | k + 1, hk => by
    have ih := numF_lt hc k (by omega)
    rw [numF_take (by omega), Nat.pow_succ]
    have : 0 ≤ xs[k] ∧ xs[k] ≤ 5 := by simpa [constOk] using List.all_eq_true.1 hc _ (List.getElem_mem (show k < xs.length by omega))
    omega

set_option maxHeartbeats 1000000 in
set_option maxRecDepth 100000 in
theorem constantsNumber_any (v : Value) (xs : List Int) (B : Nat) (w : World) (h : RdInts w B v xs) (hc : xs.all constOk = true) (hl : xs.length ≤ 2) :
    Calls Tryz.prog 104 #[v] w fun e w' => e = .returned (.int .i64 (numF xs : Nat)) ∧ w = w' := by
  obtain ⟨A, c, rfl, hcc, ha⟩ := h
  have HC := Lib.hid hc
  clear hc
  go_enter Tryz.func104, Tryz.ntmps104
  go_wp2_with fail
  go_loopw [3, 8] (fun m i wr => ∃ (k n : Nat), k ≤ xs.length ∧ i = .int .i64 k ∧ m = .int .i64 n ∧ n = numF (xs.take k) ∧ wr = w) (fun _ i _ => xs.length - (intOf i).toNat)
  case atStart => exact ⟨0, 0, by simp [numF]⟩
  case round =>
    obtain ⟨k, n, hk, rfl, rfl, hn, rfl⟩ := hrel
    by_cases hlt : k < xs.length
    · obtain ⟨b, o, rfl, hbB, hx⟩ := ha (by omega)
      have hck : wr.cell? ⟨b, o + k, none⟩ = some (.int .i64 xs[k]) := hx k hlt
      have hb : 0 ≤ xs[k] ∧ xs[k] ≤ 5 := by simpa [constOk] using List.all_eq_true.1 HC.out _ (List.getElem_mem hlt)
      have hn6 : n < 36 := by
        have := numF_lt HC.out k hk
        have h2 : (6 : Nat) ^ k ≤ 6 ^ 2 := Nat.pow_le_pow_right (by decide) (by omega)
        rw [hn]
        omega
      obtain ⟨x, hx2⟩ : ∃ x : Nat, xs[k] = (x : Int) := ⟨xs[k].toNat, by omega⟩
      have HN := Lib.hid (show numF (xs.take (k + 1)) = n * 6 + x by rw [numF_take hlt, hn, hx2]; rfl)
      have hxl : x ≤ 5 := by omega
      rw [hx2] at hck
      clear hx hx2 hb hn
      go_wp2_with fail
      go_roundw
      case rel => exact ⟨k + 1, n * 6 + x, by omega, by go_num, by go_num, HN.out.symm, by first | trivial | rfl⟩
      case measure => simp [intOf]; omega
    · have HE := Lib.hid (show n = numF xs by rw [hn, show k = xs.length by omega, List.take_length])
      clear hn ha
      go_wp2_with fail
      go_ret
      exact ⟨ret_int (by rw [HE.out]), rfl⟩

set_option maxHeartbeats 1000000 in
set_option maxRecDepth 100000 in
theorem number_any (v : Value) (bs xs : List Int) (hb : bindOk bs = true) (ht : xs.all termOk = true) (B : Nat) (w : World) (h : RdInts w B v xs) (hc : (xs.map (termVal bs)).all constOk = true) (hl : xs.length ≤ 2) :
    Calls Tryz.prog 183 #[.int .u32 (encB bs : Nat), v] w fun e w' => e = .returned (.int .i64 (numF (xs.map (termVal bs)) : Nat)) ∧ w = w' := by
  obtain ⟨A, c, rfl, hcc, ha⟩ := h
  obtain ⟨ys, hys⟩ : ∃ ys, ys = xs.map (termVal bs) := ⟨_, rfl⟩
  rw [← hys] at hc ⊢
  have hyl : ys.length = xs.length := by rw [hys]; simp
  have HYL := Lib.hid hyl
  have HC := Lib.hid hc
  have HY := Lib.hid hys
  have HT := Lib.hid ht
  have HV := Lib.hid (fun t ht => value_any bs hb t ht)
  generalize encB bs = m at HV
  clear hc hys ht hyl
  go_enter Tryz.func183, Tryz.ntmps183
  go_wp2_with fail
  go_loopw [5, 10] (fun m i wr => ∃ (k n : Nat), k ≤ xs.length ∧ i = .int .i64 k ∧ m = .int .i64 n ∧ n = numF (ys.take k) ∧ wr = w) (fun _ i _ => xs.length - (intOf i).toNat)
  case atStart => exact ⟨0, 0, by simp [numF]⟩
  case round =>
    obtain ⟨k, n, hk, rfl, rfl, hn, rfl⟩ := hrel
    by_cases hlt : k < xs.length
    · obtain ⟨b, o, rfl, hbB, hx⟩ := ha (by omega)
      have hck : wr.cell? ⟨b, o + k, none⟩ = some (.int .i64 xs[k]) := hx k hlt
      have hlt2 : k < ys.length := by rw [HYL.out]; exact hlt
      have hb2 : 0 ≤ ys[k] ∧ ys[k] ≤ 5 := by simpa [constOk] using List.all_eq_true.1 HC.out _ (List.getElem_mem hlt2)
      have hn6 : n < 36 := by
        have := numF_lt HC.out k (by omega)
        have h2 : (6 : Nat) ^ k ≤ 6 ^ 2 := Nat.pow_le_pow_right (by decide) (by omega)
        rw [hn]
        omega
      obtain ⟨x, hx2⟩ : ∃ x : Nat, ys[k] = (x : Int) := ⟨ys[k].toNat, by omega⟩
      have HN := Lib.hid (show numF (ys.take (k + 1)) = n * 6 + x by rw [numF_take hlt2, hn, hx2]; rfl)
      have hxl : x ≤ 5 := by omega
      have HV2 := Lib.hid (HV.out xs[k] (List.all_eq_true.1 HT.out _ (List.getElem_mem hlt)))
      have hvx : termVal bs xs[k] = (x : Int) := by rw [← hx2]; simp only [HY.out, List.getElem_map]
      rw [hvx] at HV2
      clear hx hx2 hb2 hn hvx
      go_wp2_with (go_at_call 174; refine (HV2.out _).mono ?_; rintro e w' ⟨rfl, rfl⟩)
      go_roundw
      case rel => exact ⟨k + 1, n * 6 + x, by omega, by go_num, by go_num, HN.out.symm, by first | trivial | rfl⟩
      case measure => simp [intOf]; omega
    · have HE := Lib.hid (show n = numF ys by rw [hn, show k = ys.length by have := HYL.out; omega, List.take_length])
      clear hn ha
      go_wp2_with fail
      go_ret
      exact ⟨ret_int (by rw [HE.out]), rfl⟩

/-- The facts of a table's predicates. -/
def TabFact (f : LFact) : Prop := 0 ≤ f.1 ∧ f.1 < 24 ∧ f.2.all constOk = true ∧ f.2.length ≤ 2
def tabWith (T : List Nat) (fs : List LFact) : List Nat := fs.foldl (fun T f => setBit T f.1.toNat (numF f.2)) T
theorem tabWith_take {T : List Nat} {fs : List LFact} {k : Nat} (h : k < fs.length) : tabWith T (fs.take (k + 1)) = setBit (tabWith T (fs.take k)) fs[k].1.toNat (numF fs[k].2) := by
  unfold tabWith
  rw [take_snoc fs k h, List.foldl_append]
  rfl
theorem TabAt.below {w w' : World} {g B : Nat} {T : List Nat} (h : TabAt w g T) (hb : Below B w w') (hg : g < B) : TabAt w' g T := ⟨h.1.below hb hg, h.2⟩
theorem TabAt.only {w w' : World} {g lo hi : Nat} {T : List Nat} (h : TabAt w g T) (ho : Only lo hi w w') (hg : g < lo ∨ hi ≤ g) : TabAt w' g T := ⟨h.1.only ho hg, h.2⟩
theorem numF_64 {xs : List Int} (hc : xs.all constOk = true) (hl : xs.length ≤ 2) : numF xs < 64 := by
  have := numF_lt hc xs.length (Nat.le_refl _)
  rw [List.take_length] at this
  have h2 : (6 : Nat) ^ xs.length ≤ 6 ^ 2 := Nat.pow_le_pow_right (by decide) hl
  omega

set_option maxHeartbeats 4000000 in
set_option maxRecDepth 100000 in
theorem addAll_any (g B : Nat) (T0 : List Nat) (v : Value) (fs : List LFact) (w : World) (h : TabAt w g T0) (hr : RdFacts w B v fs) (hB : B ≤ g) (hf : ∀ f ∈ fs, TabFact f) (hn : fs.length ≤ 1048576) :
    Calls Tryz.prog 61 #[.pointer (some ⟨g, 0, none⟩), v] w fun e w' =>
      e = .returned (.tuple #[]) ∧ TabAt w' g (tabWith T0 fs) ∧ Only g (g + 1) w w' := by
  have H := Lib.hid hr
  have HT := Lib.hid h
  have HF := Lib.hid hf
  have hgw := h.1.lt
  obtain ⟨A, c, rfl, hc, _⟩ := hr
  clear h hf
  go_enter Tryz.func61, Tryz.ntmps61
  go_wp2_with fail
  go_loopw [8] (fun i wr => ∃ k : Nat, k ≤ fs.length ∧ i = .int .i64 k ∧ TabAt wr g (tabWith T0 (fs.take k)) ∧ Only g (g + 1) w wr) (fun i _ => fs.length - (intOf i).toNat)
  case atStart => exact ⟨0, Nat.zero_le _, rfl, by simpa [tabWith] using HT.out, Only.refl _ _ _⟩
  case round =>
    obtain ⟨k, hk, rfl, hat, hon⟩ := hrel
    by_cases hlt : k < fs.length
    · have hsz := hon.size
      have hbe : Below B w wr := hon.below hB (by omega)
      obtain ⟨b, o, A3, c3, rfl, hbB, k1, k2, k3⟩ := (H.out.below hbe (Nat.le_refl _)).get hlt
      have HCF := Lib.hid (HF.out _ (List.getElem_mem hlt))
      have HTK := Lib.hid (tabWith_take (T := T0) hlt)
      obtain ⟨f, hfe⟩ : ∃ f, f = fs[k] := ⟨_, rfl⟩
      rw [← hfe] at HCF k1 k2 k3 HTK
      obtain ⟨T, hTe⟩ : ∃ T, T = tabWith T0 (fs.take k) := ⟨_, rfl⟩
      rw [← hTe] at hat HTK
      obtain ⟨p, hpe⟩ : ∃ p : Nat, f.1 = (p : Int) := ⟨f.1.toNat, by have := HCF.out.1; omega⟩
      have hp24 : p < 24 := by have := HCF.out.2.1; omega
      obtain ⟨n, hne⟩ : ∃ n, n = numF f.2 := ⟨_, rfl⟩
      have hn64 : n < 64 := by rw [hne]; exact numF_64 HCF.out.2.2.1 HCF.out.2.2.2
      have HTK2 := Lib.hid (show tabWith T0 (fs.take (k + 1)) = setBit T p n by rw [HTK.out, hpe, hne]; rfl)
      have HNE := Lib.hid hne
      rw [hpe] at k1
      clear hfe hTe hpe hne HTK
      go_upto_region 3 with fail
      obtain ⟨wv, hwv⟩ : ∃ wv, wv = wr.alloc (Obj.cells #[Value.int IntKind.i64 (p : Int), Value.slice A3 f.2.length c3] 68) := ⟨_, rfl⟩
      have bv : Below wr.heap.size wr wv := by rw [hwv]; exact below1 _ _
      have z7 : Blk wv wr.heap.size 68 #[.int .i64 p, .slice A3 f.2.length c3] := by rw [hwv]; exact Blk.new _ _ _
      have hvl : wr.heap.size < wv.heap.size := by rw [hwv]; simp
      rw [← hwv]
      clear hwv k1 k2
      have RF := Lib.hid (show RdInts wv wr.heap.size (.slice A3 f.2.length c3) f.2 from (k3.below bv (by omega)).more (by omega))
      have htv : TabAt wv g T := hat.below bv hat.1.lt
      have HTV := Lib.hid (show TabAt wv.drew g T from htv)
      have q0 : wv.cell? ⟨wr.heap.size, 0, none⟩ = some (.int .i64 p) := z7.cell 0
      have q1 : wv.cell? ⟨wr.heap.size, 1, none⟩ = some (.slice A3 f.2.length c3) := z7.cell 1
      have HON := Lib.hid (show Only g (g + 1) w wv.drew from (hon.trans (Only.of_below bv)).trans (Only.of_below (bdrewN (Below.refl _ _) 1)))
      clear hat hon k3 z7 htv
      obtain ⟨SS, hSS⟩ : ∃ SS : World → Prop, SS = (fun W => Below wv.heap.size wv W ∧ W.cell? ⟨wr.heap.size, 0, none⟩ = some (.int .i64 p) ∧ W.cell? ⟨wr.heap.size, 1, none⟩ = some (.slice A3 f.2.length c3)) := ⟨_, rfl⟩
      have HB := Lib.hid (show ∀ W, SS W → (Below wv.heap.size wv W ∧ W.cell? ⟨wr.heap.size, 0, none⟩ = some (.int .i64 p) ∧ W.cell? ⟨wr.heap.size, 1, none⟩ = some (.slice A3 f.2.length c3)) from by rw [hSS]; exact fun W hW => hW)
      have HS := Lib.hid (show ∀ W, Below wv.heap.size wv W → SS W from by
        rw [hSS]
        exact fun W hW => ⟨hW, (hW.cell (World.block_lt_of_cell? _ _ q0)).trans q0, (hW.cell (World.block_lt_of_cell? _ _ q1)).trans q1⟩)
      clear hSS
      have BB : Below wv.heap.size wv wv.drew := (Below.refl _ _).drew
      have SB := HS.out _ BB
      refine wp_region_rel SS 6 7 (by kernel_rfl) rfl ?_
      refine wpAnyR_pure (i := 0) (oi := _) ?v0 rfl rfl (by kernel_rfl) (by decide) (fun _ _ _ h => h) rfl ?hy0 (fun _ => SB) ?rest0
      case hy0 => (intro W; go_simp; (try with_reducible rfl))
      try simp only [List.setIfInBounds_toArray, List.set_cons_zero, List.set_cons_succ]
      refine wpAnyR_pure (i := 1) (oi := _) ?v1 rfl rfl (by kernel_rfl) (by decide) (fun _ _ _ h => h) rfl ?hy1 (fun _ => SB) ?rest1
      case hy1 => (intro W; go_simp; (try with_reducible rfl))
      try simp only [List.setIfInBounds_toArray, List.set_cons_zero, List.set_cons_succ]
      refine wpAnyR_take (i := 2) (oi := _) ?v2 rfl rfl (by kernel_rfl) (fun _ _ _ h => h) rfl ?hy2 SB ?rest2
      case hy2 => (intro W hW; obtain ⟨_, e0, e1⟩ := HB.out W hW; go_simp; (try with_reducible rfl))
      try simp only [List.setIfInBounds_toArray, List.set_cons_zero, List.set_cons_succ]
      refine wpAnyR_pure (i := 3) (oi := _) ?v3 rfl rfl (by kernel_rfl) (by decide) (fun _ _ _ h => h) rfl ?hy3 (fun _ => SB) ?rest3
      case hy3 => (intro W; go_simp; (try with_reducible rfl))
      try simp only [List.setIfInBounds_toArray, List.set_cons_zero, List.set_cons_succ]
      refine wpAnyR_take (i := 4) (oi := _) ?v4 rfl rfl (by kernel_rfl) (fun _ _ _ h => h) rfl ?hy4 SB ?rest4
      case hy4 => (intro W hW; obtain ⟨_, e0, e1⟩ := HB.out W hW; go_simp; (try with_reducible rfl))
      try simp only [List.setIfInBounds_toArray, List.set_cons_zero, List.set_cons_succ]
      refine wpAnyR_one (i := 5) (by kernel_rfl) rfl (fun K hK => ?_)
      try rw [if_pos (show Region.wanted _ _ = true from rfl)]
      go_simp
      refine (constantsNumber_any (.slice A3 f.2.length c3) f.2 wr.heap.size _ (RF.out.below BB (Nat.le_of_lt hvl)) HCF.out.2.2.1 HCF.out.2.2.2).mono ?_
      rw [← HNE.out]
      rintro e W5 ⟨rfl, rfl⟩
      refine hK.out _ _ (fun _ => SB) ?_
      clear hK K
      try simp only [List.setIfInBounds_toArray, List.set_cons_zero, List.set_cons_succ, Act.put]
      refine wpAnyR_one (i := 6) (by kernel_rfl) rfl (fun K hK => ?_)
      try rw [if_pos (show Region.wanted _ _ = true from rfl)]
      go_simp
      refine (add_any g p n T _ HTV.out hp24 hn64).mono ?_
      rintro e W6 ⟨rfl, ht6, ho6⟩
      have H6 := Lib.hid (And.intro ht6 ho6)
      clear ht6 ho6
      refine hK.out _ _ (fun hf => absurd hf (by decide)) ?_
      clear hK K
      try simp only [List.setIfInBounds_toArray, List.set_cons_zero, List.set_cons_succ, Act.put]
      refine wpAnyR_done (by kernel_rfl) ?_
      have HFIN := Lib.hid (show TabAt W6 g (tabWith T0 (fs.take (k + 1))) ∧ Only g (g + 1) w W6 from by
        rw [HTK2.out]
        exact ⟨H6.out.1, HON.out.trans H6.out.2⟩)
      clear SB HB HS BB
      go_wp2_with fail
      go_roundw
      case rel => exact ⟨k + 1, by omega, by go_num, HFIN.out.1, HFIN.out.2⟩
      case measure => simp [intOf]; omega
    · have HFIN := Lib.hid (show TabAt wr g (tabWith T0 fs) ∧ Only g (g + 1) w wr from by
        rw [show k = fs.length by omega, List.take_length] at hat
        exact ⟨hat, hon⟩)
      clear hat hon
      go_wp2_with fail
      go_end0
      exact ⟨rfl, HFIN.out.1, HFIN.out.2⟩

end Go.Proofs.YtigkgheddngkeaaGreatDoor
/-
  The walk of Solutions.
-/
namespace Go.Proofs.YtigkgheddngkeaaGreatDoor
open Go.RowKit

/-- A row of slices that make laid and a loop fills: k of them stand. -/
structure FillS (g n : Nat) (wr : World) (xss : List (List Int)) (av : List Value) : Prop where
  args : OwnArgs wr (g + 1) wr.heap.size av xss
  row : ∃ cur, wr.heap[g]? = some (.cells cur 22 (0, 0)) ∧ cur.size = n ∧ cur.toList.take xss.length = av
theorem FillS.start (w : World) (cs : Array Value) (n : Nat) (h : cs.size = n) : FillS w.heap.size n (w.alloc (.cells cs 22)) [] [] :=
  ⟨OwnArgs.nil, cs, heap_alloc_new w _, h, by simp⟩
theorem FillS.lt {g n : Nat} {wr : World} {xss : List (List Int)} {av : List Value} (h : FillS g n wr xss av) : g < wr.heap.size := by
  obtain ⟨_, cur, hg, _⟩ := h
  exact Blk.lt hg
theorem FillS.on {g n : Nat} {wr w4 : World} {xss : List (List Int)} {av : List Value} (h : FillS g n wr xss av) (hb : Below wr.heap.size wr w4) : FillS g n w4 xss av := by
  have hlt := h.lt
  obtain ⟨ha, cur, hg, h1, h2⟩ := h
  exact ⟨(ha.below hb (Nat.le_refl _)).mono (Nat.le_refl _) hb.size, cur, (hb.block g hlt).trans hg, h1, h2⟩
theorem FillS.free {g n : Nat} {wr : World} {xss : List (List Int)} {av : List Value} (h : FillS g n wr xss av) {k : Nat} (hk : k < n) : (∃ x, wr.cell? ⟨g, k, none⟩ = some x) ∧ wr.frozen? ⟨g, k, none⟩ = false := by
  obtain ⟨_, cur, hg, h1, _⟩ := h
  exact ⟨⟨cur[k]'(by omega), by rw [Blk.cell hg, Array.getElem?_eq_getElem]⟩, Blk.frozen hg k⟩
theorem FillS.step {g n k : Nat} {wr w4 : World} {xss : List (List Int)} {xs : List Int} {av : List Value} {u : Value} (h : FillS g n wr xss av) (hk : xss.length = k) (hkn : k < n) (hb : Below wr.heap.size wr w4) (hu : OwnInts w4 wr.heap.size w4.heap.size u xs) :
    FillS g n (w4.setCell ⟨g, k, none⟩ u) (xss ++ [xs]) (av ++ [u]) := by
  have hlt := h.lt
  have hl := h.args.len
  have h4 := (h.args.below hb (Nat.le_refl _)).snoc hu (by omega) hb.size
  obtain ⟨_, cur, hg, h1, h2⟩ := h
  have hg4 : Blk w4 g 22 cur := (hb.block g hlt).trans hg
  refine ⟨by simpa using h4.set (p := ⟨g, k, none⟩) (.inl (Nat.lt_succ_self g)) u, _, hg4.set_ k u, by simpa using h1, ?_⟩
  have hlen : (xss ++ [xs]).length = k + 1 := by simp [hk]
  rw [hlen, Array.toList_setIfInBounds]
  rw [hk] at h2
  apply List.ext_getElem?
  intro j
  by_cases hj : j < k
  · rw [List.getElem?_take_of_lt (by omega), List.getElem?_set_ne (by omega), List.getElem?_append_left (by omega), ← h2, List.getElem?_take_of_lt hj]
  · by_cases hj2 : j = k
    · subst hj2
      rw [List.getElem?_take_of_lt (by omega), List.getElem?_set_self (by simp; omega), List.getElem?_append_right (by omega)]
      simp [hl, hk]
    · rw [List.getElem?_eq_none (by simp; omega), List.getElem?_eq_none (by simp; omega)]
theorem FillS.done {g n : Nat} {wr : World} {xss : List (List Int)} {av : List Value} (h : FillS g n wr xss av) (hn : xss.length = n) (hm : n ≤ maxLen) : OwnRows wr g wr.heap.size (.slice (some ⟨g, 0, none⟩) xss.length n) xss := by
  have hlt := h.lt
  have hl := h.args.len
  obtain ⟨ha, cur, hg, h1, h2⟩ := h
  exact ⟨av, ha.mono (by omega) (Nat.le_refl _), ⟨by omega, .inr ⟨g, n, cur, rfl, Nat.le_refl _, hg, by omega, hm, by omega, by rw [Nat.mul_one]; exact h2⟩⟩, fun g' hg' => by simp [Value.ownBlock] at hg'; omega⟩

theorem OwnRows.nil (w : World) (lo hi : Nat) : OwnRows w lo hi (.slice none 0 0) [] := ⟨[], OwnArgs.nil, World.ownsRow_nil _ _ _ _, fun g hg => by cases hg⟩

end Go.Proofs.YtigkgheddngkeaaGreatDoor
/-
  The walk of headsIn.
-/
namespace Go.Proofs.YtigkgheddngkeaaGreatDoor
open Go.RowKit

def zeroT : List Nat := List.replicate 24 0
def hdOf (r : LRule) (b : List Int) : LFact := (r.1.1, r.1.2.map (termVal b))
theorem tabWith_snoc (T : List Nat) (fs : List LFact) (f : LFact) : tabWith T (fs ++ [f]) = setBit (tabWith T fs) f.1.toNat (numF f.2) := by
  unfold tabWith
  rw [List.foldl_append]
  rfl
theorem TabAt.zero (w : World) : TabAt (w.alloc (Obj.cells (tabCells zeroT) 83)) w.heap.size zeroT :=
  ⟨Blk.new _ _ _, by simp [zeroT], fun x hx => by
    obtain ⟨_, rfl⟩ := List.mem_replicate.1 hx
    decide⟩

set_option maxHeartbeats 8000000 in
set_option maxRecDepth 100000 in
theorem headsIn_any (v v2 : Value) (ar : List Int) (rs : List LRule) (fs : List LFact) (w : World) (h : RdRules w w.heap.size v rs) (h2 : RdFacts w w.heap.size v2 fs) (har : arityOk ar = true) (hfit : ∀ r ∈ rs, ruleFits ar r = true) (hsz : totR rs ≤ 1048576) (hrl : rs.length ≤ 1048576)
    (hn : fs.length ≤ 1048576) (ht : tot fs ≤ 1048576) (hc : ∀ f ∈ fs, f.2.all constOk = true) (hnd : fs.Nodup) :
    Calls Tryz.prog 145 #[v, v2] w fun e w' => ∃ F, e = .returned (.agg (tabCells (tabWith zeroT F))) ∧ (∀ f, f ∈ F ↔ f ∈ headsAll rs fs) ∧ Below w.heap.size w w' := by
  have H := Lib.hid h
  have H2 := Lib.hid h2
  obtain ⟨A, c, rfl, hcA, _⟩ := h
  obtain ⟨A2, c2, rfl, hc2, _⟩ := h2
  have HFIT := Lib.hid hfit
  clear hfit
  go_enter Tryz.func145, Tryz.ntmps145
  go_upto_region 2 with fail
  obtain ⟨w0, hw0⟩ : ∃ w0, w0 = (w.alloc (Obj.cells (tabCells zeroT) 83)).alloc (Obj.cells (tabCells zeroT) 83) := ⟨_, rfl⟩
  obtain ⟨g, hg⟩ : ∃ g, g = w.heap.size + 1 := ⟨_, rfl⟩
  have T0 : TabAt w0 g zeroT := by rw [hw0, hg]; have := TabAt.zero (w.alloc (Obj.cells (tabCells zeroT) 83)); simpa using this
  have R0 : TabAt w0 w.heap.size zeroT := by rw [hw0]; exact (TabAt.zero w).below (below1 _ _) (by simp)
  have B0 : Below w.heap.size w w0 := by rw [hw0]; exact bthen (below1 _ _) (below1 _ _)
  rw [show ((w.alloc (Obj.cells #[Value.int IntKind.u64 0, Value.int IntKind.u64 0, Value.int IntKind.u64 0, Value.int IntKind.u64 0, Value.int IntKind.u64 0, Value.int IntKind.u64 0, Value.int IntKind.u64 0, Value.int IntKind.u64 0, Value.int IntKind.u64 0, Value.int IntKind.u64 0, Value.int IntKind.u64 0, Value.int IntKind.u64 0, Value.int IntKind.u64 0, Value.int IntKind.u64 0, Value.int IntKind.u64 0, Value.int IntKind.u64 0, Value.int IntKind.u64 0, Value.int IntKind.u64 0, Value.int IntKind.u64 0, Value.int IntKind.u64 0, Value.int IntKind.u64 0, Value.int IntKind.u64 0, Value.int IntKind.u64 0, Value.int IntKind.u64 0] 83)).alloc (Obj.cells #[Value.int IntKind.u64 0, Value.int IntKind.u64 0, Value.int IntKind.u64 0, Value.int IntKind.u64 0, Value.int IntKind.u64 0, Value.int IntKind.u64 0, Value.int IntKind.u64 0, Value.int IntKind.u64 0, Value.int IntKind.u64 0, Value.int IntKind.u64 0, Value.int IntKind.u64 0, Value.int IntKind.u64 0, Value.int IntKind.u64 0, Value.int IntKind.u64 0, Value.int IntKind.u64 0, Value.int IntKind.u64 0, Value.int IntKind.u64 0, Value.int IntKind.u64 0, Value.int IntKind.u64 0, Value.int IntKind.u64 0, Value.int IntKind.u64 0, Value.int IntKind.u64 0, Value.int IntKind.u64 0, Value.int IntKind.u64 0] 83)) = w0 from by rw [hw0]; rfl, show w.heap.size + 1 = g from hg.symm]
  have hgs : g < w0.heap.size := T0.1.lt
  have hgw : w.heap.size ≤ g := by omega
  have HT0 := Lib.hid T0
  have HR0 := Lib.hid R0
  have HGE := Lib.hid hg
  clear hw0 T0 R0 hg
  go_wp2_with fail
  go_loopw [12] (fun i wr => ∃ (k : Nat) (F : List LFact), k ≤ rs.length ∧ i = .int .i64 k ∧ TabAt wr g (tabWith zeroT F) ∧ (∀ f, f ∈ F ↔ f ∈ headsAll (rs.take k) fs) ∧ Only g (g + 1) w0 wr) (fun i _ => rs.length - (intOf i).toNat)
  case atStart => exact ⟨0, [], Nat.zero_le _, rfl, HT0.out, fun f => by simp [headsAll, setOf], Only.refl _ _ _⟩
  case round =>
    obtain ⟨k, F, hk, rfl, hat, hmem, hon⟩ := hrel
    have BW : Below w.heap.size w wr := Only.then_ B0 hon hgw
    have HON := Lib.hid hon
    have HMEM := Lib.hid hmem
    have hsz0 := hon.size
    by_cases hlt : k < rs.length
    · obtain ⟨b, o, u0, u1, u2, rfl, hbB, k0, k1, k2, rfl, q1, q2⟩ := (H.out.below BW (Nat.le_refl _)).get hlt
      have hwr : w.heap.size ≤ wr.heap.size := BW.size
      have Q1 := Lib.hid q1
      have Q2 := Lib.hid q2
      obtain ⟨A3, c3, rfl, _⟩ := q1
      obtain ⟨A4, c4, rfl, _⟩ := q2
      have hfk := HFIT.out _ (List.getElem_mem hlt)
      have HW := Lib.hid hfk
      have hparts := hfk
      simp only [ruleFits, atomFits, Bool.and_eq_true, decide_eq_true_eq] at hparts
      have HLE := Lib.hid (place_short har hparts.1.1)
      have HTM := Lib.hid hparts.1.2
      have HPR := Lib.hid (show 0 ≤ rs[k].1.1 ∧ rs[k].1.1 < 24 from by
        have : ar.length ≤ 24 := by simp only [arityOk, Bool.and_eq_true, decide_eq_true_eq] at har; exact har.1
        omega)
      have hsk := sz_le_totR rs k hlt
      unfold szR at hsk
      have HSF := Lib.hid (SafeB.of (fits_body hfk))
      have HQL := Lib.hid (show (questL fs rs[k].2).length = rs[k].2.length by simp [questL])
      have CQ := Lib.hid (fun W (hW : Below wr.heap.size wr W) => questionsOf_any (.slice A2 fs.length c2) (.slice A4 rs[k].2.length c4) fs rs[k].2 W (H2.out.on (bthen BW hW)) ((Q2.out.more hwr).on hW) (by omega))
      clear hparts hfk hon hmem
      go_upto_region 5 with fail
      obtain ⟨wv, hwv⟩ : ∃ wv, wv = wr.alloc (Obj.cells #[Value.int .i64 rs[k].1.1, Value.slice A3 rs[k].1.2.length c3, Value.slice A4 rs[k].2.length c4] 124) := ⟨_, rfl⟩
      have bv : Below wr.heap.size wr wv := by rw [hwv]; exact below1 _ _
      have X : Blk wv wr.heap.size 124 #[.int .i64 rs[k].1.1, .slice A3 rs[k].1.2.length c3, .slice A4 rs[k].2.length c4] := by rw [hwv]; exact Blk.new _ _ _
      rw [← hwv]
      have hvl := X.lt
      clear hwv k0 k1 k2
      have x2 : wv.cell? ⟨wr.heap.size, 2, none⟩ = some (.slice A4 rs[k].2.length c4) := X.cell 2
      have HQK := Lib.hid (HSF.out.qok hc hn ht (by omega))
      go_wp2_with (first
        | (go_at_call 182; refine (CQ.out _ bv).mono ?_; rintro e w3 ⟨g3, us, rfl, hg3, at3, rd3, hb3⟩
           have CS := solve_any g3 rs[k].2.length wv.heap.size us (questL fs rs[k].2) w3 at3 rd3 hg3 (by rw [HQL.out]; omega) HQK.out (HSF.out.quests fs)
           rw [HQL.out] at CS
           have HCS := Lib.hid CS
           have H3 := Lib.hid (And.intro hg3 hb3)
           clear CS hg3 at3 rd3 hb3)
        | (go_at_call 156; refine HCS.out.mono ?_; rintro e w4 ⟨A5, c5, S, rfl, own4, on4, is4⟩
           have H4 := Lib.hid (And.intro own4 (And.intro on4 is4))
           clear own4 on4 is4))
      obtain ⟨hg3, hb3⟩ := H3.out
      obtain ⟨own4, on4, is4⟩ := H4.out
      have hs3 := hb3.size
      have b34 : Below wv.heap.size wv w4 := Only.then_ hb3 on4 hg3
      have hl4 : S.length ≤ 65536 := binds_len is4.1 is4.ok
      have X4 := Lib.hid (X.below b34 hvl)
      have hgr : g + 1 ≤ wr.heap.size := hat.1.lt
      have T4 := Lib.hid (hat.below (bthen bv b34) hat.1.lt)
      have ON4 := Lib.hid (HON.out.trans (Only.of_below (bthen bv b34)))
      have OW4 := Lib.hid own4
      have IS4 := Lib.hid is4
      have B4 := Lib.hid (bthen bv b34)
      have hs4 := b34.size
      clear hg3 hb3 own4 on4 is4 H3 H4 HCS CQ x2 X b34 hat HQK
      obtain ⟨wo, rfl⟩ : ∃ wo, wo = wr := ⟨_, rfl⟩
      go_loopw [22] (fun i wr => ∃ q : Nat, q ≤ S.length ∧ i = .int .i64 q ∧ TabAt wr g (tabWith zeroT (F ++ (S.take q).map (hdOf rs[k]))) ∧ Only g (g + 1) w4 wr) (fun i _ => S.length - (intOf i).toNat)
      case atStart => exact ⟨0, Nat.zero_le _, rfl, by simpa using T4.out, Only.refl _ _ _⟩
      case round =>
        obtain ⟨q, hq, rfl, htx, honx⟩ := hrel
        have hsx := honx.size
        have hwx : w.heap.size ≤ wr.heap.size := by omega
        by_cases hltq : q < S.length
        · have hrd := (OW4.out.only honx (.inr (by omega))).rd
          obtain ⟨A7, c7, e7, _, hx⟩ := hrd
          injection e7 with e7 _ e8
          subst e7 e8
          obtain ⟨b7, o7, rfl, _, hx⟩ := hx (by omega)
          have hck : wr.cell? ⟨b7, o7 + q, none⟩ = some (.int .u32 ((encB S[q] : Nat) : Int)) := hx q hltq
          have HBK := Lib.hid (IS4.out.ok _ (List.getElem_mem hltq))
          have HCO := Lib.hid (show (rs[k].1.2.map (termVal S[q])).all constOk = true from by
            have := sols_head HW.out IS4.out _ (List.getElem_mem hltq)
            simp only [headOk, Bool.and_eq_true] at this
            exact this.2)
          have Xx := X4.out.only honx (.inr hgr)
          obtain ⟨p, hpe⟩ : ∃ p : Nat, rs[k].1.1 = (p : Int) := ⟨rs[k].1.1.toNat, by have := HPR.out; omega⟩
          have hp24 : p < 24 := by have := HPR.out; omega
          obtain ⟨n, hne⟩ : ∃ n, n = numF (rs[k].1.2.map (termVal S[q])) := ⟨_, rfl⟩
          have HNE := Lib.hid hne
          have hn64 : n < 64 := by rw [hne]; exact numF_64 HCO.out (by rw [List.length_map]; exact HLE.out)
          obtain ⟨T, hTe⟩ : ∃ T, T = tabWith zeroT (F ++ (S.take q).map (hdOf rs[k])) := ⟨_, rfl⟩
          have HTK := Lib.hid (show tabWith zeroT (F ++ (S.take (q + 1)).map (hdOf rs[k])) = setBit T p n from by
            rw [take_snoc S q hltq, List.map_append, ← List.append_assoc, List.map_singleton, tabWith_snoc, hTe, hne]
            show setBit _ rs[k].1.1.toNat _ = _
            rw [hpe]
            rfl)
          rw [← hTe] at htx
          have HTV := Lib.hid (show TabAt wr.drew g T from htx)
          have q0 : wr.cell? ⟨wo.heap.size, 0, none⟩ = some (.int .i64 p) := by rw [← hpe]; exact Xx.cell 0
          have q1 : wr.cell? ⟨wo.heap.size, 1, none⟩ = some (.slice A3 rs[k].1.2.length c3) := Xx.cell 1
          have RX := Lib.hid (show RdInts wr w.heap.size (.slice A3 rs[k].1.2.length c3) rs[k].1.2 from (Q1.out.below B4.out hwr).below (honx.below hgw (by omega)) (Nat.le_refl _))
          have HONX := Lib.hid (show Only g (g + 1) w4 wr.drew from honx.drew')
          clear hx htx honx hpe hne hTe Xx
          go_upto_region 8 with fail
          obtain ⟨SS, hSS⟩ : ∃ SS : World → Prop, SS = (fun W => Below wr.heap.size wr W ∧ W.cell? ⟨wo.heap.size, 0, none⟩ = some (.int .i64 p) ∧ W.cell? ⟨wo.heap.size, 1, none⟩ = some (.slice A3 rs[k].1.2.length c3)) := ⟨_, rfl⟩
          have HB := Lib.hid (show ∀ W, SS W → (Below wr.heap.size wr W ∧ W.cell? ⟨wo.heap.size, 0, none⟩ = some (.int .i64 p) ∧ W.cell? ⟨wo.heap.size, 1, none⟩ = some (.slice A3 rs[k].1.2.length c3)) from by rw [hSS]; exact fun W hW => hW)
          have HS := Lib.hid (show ∀ W, Below wr.heap.size wr W → SS W from by
            rw [hSS]
            exact fun W hW => ⟨hW, (hW.cell (World.block_lt_of_cell? _ _ q0)).trans q0, (hW.cell (World.block_lt_of_cell? _ _ q1)).trans q1⟩)
          clear hSS
          have BB : Below wr.heap.size wr wr.drew := (Below.refl _ _).drew
          have SB := HS.out _ BB
          refine wp_region_rel SS 8 9 (by kernel_rfl) rfl ?_
          refine wpAnyR_pure (i := 0) (oi := _) ?v0 rfl rfl (by kernel_rfl) (by decide) (fun _ _ _ h => h) rfl ?hy0 (fun _ => SB) ?rest0
          case hy0 => (intro W; go_simp; (try with_reducible rfl))
          try simp only [List.setIfInBounds_toArray, List.set_cons_zero, List.set_cons_succ]
          refine wpAnyR_pure (i := 1) (oi := _) ?v1 rfl rfl (by kernel_rfl) (by decide) (fun _ _ _ h => h) rfl ?hy1 (fun _ => SB) ?rest1
          case hy1 => (intro W; go_simp; (try with_reducible rfl))
          try simp only [List.setIfInBounds_toArray, List.set_cons_zero, List.set_cons_succ]
          refine wpAnyR_take (i := 2) (oi := _) ?v2 rfl rfl (by kernel_rfl) (fun _ _ _ h => h) rfl ?hy2 SB ?rest2
          case hy2 => (intro W hW; obtain ⟨_, e0, e1⟩ := HB.out W hW; go_simp; (try with_reducible rfl))
          try simp only [List.setIfInBounds_toArray, List.set_cons_zero, List.set_cons_succ]
          refine wpAnyR_pure (i := 3) (oi := _) ?v3 rfl rfl (by kernel_rfl) (by decide) (fun _ _ _ h => h) rfl ?hy3 (fun _ => SB) ?rest3
          case hy3 => (intro W; go_simp; (try with_reducible rfl))
          try simp only [List.setIfInBounds_toArray, List.set_cons_zero, List.set_cons_succ]
          refine wpAnyR_pure (i := 4) (oi := _) ?v4 rfl rfl (by kernel_rfl) (by decide) (fun _ _ _ h => h) rfl ?hy4 (fun _ => SB) ?rest4
          case hy4 => (intro W; go_simp; (try with_reducible rfl))
          try simp only [List.setIfInBounds_toArray, List.set_cons_zero, List.set_cons_succ]
          refine wpAnyR_pure (i := 5) (oi := _) ?v5 rfl rfl (by kernel_rfl) (by decide) (fun _ _ _ h => h) rfl ?hy5 (fun _ => SB) ?rest5
          case hy5 => (intro W; go_simp; (try with_reducible rfl))
          try simp only [List.setIfInBounds_toArray, List.set_cons_zero, List.set_cons_succ]
          refine wpAnyR_take (i := 6) (oi := _) ?v6 rfl rfl (by kernel_rfl) (fun _ _ _ h => h) rfl ?hy6 SB ?rest6
          case hy6 => (intro W hW; obtain ⟨_, e0, e1⟩ := HB.out W hW; go_simp; (try with_reducible rfl))
          try simp only [List.setIfInBounds_toArray, List.set_cons_zero, List.set_cons_succ]
          refine wpAnyR_one (i := 7) (by kernel_rfl) rfl (fun K hK => ?_)
          try rw [if_pos (show Region.wanted _ _ = true from rfl)]
          go_simp
          refine (number_any (.slice A3 rs[k].1.2.length c3) S[q] rs[k].1.2 HBK.out HTM.out w.heap.size _ (RX.out.below BB hwx) HCO.out HLE.out).mono ?_
          rw [← HNE.out]
          rintro e W7 ⟨rfl, rfl⟩
          refine hK.out _ _ (fun _ => SB) ?_
          clear hK K
          try simp only [List.setIfInBounds_toArray, List.set_cons_zero, List.set_cons_succ, Act.put]
          refine wpAnyR_one (i := 8) (by kernel_rfl) rfl (fun K hK => ?_)
          try rw [if_pos (show Region.wanted _ _ = true from rfl)]
          go_simp
          refine (add_any g p n T _ HTV.out hp24 hn64).mono ?_
          rintro e W8 ⟨rfl, ht8, ho8⟩
          have H8 := Lib.hid (And.intro ht8 ho8)
          clear ht8 ho8
          refine hK.out _ _ (fun hf => absurd hf (by decide)) ?_
          clear hK K
          try simp only [List.setIfInBounds_toArray, List.set_cons_zero, List.set_cons_succ, Act.put]
          refine wpAnyR_done (by kernel_rfl) ?_
          go_wp2_with fail
          go_roundw
          case rel => exact ⟨q + 1, by omega, by go_num, by rw [HTK.out]; exact H8.out.1, HONX.out.trans H8.out.2⟩
          case measure => simp [intOf]; omega
        · have HQ := Lib.hid (show S.take q = S by rw [show q = S.length by omega, List.take_length])
          have HTX := Lib.hid htx
          have HOX := Lib.hid (ON4.out.trans honx)
          clear htx honx
          go_wp2_with fail
          go_roundw
          case rel =>
            refine ⟨k + 1, F ++ S.map (hdOf rs[k]), by omega, by go_num, by have := HTX.out; rw [HQ.out] at this; exact this, fun f => ?_, HOX.out⟩
            rw [headsAll_snoc rs fs k hlt, setOf_mem, List.mem_append, List.mem_append, HMEM.out f, headsL_mem HW.out IS4.out hc hnd, List.mem_map]
            constructor
            · rintro (h | ⟨b, hb, e⟩)
              · exact .inl h
              · exact .inr ⟨b, hb, e.symm⟩
            · rintro (h | ⟨b, hb, e⟩)
              · exact .inl h
              · exact .inr ⟨b, hb, e.symm⟩
          case measure => simp [intOf]; omega
    · obtain rfl : k = rs.length := by omega
      have HMF := Lib.hid (show ∀ f, f ∈ F ↔ f ∈ headsAll rs fs from by have := HMEM.out; rw [List.take_length] at this; exact this)
      have RR := HR0.out.only hon (.inl (by have := HGE.out; omega))
      obtain ⟨hbk, hln, _⟩ := hat
      obtain ⟨cs, hcs⟩ : ∃ cs, cs = tabCells (tabWith zeroT F) := ⟨_, rfl⟩
      have hcz : cs.size = 24 := by rw [hcs]; simp [tabCells, hln]
      have HONE := Lib.hid (show cs.all (·.oneCell') = true from by
        rw [hcs]
        unfold tabCells
        rw [List.all_toArray, List.all_map, List.all_eq_true]
        intro x _
        rfl)
      rw [← hcs] at hbk
      have hsi : (Tryz.prog.info? 83).map (·.size) = some cs.size := by rw [hcz]; kernel_rfl
      have hold : (tabCells zeroT).size = cs.size := by rw [hcz]; rfl
      have HOLD := Lib.hid hold
      have HCS := Lib.hid hcs
      have HBE := Lib.hid BW
      have HSI := Lib.hid hsi
      have HBK := Lib.hid hbk
      have HRR := Lib.hid RR.1
      clear hcs hcz hon hmem hln hold hsi hbk RR
      go_wp2_with (first
        | (refine wpList_load_row rfl 83 _ rfl g rfl 83 cs (0, 0) _ HBK.out Tryz.underlying83 rfl HSI.out ?_)
        | (refine wpList_store_row rfl 83 _ _ rfl w.heap.size cs rfl rfl 83 (tabCells zeroT) HRR.out HSI.out HOLD.out HONE.out ?_))
      refine bodyPost_ret_by (v := .agg cs) (results_cell_row Tryz.results145 _ _ w.heap.size _ cs (0, 0) _ rfl (setRow_heap _ _ _ cs _ _ HRR.out) Tryz.underlying83 rfl HSI.out) rfl ?_
      exact ⟨F, by rw [HCS.out], HMF.out, below_setRow HBE.out (Nat.le_refl _) _⟩

end Go.Proofs.YtigkgheddngkeaaGreatDoor
/-
  hasAll: a table has all of another one.
-/
namespace Go.Proofs.YtigkgheddngkeaaGreatDoor
open Go.RowKit

def wordIn (T2 T : List Nat) (p : Nat) : Bool := bits .andNot .u64 ((T2.getD p 0 : Nat) : Int) ((T.getD p 0 : Nat) : Int) == 0
def tabIn (T2 T : List Nat) : Bool := (List.range 24).all (wordIn T2 T)

theorem run_index_tab {cs : Array Value} {k : Nat} {v : Value} (hk : k < 24) (hc : cs[k]? = some v) (W : World) :
    (Instr.index 83 (.agg cs) (.int .i64 (k : Int))).run Tryz.prog W = .ok v W := by
  have hks : k < cs.size := by
    rcases Nat.lt_or_ge k cs.size with h | h
    · exact h
    · rw [Array.getElem?_eq_none h] at hc; cases hc
  simp [Instr.index, run_underlying Tryz.underlying83, asIntOf, hc, go_sem]
  intro h
  omega

set_option maxHeartbeats 2000000 in
set_option maxRecDepth 100000 in
theorem hasAll_any (g : Nat) (T T2 : List Nat) (w : World) (h : TabAt w g T) (h2 : T2.length = 24) (R : Bool) (hR : R = tabIn T2 T) :
    Calls Tryz.prog 146 #[.pointer (some ⟨g, 0, none⟩), .agg (tabCells T2)] w fun e w' => e = .returned (.bool R) ∧ Below w.heap.size w w' := by
  have H := Lib.hid h
  have HR := Lib.hid hR
  have hcs : (tabCells T2).size = 24 := by simp [tabCells, h2]
  have HC := Lib.hid (fun p (hp : p < 24) => (show (tabCells T2)[p]? = some (.int .u64 ((T2.getD p 0 : Nat) : Int)) from by
    have : p < T2.length := by rw [h2]; exact hp
    simp [tabCells, this]))
  have hgl := h.1.lt
  clear h hR
  obtain ⟨cs, hcse⟩ : ∃ cs, cs = tabCells T2 := ⟨_, rfl⟩
  rw [← hcse] at hcs HC ⊢
  clear hcse
  have hsz : (Tryz.prog.info? 83).map (·.size) = some cs.size := by rw [hcs]; kernel_rfl
  go_enter Tryz.func146, Tryz.ntmps146
  go_upto_region 1 with fail
  obtain ⟨w1, hw1⟩ : ∃ w1, w1 = w.alloc (Obj.cells cs 83) := ⟨_, rfl⟩
  have X1 : Blk w1 w.heap.size 83 cs := by rw [hw1]; exact Blk.new _ _ _
  have HB1 := Lib.hid (show Below w.heap.size w w1 by rw [hw1]; exact below1 _ _)
  rw [← hw1]
  clear hw1
  go_wp2_with (refine wpList_load_row rfl 83 _ rfl w.heap.size rfl 83 cs (0, 0) _ X1 Tryz.underlying83 rfl hsz ?_)
  clear X1 hsz
  go_loopw [8] (fun i wr => ∃ k : Nat, k ≤ 24 ∧ i = .int .i64 k ∧ (∀ p, p < k → wordIn T2 T p = true) ∧ wr = w1) (fun i _ => 24 - (intOf i).toNat)
  case atStart => exact ⟨0, by omega, rfl, fun p h => absurd h (by omega), by first | rfl | trivial⟩
  case round =>
    obtain ⟨k, hk, rfl, hs, rfl⟩ := hrel
    by_cases hlt : k < 24
    · have hck := HC.out k hlt
      have hTk := (H.out.below HB1.out hgl).cell hlt
      have hki : (k : Int) < 24 := by omega
      obtain ⟨z, hz⟩ : ∃ z, z = bits .andNot .u64 ((T2.getD k 0 : Nat) : Int) ((T.getD k 0 : Nat) : Int) := ⟨_, rfl⟩
      obtain ⟨a, hae⟩ : ∃ a, a = T2.getD k 0 := ⟨_, rfl⟩
      obtain ⟨b, hbe⟩ : ∃ b, b = T.getD k 0 := ⟨_, rfl⟩
      rw [← hae] at hck hz
      rw [← hbe] at hTk hz
      have hix := fun W => run_index_tab hlt hck W
      have HZ := Lib.hid (show wordIn T2 T k = (z == 0) by unfold wordIn; rw [← hae, ← hbe, ← hz])
      have hz' : bits .andNot .u64 ((a : Nat) : Int) ((b : Nat) : Int) = z := hz.symm
      clear hz hae hbe
      have HS := Lib.hid hs
      clear hs
      by_cases h0 : z = 0
      · subst h0
        go_wp2_with fail
        go_roundw
        case rel => exact ⟨k + 1, by omega, by go_num, fun p hp => by
          by_cases e : p = k
          · subst e; rw [HZ.out]; rfl
          · exact HS.out p (by omega), by first | rfl | trivial⟩
        case measure => simp [intOf]; omega
      · have hne : (z != 0) = true := by simpa using h0
        have HE := Lib.hid (show R = false by
          rw [HR.out]
          unfold tabIn
          rw [List.all_eq_false]
          exact ⟨k, List.mem_range.2 hlt, by rw [HZ.out]; simpa using h0⟩)
        go_wp2_with fail
        go_ret
        exact ⟨ret_bool HE.out.symm, HB1.out⟩
    · have HE := Lib.hid (show R = true by
        rw [HR.out]
        unfold tabIn
        rw [List.all_eq_true]
        intro p hp
        exact hs p (by have := List.mem_range.1 hp; omega))
      clear hs
      go_wp2_with fail
      go_ret
      exact ⟨ret_bool HE.out.symm, HB1.out⟩

end Go.Proofs.YtigkgheddngkeaaGreatDoor
/-
  The walk of the program's FactsOk.
-/
namespace Go.Proofs.YtigkgheddngkeaaGreatDoor
open Go.RowKit

set_option maxHeartbeats 1000000 in
set_option maxRecDepth 100000 in
theorem implFactsOk_any (v v2 : Value) (ar : List Int) (fs : List LFact) (w : World) (h : RdInts w w.heap.size v ar) (h2 : RdFacts w w.heap.size v2 fs) (hr : ar.length ≤ 1048576) (hn : fs.length ≤ 1048576) (ht : tot fs ≤ 1048576) :
    Calls Tryz.prog 95 #[v, v2] w fun e w' => e = .returned (.bool (factsOk ar fs)) ∧ Below w.heap.size w w' := by
  have H := Lib.hid h
  have H2 := Lib.hid h2
  obtain ⟨A, c, rfl, hc, _⟩ := h
  obtain ⟨A2, c2, rfl, hc2, _⟩ := h2
  go_enter Tryz.func95, Tryz.ntmps95
  go_wp2_with (fail)
  refine (arityOk_any _ ar _ H.out (by omega)).mono ?_
  rintro e w1 ⟨rfl, hb1⟩
  by_cases ha : arityOk ar = true
  · rw [ha]
    have HA := Lib.hid ha
    clear ha
    go_wp2_with (fail)
    go_loopw [5, 6, 12] (fun _ _ i wr => ∃ k : Nat, k ≤ fs.length ∧ i = .int .i64 k ∧ OkTo ar fs k ∧ Below w.heap.size w wr) (fun _ _ i _ => fs.length - (intOf i).toNat)
    case atStart => exact ⟨0, Nat.zero_le _, rfl, by simp [OkTo], hb1⟩
    case round =>
      obtain ⟨k, hk, rfl, hs, hbe⟩ := hrel
      by_cases hlt : k < fs.length
      · obtain ⟨b, o, A3, c3, rfl, hbB, k1, k2, k3⟩ := (H2.out.on hbe).get hlt
        have K3 := Lib.hid (show RdFact wr wr.heap.size (.agg #[.int .i64 fs[k].1, .slice A3 fs[k].2.length c3]) fs[k] from ⟨_, rfl, k3⟩)
        have hln := len_le_tot fs k hlt
        clear k3
        go_wp2_with (fail)
        obtain ⟨w2, hw2⟩ : ∃ w2, w2 = wr.alloc (Obj.cells #[Value.int IntKind.i64 fs[k].1, Value.slice A3 fs[k].2.length c3] 68) := ⟨_, rfl⟩
        have B2 : Below wr.heap.size wr w2 := by rw [hw2]; exact below1 _ _
        have x2 : Blk w2 wr.heap.size 68 #[.int .i64 fs[k].1, .slice A3 fs[k].2.length c3] := by rw [hw2]; exact Blk.new _ _ _
        rw [← hw2]
        clear hw2
        refine (factFits_any _ _ ar fs[k] _ ((H.out.on hbe).on B2) (K3.out.on B2) (by omega)).mono ?_
        rintro e w3 ⟨rfl, hb3⟩
        have B3 := bthen B2 hb3
        have BW3 := bthen hbe B3
        have x3 := x2.below hb3 x2.lt
        by_cases hff : factFits ar fs[k] = true
        · rw [hff]
          rcases Nat.eq_zero_or_pos k with hk0 | hk0
          · have hd : decide (0 < k) = false := by simp [hk0]
            have HS := Lib.hid (hs.step (round_first hlt hff hk0) : OkTo ar fs (k + 1))
            clear hs hk0 hff
            go_wp2_with (fail)
            refine wp_region_later (by kernel_rfl) (by kernel_rfl) ?_
            repeat (go_big_quiet_step (fail))
            refine wpQuiet_nil ?_
            rintro _ ⟨xq, rfl⟩
            go_wp2_with (fail)
            go_roundw
            case rel => exact ⟨k + 1, by omega, by go_num, HS.out, bthen BW3 xq.2⟩
            case measure => simp [intOf]; omega
          · obtain ⟨j, rfl⟩ : ∃ j, k = j + 1 := ⟨k - 1, by omega⟩
            have hltj : j < fs.length := by omega
            obtain ⟨b', o', A4, c4, e4, hbB', m1, m2, m3⟩ := (H2.out.on BW3).get hltj
            simp only [Option.some.injEq, Addr.mk.injEq, and_true] at e4
            obtain ⟨rfl, rfl⟩ := e4
            have K4 := Lib.hid (show RdFact w3 w3.heap.size (.agg #[.int .i64 fs[j].1, .slice A4 fs[j].2.length c4]) fs[j] from ⟨_, rfl, m3⟩)
            have hlnj := len_le_tot fs j hltj
            have M1 := later_cell m1
            have M2 := later_cell m2
            have X0 := later_cell (x3.cell 0 : w3.cell? ⟨wr.heap.size, 0, none⟩ = some (.int .i64 fs[j + 1].1))
            have X1 := later_cell (x3.cell 1 : w3.cell? ⟨wr.heap.size, 1, none⟩ = some (.slice A3 fs[j + 1].2.length c3))
            have CO := Lib.hid (fun x : Later w3 => implFactOrder_any _ _ fs[j] fs[j + 1] x.val (K4.out.on x.2) ((K3.out.on B3).on x.2) (by omega) (by omega))
            clear m1 m2 m3 k1 k2
            by_cases hlo : factOrder fs[j] fs[j + 1] < 0
            · have hd : decide (0 ≤ factOrder fs[j] fs[j + 1]) = false := by simp; omega
              have HS := Lib.hid (hs.step (by rw [round_next hlt hltj hff]; simp [hlo]) : OkTo ar fs (j + 1 + 1))
              clear hs hff
              go_wp2_with (fail)
              refine wp_region_later (by kernel_rfl) (by kernel_rfl) ?_
              repeat (go_big_quiet_step ((go_at_call 139; exact later_of (CO.out _))))
              refine wpQuiet_nil ?_
              rintro _ ⟨xq, rfl⟩
              go_wp2_with (fail)
              go_roundw
              case rel => exact ⟨j + 1 + 1, by omega, by go_num, HS.out, bthen BW3 xq.2⟩
              case measure => simp [intOf]; omega
            · have hd : decide (0 ≤ factOrder fs[j] fs[j + 1]) = true := by simp; omega
              have HE := Lib.hid (show factsOk ar fs = false from round_not hlt (by rw [round_next hlt hltj hff]; simp [hlo]))
              clear hs hff
              go_wp2_with (fail)
              refine wp_region_later (by kernel_rfl) (by kernel_rfl) ?_
              repeat (go_big_quiet_step ((go_at_call 139; exact later_of (CO.out _))))
              refine wpQuiet_nil ?_
              rintro _ ⟨xq, rfl⟩
              go_wp2_with (fail)
              go_ret
              exact ⟨ret_bool HE.out.symm, bthen BW3 xq.2⟩
        · have HE := Lib.hid (show factsOk ar fs = false from round_not hlt (round_unfit hlt (by simpa using hff)))
          rw [show factFits ar fs[k] = false by simpa using hff]
          clear hs hff
          go_wp2_with (fail)
          go_ret
          exact ⟨ret_bool HE.out.symm, BW3⟩
      · have hkn : k = fs.length := by omega
        have HE := Lib.hid (show factsOk ar fs = true by unfold factsOk; unfold OkTo at hs; rw [← hkn, hs, HA.out]; rfl)
        clear hkn hs
        go_wp2_with (fail)
        go_ret
        exact ⟨ret_bool HE.out.symm, hbe⟩
  · have HE := Lib.hid (show factsOk ar fs = false by simp [factsOk, ha])
    rw [show arityOk ar = false by simpa using ha]
    clear ha
    go_wp2_with (fail)
    go_ret
    exact ⟨ret_bool HE.out.symm, hb1⟩

end Go.Proofs.YtigkgheddngkeaaGreatDoor
/-
  The program's Closed, by its tables.
-/
namespace Go.Proofs.YtigkgheddngkeaaGreatDoor
open Go.RowKit

/-- What the program's Closed answers. -/
def ClosedT (p : LProg) (fs : List LFact) (R : Bool) : Prop := ((progOk p && factsOk p.1 fs) = false ∧ R = false) ∨ ((progOk p && factsOk p.1 fs) = true ∧ ∃ F, (∀ f, f ∈ F ↔ f ∈ headsAll p.2 fs) ∧ R = tabIn (tabWith zeroT F) (tabWith zeroT fs))

theorem tabWith_len (T : List Nat) (fs : List LFact) : (tabWith T fs).length = T.length := by
  induction fs generalizing T with
  | nil => rfl
  | cons f fs ih =>
    show (tabWith (setBit T f.1.toNat (numF f.2)) fs).length = _
    rw [ih]
    simp [setBit]
theorem tabCells_one (T : List Nat) : (tabCells T).all (·.oneCell') = true := by
  unfold tabCells
  rw [List.all_toArray, List.all_map, List.all_eq_true]
  intro x _
  rfl

set_option maxHeartbeats 4000000 in
set_option maxRecDepth 100000 in
theorem implClosedT_any (v v2 : Value) (p : LProg) (fs : List LFact) (w : World) (h : RdProg w w.heap.size v p) (h2 : RdFacts w w.heap.size v2 fs) (hs : szP p ≤ 1048576) (hn : fs.length ≤ 1048576) (ht : tot fs ≤ 1048576) :
    Calls Tryz.prog 94 #[v, v2] w fun e w' => ∃ R, e = .returned (.bool R) ∧ ClosedT p fs R ∧ Below w.heap.size w w' := by
  have HP := Lib.hid h
  have H2 := Lib.hid h2
  have hs' := hs
  unfold szP at hs'
  obtain ⟨a, b, rfl, hA, hR⟩ := h
  have HA := Lib.hid hA
  have HR := Lib.hid hR
  obtain ⟨A, c, rfl, hcA, _⟩ := hA
  obtain ⟨A2, c2, rfl, hcR, _⟩ := hR
  obtain ⟨A3, c3, rfl, hcF, _⟩ := h2
  obtain ⟨po, hpo⟩ : ∃ po, po = progOk p := ⟨_, rfl⟩
  obtain ⟨fo, hfo⟩ : ∃ fo, fo = factsOk p.1 fs := ⟨_, rfl⟩
  go_enter Tryz.func94, Tryz.ntmps94
  go_upto_region 1 with fail
  obtain ⟨w1, hw1⟩ : ∃ w1, w1 = w.alloc (Obj.cells #[Value.slice A p.1.length c, Value.slice A2 p.2.length c2] 33) := ⟨_, rfl⟩
  have X1 : Blk w1 w.heap.size 33 #[.slice A p.1.length c, .slice A2 p.2.length c2] := by rw [hw1]; exact Blk.new _ _ _
  have B1 : Below w.heap.size w w1 := by rw [hw1]; exact below1 _ _
  rw [← hw1]
  clear hw1
  have x0 : w1.cell? ⟨w.heap.size, 0, none⟩ = some (.slice A p.1.length c) := X1.cell 0
  have x1 : w1.cell? ⟨w.heap.size, 1, none⟩ = some (.slice A2 p.2.length c2) := X1.cell 1
  have CP := Lib.hid ((implProgramOk_any _ p w1 (HP.out.on B1) hs).mono fun e w' (hh : e = .returned (.bool (progOk p)) ∧ Below w1.heap.size w1 w') => (⟨by rw [hh.1, hpo], hh.2⟩ : e = .returned (.bool po) ∧ Below w1.heap.size w1 w'))
  have CF := Lib.hid (fun W (hW : Below w.heap.size w W) => (implFactsOk_any _ _ p.1 fs W (HA.out.on hW) (H2.out.on hW) (by omega) (by omega) (by omega)).mono fun e w' (hh : e = .returned (.bool (factsOk p.1 fs)) ∧ Below W.heap.size W w') => (⟨by rw [hh.1, hfo], hh.2⟩ : e = .returned (.bool fo) ∧ Below W.heap.size W w'))
  have HPO := Lib.hid hpo
  have HFO := Lib.hid hfo
  have HX1 := Lib.hid X1
  clear hpo hfo X1
  cases po
  · go_wp2_with (go_at_call 124; refine CP.out.mono ?_; rintro e w2 ⟨rfl, b2⟩; have B2 := Lib.hid (bthen B1 b2); clear b2)
    go_ret
    exact ⟨false, rfl, .inl ⟨by rw [← HPO.out]; rfl, rfl⟩, B2.out⟩
  · cases fo
    · go_wp2_with (first
        | (go_at_call 124; refine CP.out.mono ?_; rintro e w2 ⟨rfl, b2⟩; have B2 := Lib.hid (bthen B1 b2)
           have x20 : w2.cell? ⟨w.heap.size, 0, none⟩ = some (.slice A p.1.length c) := (HX1.out.below b2 HX1.out.lt).cell 0
           clear b2)
        | (go_at_call 95; refine (CF.out _ B2.out).mono ?_; rintro e w3 ⟨rfl, b3⟩; have B3 := Lib.hid (bthen B2.out b3); clear b3))
      go_ret
      exact ⟨false, rfl, .inl ⟨by rw [← HFO.out, Bool.and_false], rfl⟩, B3.out⟩
    · obtain ⟨har, hrl, hfit⟩ := prog_parts HPO.out.symm
      obtain ⟨_, hff, hasc⟩ := factsOk_parts HFO.out.symm
      have CA := Lib.hid (fun W (hW : Below w.heap.size w W) => headsIn_any (.slice A2 p.2.length c2) (.slice A3 fs.length c3) p.1 p.2 fs W (HR.out.on hW) (H2.out.on hW) har hfit (by omega) (by omega) (by omega) (by omega) (fun f hf => (fits_parts (hff f hf)).2) (asc_nodup hasc))
      have HTF := Lib.hid (show ∀ f ∈ fs, TabFact f from fun f hf => by
        have h1 := fits_parts (hff f hf)
        have h2 : p.1.length ≤ 24 := by simp only [arityOk, Bool.and_eq_true, decide_eq_true_eq] at har; exact har.1
        exact ⟨h1.1.1, by omega, h1.2, fits_short har (hff f hf)⟩)
      clear har hrl hfit hff hasc
      go_upto_region 4 with (first
        | (go_at_call 124; refine CP.out.mono ?_; rintro e w2 ⟨rfl, b2⟩; have B2 := Lib.hid (bthen B1 b2)
           have HX2 := Lib.hid (HX1.out.below b2 HX1.out.lt)
           have x20 : w2.cell? ⟨w.heap.size, 0, none⟩ = some (.slice A p.1.length c) := HX2.out.cell 0
           clear b2)
        | (go_at_call 95; refine (CF.out _ B2.out).mono ?_; rintro e w3 ⟨rfl, b3⟩; have B3 := Lib.hid (bthen B2.out b3)
           have x31 : w3.cell? ⟨w.heap.size, 1, none⟩ = some (.slice A2 p.2.length c2) := (HX2.out.below b3 HX2.out.lt).cell 1
           clear b3)
        | (go_at_call 145; refine (CA.out _ B3.out).mono ?_; rintro e w4 ⟨F, rfl, hF, b4⟩; have B4 := Lib.hid (bthen B3.out b4)
           have HF := Lib.hid hF
           obtain ⟨cs, hcs⟩ : ∃ cs, cs = tabCells (tabWith zeroT F) := ⟨_, rfl⟩
           rw [← hcs]
           have HCZ := Lib.hid (show cs.size = 24 by rw [hcs]; simp [tabCells, tabWith_len, zeroT])
           have HONE := Lib.hid (show cs.all (·.oneCell') = true by rw [hcs]; exact tabCells_one _)
           have HSI := Lib.hid (show (Tryz.prog.info? 83).map (·.size) = some cs.size by rw [HCZ.out]; kernel_rfl)
           have HCS := Lib.hid hcs
           clear hF b4 hcs)
        | (refine wpList_store_row rfl 83 _ _ rfl w4.heap.size cs rfl rfl 83 _ (heap_alloc_new w4 _) HSI.out (by rw [HCZ.out]; rfl) HONE.out ?_))
      go_upto_region 5 with fail
      obtain ⟨zs, hzs⟩ : ∃ zs, zs = (#[Value.int IntKind.u64 0, Value.int IntKind.u64 0, Value.int IntKind.u64 0, Value.int IntKind.u64 0, Value.int IntKind.u64 0, Value.int IntKind.u64 0, Value.int IntKind.u64 0, Value.int IntKind.u64 0, Value.int IntKind.u64 0, Value.int IntKind.u64 0, Value.int IntKind.u64 0, Value.int IntKind.u64 0, Value.int IntKind.u64 0, Value.int IntKind.u64 0, Value.int IntKind.u64 0, Value.int IntKind.u64 0, Value.int IntKind.u64 0, Value.int IntKind.u64 0, Value.int IntKind.u64 0, Value.int IntKind.u64 0, Value.int IntKind.u64 0, Value.int IntKind.u64 0, Value.int IntKind.u64 0, Value.int IntKind.u64 0] : Array Value) := ⟨_, rfl⟩
      have hzt : zs = tabCells zeroT := by rw [hzs]; rfl
      rw [← hzs]
      clear hzs
      obtain ⟨w5, hw5⟩ : ∃ w5, w5 = (w4.alloc (Obj.cells zs 83)).setRow w4.heap.size cs := ⟨_, rfl⟩
      have X5 : Blk w5 w4.heap.size 83 cs := by rw [hw5]; exact setRow_heap _ _ _ cs _ _ (heap_alloc_new w4 _)
      have b5 : Below w4.heap.size w4 w5 := by rw [hw5]; exact below_setRow (below1 _ _) (Nat.le_refl _) _
      have hs5 : w5.heap.size = w4.heap.size + 1 := by rw [hw5]; simp
      rw [← hw5]
      clear hw5
      obtain ⟨w6, hw6⟩ : ∃ w6, w6 = w5.alloc (Obj.cells zs 83) := ⟨_, rfl⟩
      have T6 : TabAt w6 (w4.heap.size + 1) zeroT := by rw [hw6, hzt, ← hs5]; exact TabAt.zero _
      have b6 : Below w5.heap.size w5 w6 := by rw [hw6]; exact below1 _ _
      rw [← hw6]
      clear hw6 hzt
      have X6 := Lib.hid (X5.below b6 X5.lt)
      have B6 := Lib.hid (bthen B4.out (bthen b5 b6))
      have hw4 := B4.out.size
      have HRF := Lib.hid (show RdFacts w6 w.heap.size (.slice A3 fs.length c3) fs from H2.out.below B6.out (Nat.le_refl _))
      have HADD := Lib.hid (addAll_any (w4.heap.size + 1) w.heap.size zeroT (.slice A3 fs.length c3) fs w6 T6 HRF.out (by omega) HTF.out hn)
      clear X5 b5 b6 hs5 T6
      go_wp2_with (first
        | (go_at_call 61; refine HADD.out.mono ?_; rintro e w7 ⟨rfl, t7, o7⟩
           have X7 := Lib.hid (X6.out.only o7 (.inl (Nat.lt_succ_self _)))
           have HHA := Lib.hid (show Calls Tryz.prog 146 #[.pointer (some ⟨w4.heap.size + 1, 0, none⟩), .agg cs] w7 fun e w' => e = .returned (.bool (tabIn (tabWith zeroT F) (tabWith zeroT fs))) ∧ Below w7.heap.size w7 w' from by rw [HCS.out]; exact hasAll_any _ _ _ w7 t7 (by simp [tabWith_len, zeroT]) _ rfl)
           have B7 := Lib.hid (Only.then_ B6.out o7 (by omega))
           clear t7 o7)
        | (refine wpList_load_row rfl 83 _ rfl w4.heap.size rfl 83 cs (0, 0) _ X7.out Tryz.underlying83 rfl HSI.out ?_)
        | (go_at_call 146; refine HHA.out.mono ?_; rintro e w8 ⟨rfl, b8⟩; have B8 := Lib.hid (bthen B7.out b8); clear b8))
      go_ret
      exact ⟨_, rfl, .inr ⟨by rw [← HPO.out, ← HFO.out]; rfl, F, HF.out, rfl⟩, B8.out⟩

end Go.Proofs.YtigkgheddngkeaaGreatDoor
/-
  Tables by their bits: one table stands in another as its facts do.
-/
namespace Go.Proofs.YtigkgheddngkeaaGreatDoor
open Go.RowKit

theorem setBit_bit {T : List Nat} {p q m n : Nat} (hp : p < T.length) : ((setBit T q m).getD p 0).testBit n = true ↔ (T.getD p 0).testBit n = true ∨ (q = p ∧ m = n) := by
  unfold setBit
  by_cases e : q = p
  · subst e
    have h1 : (T.set q (T.getD q 0 ||| 2 ^ m)).getD q 0 = T.getD q 0 ||| 2 ^ m := by simp [List.getD_eq_getElem?_getD, hp]
    rw [h1, Nat.testBit_or, Bool.or_eq_true, Nat.testBit_two_pow, decide_eq_true_eq]
    simp
  · have h1 : (T.set q (T.getD q 0 ||| 2 ^ m)).getD p 0 = T.getD p 0 := by simp [List.getD_eq_getElem?_getD, List.getElem?_set_ne e]
    rw [h1]
    simp [e]
theorem tabWith_bit {p n : Nat} : ∀ (fs : List LFact) (T : List Nat), p < T.length → (((tabWith T fs).getD p 0).testBit n = true ↔ (T.getD p 0).testBit n = true ∨ ∃ f ∈ fs, f.1.toNat = p ∧ numF f.2 = n)
  | [], T, _ => by simp [tabWith]
  | f :: fs, T, hp => by
    have e : tabWith T (f :: fs) = tabWith (setBit T f.1.toNat (numF f.2)) fs := rfl
    rw [e, tabWith_bit fs _ (by simpa [setBit] using hp), setBit_bit hp]
    constructor
    · rintro ((h | h) | ⟨g, hg, h⟩)
      · exact .inl h
      · exact .inr ⟨f, List.mem_cons_self .., h⟩
      · exact .inr ⟨g, List.mem_cons_of_mem _ hg, h⟩
    · rintro (h | ⟨g, hg, h⟩)
      · exact .inl (.inl h)
      · rcases List.mem_cons.1 hg with rfl | hg
        · exact .inl (.inr h)
        · exact .inr ⟨g, hg, h⟩
theorem zero_bit {p n : Nat} : (zeroT.getD p 0).testBit n = false := by
  have : zeroT.getD p 0 = 0 := by
    by_cases hp : p < zeroT.length
    · rw [getD_at hp]
      exact (List.mem_replicate.1 (List.getElem_mem hp)).2
    · simp [List.getD_eq_getElem?_getD, List.getElem?_eq_none (by omega : zeroT.length ≤ p)]
  rw [this, Nat.zero_testBit]
theorem numF_inj {xs ys : List Int} (hx : xs.all constOk = true) (hy : ys.all constOk = true) (hl : xs.length = ys.length) (h2 : xs.length ≤ 2) (e : numF xs = numF ys) : xs = ys := by
  rcases xs with _ | ⟨x, _ | ⟨y, _ | ⟨z, xs⟩⟩⟩ <;> rcases ys with _ | ⟨x', _ | ⟨y', _ | ⟨z', ys⟩⟩⟩ <;> (try (simp at hl; done)) <;> (try (simp at h2; done))
  · rfl
  · simp only [List.all_cons, List.all_nil, Bool.and_true] at hx hy
    have := const_range hx
    have := const_range hy
    simp [numF] at e
    simp; omega
  · simp only [List.all_cons, List.all_nil, Bool.and_true, Bool.and_eq_true] at hx hy
    have := const_range hx.1
    have := const_range hx.2
    have := const_range hy.1
    have := const_range hy.2
    simp [numF] at e
    simp; omega
/-- A fact's bit tells the fact. -/
theorem fact_of_bit {ar : List Int} {f g : LFact} (ha : arityOk ar = true) (hf : factFits ar f = true) (hg : factFits ar g = true) (e1 : f.1.toNat = g.1.toNat) (e2 : numF f.2 = numF g.2) : f = g := by
  obtain ⟨⟨h0, _, hl⟩, hc⟩ := fits_parts hf
  obtain ⟨⟨h0', _, hl'⟩, hc'⟩ := fits_parts hg
  have e : f.1 = g.1 := by omega
  rw [← e] at hl'
  exact Prod.ext e (numF_inj hc hc' (by omega) (fits_short ha hf) e2)

end Go.Proofs.YtigkgheddngkeaaGreatDoor
/-
  What the program's Closed answers by its tables is what the specification's answers.
-/
namespace Go.Proofs.YtigkgheddngkeaaGreatDoor
open Go.RowKit

theorem word_in {a b : Nat} (ha : a < 18446744073709551616) (hb : b < 18446744073709551616) : (bits .andNot .u64 (a : Int) (b : Int) == 0) = true ↔ ∀ n, a.testBit n = true → b.testBit n = true := by
  have e : (18446744073709551615 - b : Nat) = 2 ^ 64 - (b + 1) := by omega
  have hb' : b < 2 ^ 64 := hb
  rw [u64_andNot_nat a b ha hb, beq_iff_eq, e]
  constructor
  · intro h n hn
    have h0 : a &&& (2 ^ 64 - (b + 1)) = 0 := by exact_mod_cast h
    have h1 := congrArg (fun y => y.testBit n) h0
    simp only [Nat.testBit_and, Nat.zero_testBit, hn, Bool.true_and, Nat.testBit_two_pow_sub_succ hb'] at h1
    have hlt : n < 64 := by
      apply Classical.byContradiction
      intro h64
      have h2 := Nat.ge_two_pow_of_testBit hn
      have h3 : (2 : Nat) ^ 64 ≤ 2 ^ n := Nat.pow_le_pow_right (by decide) (by omega)
      omega
    simpa [hlt] using h1
  · intro h
    have h0 : a &&& (2 ^ 64 - (b + 1)) = 0 := by
      apply Nat.eq_of_testBit_eq
      intro n
      rw [Nat.testBit_and, Nat.zero_testBit, Nat.testBit_two_pow_sub_succ hb']
      cases hn : a.testBit n
      · rfl
      · rw [h n hn]
        simp
    rw [h0]
    rfl
theorem setBit_lt {T : List Nat} {p n : Nat} (h : ∀ x ∈ T, x < 18446744073709551616) (hn : n < 64) : ∀ x ∈ setBit T p n, x < 18446744073709551616 := by
  intro x hx
  rcases List.mem_or_eq_of_mem_set hx with h4 | rfl
  · exact h x h4
  · refine Nat.or_lt_two_pow (n := 64) ?_ (Nat.pow_lt_pow_right (by decide) hn)
    by_cases hp : p < T.length
    · rw [getD_at hp]
      exact h _ (List.getElem_mem hp)
    · simp [List.getD_eq_getElem?_getD, List.getElem?_eq_none (by omega : T.length ≤ p)]
theorem tabWith_lt : ∀ (fs : List LFact) (T : List Nat), (∀ x ∈ T, x < 18446744073709551616) → (∀ f ∈ fs, numF f.2 < 64) → ∀ x ∈ tabWith T fs, x < 18446744073709551616
  | [], _, h, _ => h
  | f :: fs, T, h, hf => tabWith_lt fs (setBit T f.1.toNat (numF f.2)) (setBit_lt h (hf f (List.mem_cons_self ..))) (fun g hg => hf g (List.mem_cons_of_mem _ hg))
theorem word_lt {T : List Nat} {p : Nat} (h : ∀ x ∈ T, x < 18446744073709551616) : T.getD p 0 < 18446744073709551616 := by
  by_cases hp : p < T.length
  · rw [getD_at hp]
    exact h _ (List.getElem_mem hp)
  · simp [List.getD_eq_getElem?_getD, List.getElem?_eq_none (by omega : T.length ≤ p)]
theorem zeroT_lt : ∀ x ∈ zeroT, x < 18446744073709551616 := fun x hx => by
  obtain ⟨_, rfl⟩ := List.mem_replicate.1 hx
  decide

theorem pickL_in (a b : List LFact) (t : Bool) (f : LFact) : f ∈ pickL a b t ↔ f ∈ a ∧ decide (f ∈ b) = t := by
  unfold pickL
  rw [setOf_mem, List.mem_filter, factsHas_in]
  simp

/-- One table of facts stands in another as its facts do. -/
theorem tabIn_facts {ar : List Int} (ha : arityOk ar = true) {F fs : List LFact} (hF : ∀ f ∈ F, factFits ar f = true) (hf : ∀ f ∈ fs, factFits ar f = true) : tabIn (tabWith zeroT F) (tabWith zeroT fs) = true ↔ ∀ f ∈ F, f ∈ fs := by
  have hl : ar.length ≤ 24 := by simp only [arityOk, Bool.and_eq_true, decide_eq_true_eq] at ha; exact ha.1
  have h64 : ∀ f, factFits ar f = true → numF f.2 < 64 := fun f h => numF_64 (fits_parts h).2 (fits_short ha h)
  have hz : ∀ p : Nat, p < 24 → p < zeroT.length := fun p hp => by simpa [zeroT] using hp
  unfold tabIn
  rw [List.all_eq_true]
  have hw : ∀ p, p < 24 → (wordIn (tabWith zeroT F) (tabWith zeroT fs) p = true ↔ ∀ n, (∃ f ∈ F, f.1.toNat = p ∧ numF f.2 = n) → ∃ f ∈ fs, f.1.toNat = p ∧ numF f.2 = n) := fun p hp => by
    unfold wordIn
    rw [word_in (word_lt (tabWith_lt F _ zeroT_lt fun f h => h64 f (hF f h))) (word_lt (tabWith_lt fs _ zeroT_lt fun f h => h64 f (hf f h)))]
    simp only [tabWith_bit _ _ (hz p hp), zero_bit, Bool.false_eq_true, false_or]
  constructor
  · intro h f hm
    have hp := (fits_parts (hF f hm)).1
    have h1 := (hw f.1.toNat (by omega)).1 (h _ (List.mem_range.2 (by omega))) (numF f.2) ⟨f, hm, rfl, rfl⟩
    obtain ⟨g, hg, e1, e2⟩ := h1
    rw [fact_of_bit ha (hF f hm) (hf g hg) e1.symm e2.symm]
    exact hg
  · intro h p hp
    rw [hw p (List.mem_range.1 hp)]
    rintro n ⟨f, hm, e⟩
    exact ⟨f, h f hm, e⟩

theorem closedT_eq {p : LProg} {fs : List LFact} {R : Bool} (h : ClosedT p fs R) : R = closedL p fs := by
  rcases h with ⟨h1, rfl⟩ | ⟨h1, F, hF, rfl⟩
  · unfold closedL
    rw [← Bool.and_assoc, h1, Bool.false_and]
  · rw [Bool.and_eq_true] at h1
    obtain ⟨har, _, hfit⟩ := prog_parts h1.1
    obtain ⟨_, hff, _⟩ := factsOk_parts h1.2
    unfold closedL
    rw [h1.1, h1.2, Bool.true_and, Bool.true_and, Bool.eq_iff_iff, tabIn_facts har (fun f h => headsAll_fits fs hfit f ((hF f).1 h)) hff, decide_eq_true_eq, List.length_eq_zero_iff, List.eq_nil_iff_forall_not_mem]
    constructor
    · intro h f hm
      rw [pickL_in] at hm
      have := h f ((hF f).2 hm.1)
      simp [this] at hm
    · intro h f hm
      apply Classical.byContradiction
      intro hn
      exact h f ((pickL_in _ _ _ _).2 ⟨(hF f).1 hm, by simpa using hn⟩)

theorem implClosed_any (v v2 : Value) (p : LProg) (fs : List LFact) (w : World) (h : RdProg w w.heap.size v p) (h2 : RdFacts w w.heap.size v2 fs) (hs : szP p ≤ 1048576) (hn : fs.length ≤ 1048576) (ht : tot fs ≤ 1048576) :
    Calls Tryz.prog 94 #[v, v2] w fun e w' => e = .returned (.bool (closedL p fs)) ∧ Below w.heap.size w w' :=
  (implClosedT_any v v2 p fs w h h2 hs hn ht).mono fun _ _ ⟨_, he, hR, hb⟩ => ⟨by rw [he, closedT_eq hR], hb⟩

end Go.Proofs.YtigkgheddngkeaaGreatDoor
/-
  Rounds that bring facts: plain mathematics.
-/
namespace Go.Proofs.YtigkgheddngkeaaGreatDoor
open Go.RowKit

/-- What makes a body hold in facts. -/
def DomL (ls : List LLit) (b : List Int) : Prop := ∀ v, v < 4 → (b.getD v (-1) ≠ -1 ↔ ∃ l ∈ ls, (maskOf l.2.2).testBit v = true)
def SolOf (fs : List LFact) (ls : List LLit) (b : List Int) : Prop := bindOk b = true ∧ DomL ls b ∧ ∀ l ∈ ls, litHolds fs l b = true
theorem isSols_iff {fs : List LFact} {ls : List LLit} {S : List (List Int)} : IsSols (questL fs ls) S ↔ S.Nodup ∧ ∀ b, b ∈ S ↔ SolOf fs ls b := by
  have e : ∀ b, (bindOk b = true ∧ (∀ v, v < 4 → (b.getD v (-1) ≠ -1 ↔ ∃ q ∈ questL fs ls, (maskOf q.1.2.2).testBit v = true)) ∧ ∀ q ∈ questL fs ls, holdsQ q b = true) ↔ SolOf fs ls b := fun b => by
    have e1 : ∀ v, (∃ q ∈ questL fs ls, (maskOf q.1.2.2).testBit v = true) ↔ ∃ l ∈ ls, (maskOf l.2.2).testBit v = true := fun v => by
      constructor
      · rintro ⟨q, hq, h⟩
        obtain ⟨l, hl, rfl⟩ := List.mem_map.1 hq
        exact ⟨l, hl, h⟩
      · rintro ⟨l, hl, h⟩
        exact ⟨(l, fs), List.mem_map.2 ⟨l, hl, rfl⟩, h⟩
    have e2 : (∀ q ∈ questL fs ls, holdsQ q b = true) ↔ ∀ l ∈ ls, litHolds fs l b = true := by
      constructor
      · intro h l hl
        exact h (l, fs) (List.mem_map.2 ⟨l, hl, rfl⟩)
      · intro h q hq
        obtain ⟨l, hl, rfl⟩ := List.mem_map.1 hq
        exact h l hl
    unfold SolOf DomL
    rw [e2]
    refine and_congr_right fun _ => and_congr_left fun _ => ?_
    exact forall_congr' fun v => forall_congr' fun _ => by rw [e1 v]
  unfold IsSols
  exact and_congr_right fun _ => forall_congr' fun b => by rw [e b]

theorem hold_yes {fs : List LFact} {l : LLit} {b : List Int} (h : l.1 = 0) : litHolds fs l b = true ↔ headOk l.2 b = true ∧ headOf l.2 b ∈ fs := by
  unfold litHolds
  rw [if_neg (by omega), factsHas_in, h]
  cases headOk l.2 b <;> simp
theorem hold_no {fs : List LFact} {l : LLit} {b : List Int} (h : l.1 = 1) : litHolds fs l b = true ↔ headOk l.2 b = true ∧ headOf l.2 b ∉ fs := by
  unfold litHolds
  rw [if_neg (by omega), factsHas_in, h]
  cases headOk l.2 b <;> simp
theorem hold_cmp {fs gs : List LFact} {l : LLit} {b : List Int} (h : l.1 = 2 ∨ l.1 = 3) : litHolds fs l b = litHolds gs l b := by
  unfold litHolds
  rw [if_pos h, if_pos h]

/-- The facts of one predicate. -/
def ofP (L : List LFact) (p : Int) : List LFact := L.filter fun f => decide (f.1 = p)
theorem ofP_mem {L : List LFact} {p : Int} {f : LFact} : f ∈ ofP L p ↔ f ∈ L ∧ f.1 = p := by simp [ofP]
theorem ofP_append (L M : List LFact) (p : Int) : ofP (L ++ M) p = ofP L p ++ ofP M p := by simp [ofP]
theorem ofP_len (L : List LFact) (p : Int) : (ofP L p).length ≤ L.length := List.length_filter_le _ _
theorem take_mid {L : List LFact} {o e : Nat} (h : o ≤ e) : L.take e = L.take o ++ (L.take e).drop o := by
  have h1 := (List.take_append_drop o (L.take e)).symm
  rw [List.take_take, Nat.min_eq_left h] at h1
  exact h1
theorem ofP_take (L : List LFact) (p : Int) (n : Nat) : ofP (L.take n) p = (ofP L p).take (ofP (L.take n) p).length := by
  have h := congrArg (fun x => ofP x p) (List.take_append_drop n L)
  simp only [ofP_append] at h
  rw [← h, List.take_left']
  rfl
theorem ofP_take_le (L : List LFact) (p : Int) (n : Nat) : (ofP (L.take n) p).length ≤ (ofP L p).length := by
  have h := congrArg (fun x => ofP x p) (List.take_append_drop n L)
  simp only [ofP_append] at h
  rw [← h, List.length_append]
  omega
theorem head_pred {a : LFact} {b : List Int} (h : headOk a b = true) : (headOf a b).1 = a.1 := by rw [headOf_yes h]
theorem hold_ofP {fs : List LFact} {l : LLit} {b : List Int} : litHolds (ofP fs l.2.1) l b = litHolds fs l b := by
  unfold litHolds
  split
  · rfl
  · rw [factsHas_in, factsHas_in]
    cases h : headOk l.2 b
    · rfl
    · congr 2
      exact decide_eq_decide.2 (by rw [ofP_mem]; exact ⟨fun h => h.1, fun h2 => ⟨h2, head_pred h⟩⟩)

/-- The facts of which a literal is asked: all, old ones, new ones. -/
abbrev LAge := List LFact × List LFact × List LFact
def litD (ls : List LLit) (j : Nat) : LLit := ls.getD j (0, 0, [])
def ageD (ag : List LAge) (j : Nat) : LAge := ag.getD j ([], [], [])
theorem litD_lt {ls : List LLit} {j : Nat} (h : j < ls.length) : litD ls j = ls[j] := by simp [litD, h]
theorem ageD_lt {ag : List LAge} {j : Nat} (h : j < ag.length) : ageD ag j = ag[j] := by simp [ageD, h]
theorem litD_mem {ls : List LLit} {j : Nat} (h : j < ls.length) : litD ls j ∈ ls := by rw [litD_lt h]; exact List.getElem_mem h
def qAt (ls : List LLit) (ag : List LAge) (i j : Nat) : LQ := (litD ls j, if j < i ∧ (litD ls j).1 = 0 then (ageD ag j).2.1 else (ageD ag j).1)
def freshTo (ls : List LLit) (ag : List LAge) (i k : Nat) : List LQ := (litD ls i, (ageD ag i).2.2) :: (List.range k).flatMap fun j => if j = i then [] else [qAt ls ag i j]
theorem freshTo_zero (ls : List LLit) (ag : List LAge) (i : Nat) : freshTo ls ag i 0 = [(litD ls i, (ageD ag i).2.2)] := by simp [freshTo]
theorem freshTo_same (ls : List LLit) (ag : List LAge) (i : Nat) : freshTo ls ag i (i + 1) = freshTo ls ag i i := by simp [freshTo, List.range_succ]
theorem freshTo_snoc (ls : List LLit) (ag : List LAge) {i k : Nat} (h : k ≠ i) : freshTo ls ag i (k + 1) = freshTo ls ag i k ++ [qAt ls ag i k] := by simp [freshTo, List.range_succ, h]
theorem freshTo_len (ls : List LLit) (ag : List LAge) (i : Nat) : ∀ k, (freshTo ls ag i k).length ≤ k + 1 ∧ (i < k → (freshTo ls ag i k).length = k) ∧ (k ≤ i → (freshTo ls ag i k).length = k + 1)
  | 0 => by simp [freshTo_zero]
  | k + 1 => by
    obtain ⟨h1, h2, h3⟩ := freshTo_len ls ag i k
    by_cases e : k = i
    · subst e
      rw [freshTo_same]
      refine ⟨by omega, fun _ => h3 (Nat.le_refl _), fun h => absurd h (by omega)⟩
    · rw [freshTo_snoc ls ag e, List.length_append, List.length_singleton]
      refine ⟨by omega, fun h => ?_, fun h => ?_⟩
      · rw [h2 (by omega)]
      · rw [h3 (by omega)]
theorem freshTo_mem {ls : List LLit} {ag : List LAge} {i k : Nat} {q : LQ} : q ∈ freshTo ls ag i k ↔ q = (litD ls i, (ageD ag i).2.2) ∨ ∃ j, j < k ∧ j ≠ i ∧ q = qAt ls ag i j := by
  unfold freshTo
  rw [List.mem_cons, List.mem_flatMap]
  refine or_congr_right ?_
  constructor
  · rintro ⟨j, hj, h⟩
    split at h
    · cases h
    · rename_i e
      exact ⟨j, List.mem_range.1 hj, e, by simpa using h⟩
  · rintro ⟨j, hj, e, rfl⟩
    exact ⟨j, List.mem_range.2 hj, by rw [if_neg e]; exact List.mem_singleton_self _⟩
/-- The body holds with atom i among the new facts, and those ahead of it among the old ones. -/
def FreshAt (ls : List LLit) (ag : List LAge) (i : Nat) (b : List Int) : Prop :=
  litHolds (ageD ag i).2.2 (litD ls i) b = true ∧ ∀ j, j < ls.length → j ≠ i → litHolds (qAt ls ag i j).2 (litD ls j) b = true
theorem freshQ_dom {ls : List LLit} {ag : List LAge} {i v : Nat} (hi : i < ls.length) : (∃ q ∈ freshTo ls ag i ls.length, (maskOf q.1.2.2).testBit v = true) ↔ ∃ l ∈ ls, (maskOf l.2.2).testBit v = true := by
  constructor
  · rintro ⟨q, hq, h⟩
    rcases freshTo_mem.1 hq with rfl | ⟨j, hj, _, rfl⟩
    · exact ⟨_, litD_mem hi, h⟩
    · exact ⟨_, litD_mem hj, h⟩
  · rintro ⟨l, hl, h⟩
    obtain ⟨j, hj, rfl⟩ := List.getElem_of_mem hl
    rw [← litD_lt hj] at h
    by_cases e : j = i
    · subst e
      exact ⟨_, freshTo_mem.2 (.inl rfl), h⟩
    · exact ⟨_, freshTo_mem.2 (.inr ⟨j, hj, e, rfl⟩), h⟩
theorem freshQ_is {ls : List LLit} {ag : List LAge} {i : Nat} (hi : i < ls.length) {S : List (List Int)} (h : IsSols (freshTo ls ag i ls.length) S) : S.Nodup ∧ ∀ b, b ∈ S ↔ bindOk b = true ∧ DomL ls b ∧ FreshAt ls ag i b := by
  refine ⟨h.1, fun b => ?_⟩
  rw [h.2 b]
  refine and_congr_right fun _ => and_congr ?_ ?_
  · exact forall_congr' fun v => forall_congr' fun _ => by rw [freshQ_dom hi]
  · constructor
    · intro hq
      exact ⟨hq _ (freshTo_mem.2 (.inl rfl)), fun j hj e => hq (qAt ls ag i j) (freshTo_mem.2 (.inr ⟨j, hj, e, rfl⟩))⟩
    · rintro ⟨h1, h2⟩ q hq
      rcases freshTo_mem.1 hq with rfl | ⟨j, hj, e, rfl⟩
      · exact h1
      · exact h2 j hj e
theorem freshQ_safe {ls : List LLit} {ag : List LAge} {i : Nat} (hi : i < ls.length) (h : SafeB ls) : SafeQ (freshTo ls ag i ls.length) := fun q hq v hv hm => by
  have hl : ∃ l ∈ ls, (maskOf l.2.2).testBit v = true := (freshQ_dom (ag := ag) hi).1 ⟨q, hq, hm⟩
  obtain ⟨l, hl, hm⟩ := hl
  obtain ⟨l', hl', h0, hm'⟩ := h.safe l hl v hv hm
  obtain ⟨j, hj, rfl⟩ := List.getElem_of_mem hl'
  rw [← litD_lt hj] at h0 hm'
  by_cases e : j = i
  · subst e
    exact ⟨_, freshTo_mem.2 (.inl rfl), h0, hm'⟩
  · exact ⟨_, freshTo_mem.2 (.inr ⟨j, hj, e, rfl⟩), h0, hm'⟩
/-- What is asked of the facts of an age. -/
structure AgeOk (a : LAge) : Prop where
  consts : ∀ f ∈ a.1, f.2.all constOk = true
  len : a.1.length ≤ 1048576
  tot : tot a.1 ≤ 1048576
  constsO : ∀ f ∈ a.2.1, f.2.all constOk = true
  lenO : a.2.1.length ≤ 1048576
  totO : Go.Proofs.YtigkgheddngkeaaGreatDoor.tot a.2.1 ≤ 1048576
  constsF : ∀ f ∈ a.2.2, f.2.all constOk = true
  lenF : a.2.2.length ≤ 1048576
  totF : Go.Proofs.YtigkgheddngkeaaGreatDoor.tot a.2.2 ≤ 1048576
theorem freshQ_ok {ls : List LLit} {ag : List LAge} {i : Nat} (hi : i < ls.length) (hl : ag.length = ls.length) (h : SafeB ls) (ht : totL ls ≤ 1048576) (ha : ∀ a ∈ ag, AgeOk a) : ∀ q ∈ freshTo ls ag i ls.length, QOk q := fun q hq => by
  have key : ∀ j, j < ls.length → ((litD ls j).1 = 0 ∨ (litD ls j).1 = 1 ∨ (litD ls j).1 = 2 ∨ (litD ls j).1 = 3) ∧ (litD ls j).2.2.all termOk = true ∧ (litD ls j).2.2.length ≤ 1048576 ∧ AgeOk (ageD ag j) := fun j hj => by
    have hk := h.kind _ (litD_mem hj)
    refine ⟨by omega, h.terms _ (litD_mem hj), ?_, by rw [ageD_lt (by omega)]; exact ha _ (List.getElem_mem _)⟩
    rw [litD_lt hj]
    exact Nat.le_trans (len_le_totL ls j hj) ht
  rcases freshTo_mem.1 hq with rfl | ⟨j, hj, e, rfl⟩
  · obtain ⟨k1, k2, k3, k4⟩ := key i hi
    exact ⟨k1, k2, k4.constsF, k3, k4.lenF, k4.totF⟩
  · obtain ⟨k1, k2, k3, k4⟩ := key j hj
    unfold qAt
    by_cases e2 : j < i ∧ (litD ls j).1 = 0
    · rw [if_pos e2]
      exact ⟨k1, k2, k4.constsO, k3, k4.lenO, k4.totO⟩
    · rw [if_neg e2]
      exact ⟨k1, k2, k4.consts, k3, k4.len, k4.tot⟩

/-- The new solutions, body by body. -/
def FreshSol (ls : List LLit) (ag : List LAge) (b : List Int) : Prop := bindOk b = true ∧ DomL ls b ∧ ∃ i, i < ls.length ∧ (litD ls i).1 = 0 ∧ FreshAt ls ag i b
/-- .. up to the literal k. -/
def FreshSolTo (ls : List LLit) (ag : List LAge) (k : Nat) (b : List Int) : Prop := bindOk b = true ∧ DomL ls b ∧ ∃ i, i < k ∧ (litD ls i).1 = 0 ∧ FreshAt ls ag i b
theorem fresh_all {ls : List LLit} {ag : List LAge} {b : List Int} (h : SafeB ls) (ha : ∀ j, j < ls.length → ∀ f, f ∈ (ageD ag j).1 ↔ f ∈ (ageD ag j).2.1 ∨ f ∈ (ageD ag j).2.2) :
    FreshSol ls ag b ↔ bindOk b = true ∧ DomL ls b ∧ (∀ j, j < ls.length → litHolds (ageD ag j).1 (litD ls j) b = true) ∧ ∃ i, i < ls.length ∧ (litD ls i).1 = 0 ∧ litHolds (ageD ag i).2.2 (litD ls i) b = true := by
  unfold FreshSol
  refine and_congr_right fun _ => and_congr_right fun _ => ?_
  constructor
  · rintro ⟨i, hi, h0, h1, h2⟩
    refine ⟨fun j hj => ?_, i, hi, h0, h1⟩
    by_cases e : j = i
    · subst e
      rw [hold_yes h0] at h1 ⊢
      exact ⟨h1.1, (ha j hj _).2 (.inr h1.2)⟩
    · have h3 := h2 j hj e
      unfold qAt at h3
      by_cases e2 : j < i ∧ (litD ls j).1 = 0
      · rw [if_pos e2, hold_yes e2.2] at h3
        rw [hold_yes e2.2]
        exact ⟨h3.1, (ha j hj _).2 (.inl h3.2)⟩
      · rw [if_neg e2] at h3
        exact h3
  · rintro ⟨hall, hex⟩
    -- the least one
    have least : ∀ n, (∃ i, i < n ∧ i < ls.length ∧ (litD ls i).1 = 0 ∧ litHolds (ageD ag i).2.2 (litD ls i) b = true) → ∃ i, i < ls.length ∧ (litD ls i).1 = 0 ∧ litHolds (ageD ag i).2.2 (litD ls i) b = true ∧ ∀ j, j < i → (litD ls j).1 = 0 → litHolds (ageD ag j).2.2 (litD ls j) b = false := by
      intro n
      induction n with
      | zero => rintro ⟨i, hi, _⟩; omega
      | succ n ih =>
        rintro ⟨i, hi, h1, h2, h3⟩
        by_cases hl : ∃ j, j < i ∧ (litD ls j).1 = 0 ∧ litHolds (ageD ag j).2.2 (litD ls j) b = true
        · obtain ⟨j, hj, h4, h5⟩ := hl
          exact ih ⟨j, by omega, by omega, h4, h5⟩
        · refine ⟨i, h1, h2, h3, fun j hj h4 => ?_⟩
          cases h5 : litHolds (ageD ag j).2.2 (litD ls j) b
          · rfl
          · exact absurd ⟨j, hj, h4, h5⟩ hl
    obtain ⟨i0, g1, g2, g3⟩ := hex
    obtain ⟨i, hi, h0, h1, hmin⟩ := least (i0 + 1) ⟨i0, Nat.lt_succ_self _, g1, g2, g3⟩
    refine ⟨i, hi, h0, h1, fun j hj e => ?_⟩
    unfold qAt
    by_cases e2 : j < i ∧ (litD ls j).1 = 0
    · rw [if_pos e2]
      have h4 := hall j hj
      have h5 := hmin j e2.1 e2.2
      rw [hold_yes e2.2] at h4
      show litHolds _ (litD ls j) b = true
      rw [hold_yes e2.2]
      refine ⟨h4.1, ?_⟩
      rcases (ha j hj _).1 h4.2 with h6 | h6
      · exact h6
      · rw [(hold_yes e2.2).2 ⟨h4.1, h6⟩] at h5
        cases h5
    · rw [if_neg e2]
      exact hall j hj
theorem fresh_apart {ls : List LLit} {ag : List LAge} {b : List Int} {i j : Nat} (hi : i < ls.length) (hij : i < j) (h0 : (litD ls i).1 = 0) (hd : ∀ f, f ∈ (ageD ag i).2.1 → f ∉ (ageD ag i).2.2) (h1 : FreshAt ls ag i b) (h2 : FreshAt ls ag j b) : False := by
  have h3 := h2.2 i hi (by omega)
  unfold qAt at h3
  rw [if_pos ⟨hij, h0⟩, hold_yes h0] at h3
  have h4 := (hold_yes h0).1 h1.1
  exact hd _ h3.2 h4.2

/-- The ages of what has grown. -/
def ageOf (L : List LFact) (o e : Nat) (p : Int) : LAge := (ofP (L.take e) p, ofP (L.take o) p, (ofP (L.take e) p).drop (ofP (L.take o) p).length)
def agesOf (L : List LFact) (o e : Nat) (ls : List LLit) : List LAge := ls.map fun l => ageOf L o e l.2.1
theorem agesOf_at {L : List LFact} {o e j : Nat} {ls : List LLit} (h : j < ls.length) : ageD (agesOf L o e ls) j = ageOf L o e (litD ls j).2.1 := by
  rw [ageD_lt (by simpa [agesOf] using h), litD_lt h]
  simp [agesOf]
theorem ageOf_split {L : List LFact} {o e : Nat} (h : o ≤ e) (p : Int) : (ageOf L o e p).1 = (ageOf L o e p).2.1 ++ (ageOf L o e p).2.2 := by
  unfold ageOf
  have h1 := congrArg (fun x => ofP x p) (take_mid (L := L) h)
  simp only [ofP_append] at h1
  show ofP (L.take e) p = ofP (L.take o) p ++ (ofP (L.take e) p).drop (ofP (L.take o) p).length
  rw [h1, List.drop_left']
  rfl
theorem solOf_mono_neg {L : List LFact} {o e : Nat} (h : o ≤ e) {f : LFact} (hf : f ∈ L.take o) : f ∈ L.take e := by
  rw [take_mid h]
  exact List.mem_append_left _ hf
/-- A solution uses a new fact, or was one before. -/
theorem fresh_or_old {L : List LFact} {o e : Nat} (h : o ≤ e) {ls : List LLit} (hs : SafeB ls) {b : List Int} : (SolOf (L.take e) ls b → FreshSol ls (agesOf L o e ls) b ∨ SolOf (L.take o) ls b) ∧ (FreshSol ls (agesOf L o e ls) b → SolOf (L.take e) ls b) := by
  have hspl : ∀ j, j < ls.length → ∀ f, f ∈ (ageD (agesOf L o e ls) j).1 ↔ f ∈ (ageD (agesOf L o e ls) j).2.1 ∨ f ∈ (ageD (agesOf L o e ls) j).2.2 := fun j hj f => by
    rw [agesOf_at hj, ageOf_split h, List.mem_append]
  rw [fresh_all hs hspl]
  have hat : ∀ j, j < ls.length → litHolds (ageD (agesOf L o e ls) j).1 (litD ls j) b = litHolds (L.take e) (litD ls j) b := fun j hj => by
    rw [agesOf_at hj]
    exact hold_ofP
  constructor
  · rintro ⟨h1, h2, h3⟩
    by_cases hex : ∃ i, i < ls.length ∧ (litD ls i).1 = 0 ∧ litHolds (ageD (agesOf L o e ls) i).2.2 (litD ls i) b = true
    · exact .inl ⟨h1, h2, fun j hj => by rw [hat j hj]; exact h3 _ (litD_mem hj), hex⟩
    · refine .inr ⟨h1, h2, fun l hl => ?_⟩
      obtain ⟨j, hj, rfl⟩ := List.getElem_of_mem hl
      rw [← litD_lt hj]
      have h4 := h3 _ (litD_mem hj)
      have hk := hs.kind _ (litD_mem hj)
      rcases (by omega : (litD ls j).1 = 0 ∨ (litD ls j).1 = 1 ∨ ((litD ls j).1 = 2 ∨ (litD ls j).1 = 3)) with e0 | e0 | e0
      · rw [hold_yes e0] at h4 ⊢
        refine ⟨h4.1, ?_⟩
        have h5 : headOf (litD ls j).2 b ∈ (ageOf L o e (litD ls j).2.1).1 := ofP_mem.2 ⟨h4.2, head_pred h4.1⟩
        rw [ageOf_split h] at h5
        rcases List.mem_append.1 h5 with h6 | h6
        · exact (ofP_mem.1 h6).1
        · exact absurd ⟨j, hj, e0, by rw [agesOf_at hj, hold_yes e0]; exact ⟨h4.1, h6⟩⟩ hex
      · rw [hold_no e0] at h4 ⊢
        exact ⟨h4.1, fun hc => h4.2 (solOf_mono_neg h hc)⟩
      · rw [hold_cmp (gs := L.take e) e0]
        exact h4
  · rintro ⟨h1, h2, h3, _⟩
    refine ⟨h1, h2, fun l hl => ?_⟩
    obtain ⟨j, hj, rfl⟩ := List.getElem_of_mem hl
    rw [← litD_lt hj, ← hat j hj]
    exact h3 j hj

/-- The head of a rule, for a solution. -/
def hdOf' (r : LRule) (b : List Int) : LFact := (r.1.1, r.1.2.map (termVal b))
theorem headsL_sol {ar : List Int} {r : LRule} {fs : List LFact} (h : ruleFits ar r = true) (hc : ∀ f ∈ fs, f.2.all constOk = true) (hn : fs.Nodup) (f : LFact) : f ∈ headsL r fs ↔ ∃ b, SolOf fs r.2 b ∧ f = hdOf' r b := by
  obtain ⟨_, h2⟩ := solsOf_is (fs := fs) (gs := fs) (SafeB.of (fits_body h)) hc hn (fun _ => Iff.rfl)
  rw [headsL_mem h h2 hc hn]
  have h3 := (isSols_iff.1 h2).2
  constructor
  · rintro ⟨b, hb, e⟩; exact ⟨b, (h3 b).1 hb, e⟩
  · rintro ⟨b, hb, e⟩; exact ⟨b, (h3 b).2 hb, e⟩
theorem headsAll_sol {ar : List Int} {rs : List LRule} {fs : List LFact} (h : ∀ r ∈ rs, ruleFits ar r = true) (hc : ∀ f ∈ fs, f.2.all constOk = true) (hn : fs.Nodup) (f : LFact) : f ∈ headsAll rs fs ↔ ∃ r ∈ rs, ∃ b, SolOf fs r.2 b ∧ f = hdOf' r b := by
  unfold headsAll
  rw [setOf_mem, List.mem_flatMap]
  constructor
  · rintro ⟨r, hr, hf⟩; exact ⟨r, hr, (headsL_sol (h r hr) hc hn f).1 hf⟩
  · rintro ⟨r, hr, hf⟩; exact ⟨r, hr, (headsL_sol (h r hr) hc hn f).2 hf⟩
theorem solOf_same {fs gs : List LFact} (h : ∀ f, f ∈ fs ↔ f ∈ gs) (ls : List LLit) (b : List Int) : SolOf fs ls b ↔ SolOf gs ls b := by
  unfold SolOf
  refine and_congr_right fun _ => and_congr_right fun _ => forall_congr' fun l => forall_congr' fun _ => ?_
  rw [litHolds_same h]

theorem nodup_sub {α : Type} [DecidableEq α] : ∀ {l m : List α}, l.Nodup → (∀ x ∈ l, x ∈ m) → l.length ≤ m.length
  | [], _, _, _ => Nat.zero_le _
  | x :: l, m, hn, hs => by
    rw [List.nodup_cons] at hn
    have h1 := nodup_sub (m := m.erase x) hn.2 fun y hy => (List.mem_erase_of_ne (show y ≠ x from fun e => by subst e; exact hn.1 hy)).2 (hs y (List.mem_cons_of_mem _ hy))
    have hx := hs x List.mem_cons_self
    rw [List.length_erase_of_mem hx] at h1
    have := List.length_pos_of_mem hx
    simp only [List.length_cons]
    omega
theorem setOf_len {L : List LFact} (h : L.Nodup) : (setOf L).length = L.length :=
  Nat.le_antisymm (nodup_sub (asc_nodup (setOf_asc L)) fun x hx => (setOf_mem L x).1 hx) (nodup_sub h fun x hx => (setOf_mem L x).2 hx)

/-- A list grows by what it has not yet. -/
def Brings (L : List LFact) (X : LFact → Prop) (L' : List LFact) : Prop := (∃ N, L' = L ++ N) ∧ L'.Nodup ∧ ∀ f, f ∈ L' ↔ f ∈ L ∨ X f
theorem Brings.refl {L : List LFact} (h : L.Nodup) {X : LFact → Prop} (hX : ∀ f, X f → f ∈ L) : Brings L X L := ⟨⟨[], by simp⟩, h, fun f => ⟨.inl, fun h => h.elim id (hX f)⟩⟩
theorem Brings.trans {L L1 L2 : List LFact} {X Y Z : LFact → Prop} (h : Brings L X L1) (h2 : Brings L1 Y L2) (hZ : ∀ f, Z f ↔ X f ∨ Y f) : Brings L Z L2 := by
  obtain ⟨⟨N, e⟩, _, m1⟩ := h
  obtain ⟨⟨N2, e2⟩, n2, m2⟩ := h2
  exact ⟨⟨N ++ N2, by rw [e2, e, List.append_assoc]⟩, n2, fun f => by rw [m2, m1, hZ, or_assoc]⟩
theorem Brings.step {L : List LFact} {f : LFact} (h : L.Nodup) (hf : f ∉ L) : Brings L (fun g => g = f) (L ++ [f]) :=
  ⟨⟨[f], rfl⟩, by
    rw [List.nodup_append]
    exact ⟨h, by simp, fun a ha b hb e => hf (by rw [List.mem_singleton.1 hb] at e; exact e ▸ ha)⟩, fun g => by simp⟩

def stepL (rs : List LRule) (F : List LFact) : List LFact := setOf (F ++ headsAll rs F)
def iterL (rs : List LRule) (F : List LFact) : Nat → List LFact
  | 0 => F
  | n + 1 => stepL rs (iterL rs F n)
/-- m rounds bring more facts, and the next one none. -/
def RoundsM (rs : List LRule) (F : List LFact) (m : Nat) : Prop := (∀ k, k < m → (iterL rs F (k + 1)).length ≠ (iterL rs F k).length) ∧ (iterL rs F (m + 1)).length = (iterL rs F m).length
theorem RoundsM.unique {rs : List LRule} {F : List LFact} {m n : Nat} (h : RoundsM rs F m) (h2 : RoundsM rs F n) : m = n := by
  rcases Nat.lt_trichotomy m n with h3 | h3 | h3
  · exact absurd h.2 (h2.1 m h3)
  · exact h3
  · exact absurd h2.2 (h.1 n h3)
theorem iter_succ (rs : List LRule) (F : List LFact) : ∀ n, iterL rs F (n + 1) = iterL rs (stepL rs F) n
  | 0 => rfl
  | n + 1 => by
    show stepL rs (iterL rs F (n + 1)) = stepL rs (iterL rs (stepL rs F) n)
    rw [iter_succ rs F n]

/-- Facts that fit, each once. -/
structure FitL (ar : List Int) (L : List LFact) : Prop where
  nodup : L.Nodup
  fits : ∀ f ∈ L, factFits ar f = true
theorem FitL.take {ar : List Int} {L : List LFact} (h : FitL ar L) (n : Nat) : FitL ar (L.take n) := ⟨List.Nodup.sublist (List.take_sublist _ _) h.nodup, fun f hf => h.fits f (List.mem_of_mem_take hf)⟩
theorem FitL.consts {ar : List Int} {L : List LFact} (h : FitL ar L) : ∀ f ∈ L, f.2.all constOk = true := fun f hf => (fits_parts (h.fits f hf)).2
theorem FitL.set {ar : List Int} {L : List LFact} (h : ∀ f ∈ L, factFits ar f = true) : FitL ar (setOf L) := ⟨asc_nodup (setOf_asc L), fun f hf => h f ((setOf_mem L f).1 hf)⟩
theorem stepL_fit {ar : List Int} {rs : List LRule} {F : List LFact} (h : ∀ r ∈ rs, ruleFits ar r = true) (hF : FitL ar F) : FitL ar (stepL rs F) :=
  FitL.set fun f hf => by
    rcases List.mem_append.1 hf with h1 | h1
    · exact hF.fits f h1
    · exact headsAll_fits F h f h1
theorem iterL_fit {ar : List Int} {rs : List LRule} {F : List LFact} (h : ∀ r ∈ rs, ruleFits ar r = true) (hF : FitL ar F) : ∀ n, FitL ar (iterL rs F n)
  | 0 => hF
  | n + 1 => stepL_fit h (iterL_fit h hF n)
/-- The same facts have the same heads. -/
theorem headsAll_same {ar : List Int} {rs : List LRule} {F G : List LFact} (h : ∀ r ∈ rs, ruleFits ar r = true) (hF : FitL ar F) (hG : FitL ar G) (e : ∀ f, f ∈ F ↔ f ∈ G) (f : LFact) : f ∈ headsAll rs F ↔ f ∈ headsAll rs G := by
  rw [headsAll_sol h hF.consts hF.nodup, headsAll_sol h hG.consts hG.nodup]
  constructor
  · rintro ⟨r, hr, b, hb, e2⟩; exact ⟨r, hr, b, (solOf_same e _ _).1 hb, e2⟩
  · rintro ⟨r, hr, b, hb, e2⟩; exact ⟨r, hr, b, (solOf_same e _ _).2 hb, e2⟩
theorem stepL_mem {rs : List LRule} {F : List LFact} (f : LFact) : f ∈ stepL rs F ↔ f ∈ F ∨ f ∈ headsAll rs F := by unfold stepL; rw [setOf_mem, List.mem_append]

/-- A round over what is new brings all that the rules say. -/
theorem round_brings {ar : List Int} {rs : List LRule} {L L' : List LFact} {o e : Nat} (h : ∀ r ∈ rs, ruleFits ar r = true) (hL : FitL ar L) (ho : o ≤ e) (he : e = L.length) (hb : ∀ f, f ∈ headsAll rs (L.take o) → f ∈ L)
    (hB : Brings L (fun f => ∃ r ∈ rs, ∃ b, FreshSol r.2 (agesOf L o e r.2) b ∧ f = hdOf' r b) L') : ∀ f, f ∈ L' ↔ f ∈ L ∨ f ∈ headsAll rs L := by
  intro f
  have hte : L.take e = L := by rw [he, List.take_length]
  rw [hB.2.2 f, headsAll_sol h hL.consts hL.nodup]
  constructor
  · rintro (h1 | ⟨r, hr, b, hb, e2⟩)
    · exact .inl h1
    · refine .inr ⟨r, hr, b, ?_, e2⟩
      have := (fresh_or_old (L := L) ho (SafeB.of (fits_body (h r hr))) (b := b)).2 hb
      rw [hte] at this
      exact this
  · rintro (h1 | ⟨r, hr, b, h2, e2⟩)
    · exact .inl h1
    · rw [← hte] at h2
      rcases (fresh_or_old (L := L) ho (SafeB.of (fits_body (h r hr))) (b := b)).1 h2 with h3 | h3
      · exact .inr ⟨r, hr, b, h3, e2⟩
      · exact .inl (hb f ((headsAll_sol h (hL.take o).consts (hL.take o).nodup f).2 ⟨r, hr, b, h3, e2⟩))

theorem brings_pre {L L' : List LFact} {X : LFact → Prop} (h : Brings L X L') : L'.take L.length = L ∧ L.length ≤ L'.length := by
  obtain ⟨⟨N, e⟩, _⟩ := h
  subst e
  simp
theorem lastD_snoc (E : List Nat) (x : Nat) : (E ++ [x]).getLastD 0 = x := by simp
/-- Within growOn: j rounds have been ended. -/
structure OnInv (ar : List Int) (rs : List LRule) (L0 : List LFact) (E0 : List Nat) (L : List LFact) (E : List Nat) (e j : Nat) : Prop where
  fit : FitL ar L
  pre : ∃ N, L = L0 ++ N
  ends : ∃ M, E = E0 ++ M ∧ M.length = j ∧ ∀ k, k < j → M.getD k 0 ≤ L.length ∧ ∀ f, f ∈ L.take (M.getD k 0) ↔ f ∈ iterL rs (setOf L0) k
  last : E.getLastD 0 = e
  le : e ≤ L.length
  heads : ∀ f, f ∈ headsAll rs (L.take e) → f ∈ L
  now : ∀ f, f ∈ L ↔ f ∈ iterL rs (setOf L0) j
  grow : ∀ k, k + 1 < j → (iterL rs (setOf L0) (k + 1)).length ≠ (iterL rs (setOf L0) k).length
  zero : j = 0 → L = L0
  up : E.Pairwise (· < ·)
  ub : ∀ x ∈ E, x ≤ e
  first : 0 < j → E0.getLastD 0 < L0.length
  lst : 0 < j → (iterL rs (setOf L0) (j - 1)).length = e
theorem OnInv.start {ar : List Int} {rs : List LRule} {L : List LFact} {E : List Nat} {e : Nat} (hL : FitL ar L) (he : E.getLastD 0 = e) (hl : e ≤ L.length) (hh : ∀ f, f ∈ headsAll rs (L.take e) → f ∈ L) (hu : E.Pairwise (· < ·)) (hb : ∀ x ∈ E, x ≤ e) : OnInv ar rs L E L E e 0 :=
  ⟨hL, ⟨[], by simp⟩, ⟨[], by simp, rfl, fun k hk => absurd hk (by omega)⟩, he, hl, hh, fun f => (setOf_mem L f).symm, fun k hk => absurd hk (by omega), fun _ => rfl, hu, hb, fun h => absurd h (by omega), fun h => absurd h (by omega)⟩
theorem set_len {ar : List Int} {F G : List LFact} (hF : FitL ar F) (hG : FitL ar G) (h : ∀ f, f ∈ F ↔ f ∈ G) : F.length = G.length :=
  Nat.le_antisymm (nodup_sub hF.nodup fun x hx => (h x).1 hx) (nodup_sub hG.nodup fun x hx => (h x).2 hx)
theorem OnInv.step {ar : List Int} {rs : List LRule} {L0 L L' : List LFact} {E0 E : List Nat} {e j : Nat} (hr : ∀ r ∈ rs, ruleFits ar r = true) (h0 : FitL ar L0) (h : OnInv ar rs L0 E0 L E e j) (hlt : e < L.length)
    (hf : FitL ar L') (hB : Brings L (fun f => ∃ r ∈ rs, ∃ b, FreshSol r.2 (agesOf L e L.length r.2) b ∧ f = hdOf' r b) L') : OnInv ar rs L0 E0 L' (E ++ [L.length]) L.length (j + 1) := by
  obtain ⟨hp, hpl⟩ := brings_pre hB
  have hm := round_brings hr h.fit h.le rfl h.heads hB
  have hS : FitL ar (setOf L0) := FitL.set h0.fits
  have hi := iterL_fit hr hS
  have hlen : (iterL rs (setOf L0) j).length = L.length := (set_len h.fit (hi j) h.now).symm
  refine ⟨hf, ?_, ?_, lastD_snoc _ _, hpl, ?_, ?_, ?_, fun e => absurd e (by omega), ?_, ?_, fun _ => ?_, fun _ => by simpa using hlen⟩
  · obtain ⟨N, e1⟩ := h.pre
    obtain ⟨N2, e2⟩ := hB.1
    exact ⟨N ++ N2, by rw [e2, e1, List.append_assoc]⟩
  · obtain ⟨M, e1, e2, e3⟩ := h.ends
    refine ⟨M ++ [L.length], by rw [e1, List.append_assoc], by simp [e2], fun k hk => ?_⟩
    by_cases hkj : k < j
    · obtain ⟨g1, g2⟩ := e3 k hkj
      have e4 : (M ++ [L.length]).getD k 0 = M.getD k 0 := by
        simp only [List.getD_eq_getElem?_getD]
        rw [List.getElem?_append_left (by omega)]
      rw [e4]
      refine ⟨by omega, fun f => ?_⟩
      rw [← g2 f]
      obtain ⟨N2, e5⟩ := hB.1
      rw [e5, List.take_append_of_le_length g1]
    · have e4 : (M ++ [L.length]).getD k 0 = L.length := by
        have : k = M.length := by omega
        subst this
        simp
      rw [e4]
      refine ⟨hpl, fun f => ?_⟩
      rw [hp, show k = j by omega]
      exact h.now f
  · intro f hfh
    rw [hp] at hfh
    exact (hm f).2 (.inr hfh)
  · intro f
    rw [hm f]
    show _ ↔ f ∈ stepL rs (iterL rs (setOf L0) j)
    rw [stepL_mem, h.now f, headsAll_same hr h.fit (hi j) h.now]
  · intro k hk
    by_cases e1 : k + 1 < j
    · exact h.grow k e1
    · have e2 : k + 1 = j := by omega
      have h3 := h.lst (by omega)
      rw [e2, hlen, show k = j - 1 by omega, h3]
      omega
  · rw [List.pairwise_append]
    exact ⟨h.up, by simp, fun a ha b hb => by
      have := h.ub a ha
      rw [List.mem_singleton.1 hb]
      omega⟩
  · intro x hx
    rcases List.mem_append.1 hx with h1 | h1
    · have := h.ub x h1
      omega
    · rw [List.mem_singleton.1 h1]
      exact Nat.le_refl _
  · by_cases e1 : 0 < j
    · exact h.first e1
    · have e2 : j = 0 := by omega
      subst e2
      obtain ⟨M, e3, e4, _⟩ := h.ends
      have e5 : M = [] := List.eq_nil_of_length_eq_zero e4
      subst e5
      rw [List.append_nil] at e3
      rw [← e3, h.last, ← h.zero rfl]
      exact hlt

/-- What growOn has done. -/
structure GrewOn (ar : List Int) (rs : List LRule) (L0 : List LFact) (E0 : List Nat) (L : List LFact) (E : List Nat) (m : Nat) : Prop where
  fit : FitL ar L
  pre : ∃ N, L = L0 ++ N
  rounds : RoundsM rs (setOf L0) m
  now : ∀ f, f ∈ L ↔ f ∈ iterL rs (setOf L0) m
  last : E.getLastD 0 = L.length
  up : E.Pairwise (· < ·)
  ub : ∀ x ∈ E, x ≤ L.length
  ends : (m = 0 ∧ E = E0 ∧ L = L0) ∨ (E0.getLastD 0 < L0.length ∧ ∃ M, E = E0 ++ M ∧ M.length = m + 1 ∧ ∀ k, k ≤ m → M.getD k 0 ≤ L.length ∧ ∀ f, f ∈ L.take (M.getD k 0) ↔ f ∈ iterL rs (setOf L0) k)
theorem OnInv.done {ar : List Int} {rs : List LRule} {L0 L : List LFact} {E0 E : List Nat} {e j : Nat} (hr : ∀ r ∈ rs, ruleFits ar r = true) (h0 : FitL ar L0) (h : OnInv ar rs L0 E0 L E e j) (hge : e = L.length) : ∃ m, GrewOn ar rs L0 E0 L E m := by
  have hS : FitL ar (setOf L0) := FitL.set h0.fits
  have hi := iterL_fit hr hS
  have hlen : (iterL rs (setOf L0) j).length = L.length := (set_len h.fit (hi j) h.now).symm
  have hte : L.take e = L := by rw [hge, List.take_length]
  obtain ⟨M, e1, e2, e3⟩ := h.ends
  by_cases hj : j = 0
  · subst hj
    have hz := h.zero rfl
    subst hz
    have hM : M = [] := List.eq_nil_of_length_eq_zero e2
    subst hM
    rw [List.append_nil] at e1
    subst e1
    refine ⟨0, h.fit, ⟨[], by simp⟩, ⟨fun k hk => absurd hk (by omega), ?_⟩, h.now, by rw [h.last, hge], h.up, fun x hx => by have := h.ub x hx; omega, .inl ⟨rfl, rfl, rfl⟩⟩
    refine set_len (hi 1) (hi 0) fun f => ?_
    show f ∈ stepL rs (setOf L) ↔ f ∈ setOf L
    rw [stepL_mem]
    refine ⟨fun h1 => h1.elim id fun h2 => ?_, .inl⟩
    have := h.heads f
    rw [hte] at this
    exact (setOf_mem L f).2 (this ((headsAll_same hr hS h.fit (setOf_mem L) f).1 h2))
  · have hl := h.lst (by omega)
    refine ⟨j - 1, h.fit, h.pre, ⟨fun k hk => h.grow k (by omega), ?_⟩, fun f => ?_, by rw [h.last, hge], h.up, fun x hx => by have := h.ub x hx; omega, .inr ⟨h.first (by omega), M, e1, by omega, fun k hk => e3 k (by omega)⟩⟩
    · rw [show j - 1 + 1 = j by omega, hlen, hl, hge]
    · obtain ⟨g1, g2⟩ := e3 (j - 1) (by omega)
      have hL : E.getLastD 0 = M.getD (j - 1) 0 := by
        rw [e1]
        have hM : M ≠ [] := fun e => by rw [e] at e2; simp at e2; omega
        obtain ⟨M', x, rfl⟩ : ∃ M' x, M = M' ++ [x] := ⟨M.dropLast, M.getLast hM, (List.dropLast_concat_getLast hM).symm⟩
        rw [← List.append_assoc, lastD_snoc]
        have e5 : j - 1 = M'.length := by rw [← e2]; simp
        rw [e5]
        simp
      have := g2 f
      rw [← hL, h.last, hte] at this
      exact this

/-- What growBy has done. -/
structure GrewBy (ar : List Int) (rs : List LRule) (L0 : List LFact) (E0 : List Nat) (L : List LFact) (E : List Nat) (m : Nat) : Prop where
  fit : FitL ar L
  pre : ∃ N, L = L0 ++ N
  rounds : RoundsM rs (setOf L0) m
  now : ∀ f, f ∈ L ↔ f ∈ iterL rs (setOf L0) m
  last : E.getLastD 0 = L.length
  up : E.Pairwise (· < ·)
  ub : ∀ x ∈ E, x ≤ L.length
  ends : ∃ M, E = E0 ++ M ∧ M.length = m ∧ ∀ k, k < m → M.getD k 0 ≤ L.length ∧ ∀ f, f ∈ L.take (M.getD k 0) ↔ f ∈ iterL rs (setOf L0) (k + 1)
theorem GrewBy.of {ar : List Int} {rs : List LRule} {L0 L1 L : List LFact} {E0 E : List Nat} {m : Nat} (hr : ∀ r ∈ rs, ruleFits ar r = true) (h0 : FitL ar L0) (h1 : FitL ar L1) (hl : E0.getLastD 0 = L0.length) (hpre : ∃ N, L1 = L0 ++ N)
    (hm : ∀ f, f ∈ L1 ↔ f ∈ L0 ∨ f ∈ headsAll rs L0) (h : GrewOn ar rs L1 E0 L E m) : ∃ m', GrewBy ar rs L0 E0 L E m' := by
  have hS : FitL ar (setOf L0) := FitL.set h0.fits
  have hi := iterL_fit hr hS
  have hst : setOf L1 = stepL rs (setOf L0) := by
    refine (setOf_asc L1).unique (setOf_asc _) fun f => ?_
    rw [stepL_mem, setOf_mem, setOf_mem, hm f, headsAll_same hr hS h0 (setOf_mem L0)]
  have hit : ∀ n, iterL rs (setOf L1) n = iterL rs (setOf L0) (n + 1) := fun n => by rw [hst, iter_succ]
  obtain ⟨N1, hN1⟩ := hpre
  have hpre2 : ∃ N, L = L0 ++ N := by
    obtain ⟨N, e⟩ := h.pre
    exact ⟨N1 ++ N, by rw [e, hN1, List.append_assoc]⟩
  rcases h.ends with ⟨e1, e2, e3⟩ | ⟨e1, M, e2, e3, e4⟩
  · subst e1 e2 e3
    have hN : N1 = [] := by
      have := h.last
      rw [hl, hN1, List.length_append] at this
      exact List.eq_nil_of_length_eq_zero (by omega)
    subst hN
    rw [List.append_nil] at hN1
    subst hN1
    exact ⟨0, h.fit, ⟨[], by simp⟩, h.rounds, h.now, h.last, h.up, h.ub, [], by simp, rfl, fun k hk => absurd hk (by omega)⟩
  · refine ⟨m + 1, h.fit, hpre2, ⟨fun k hk => ?_, ?_⟩, fun f => by rw [h.now f, hit], h.last, h.up, h.ub, M, e2, e3, fun k hk => ?_⟩
    · rcases k with _ | k
      · rw [← hit 0]
        show (setOf L1).length ≠ (setOf L0).length
        rw [setOf_len h0.nodup, setOf_len h1.nodup]
        omega
      · rw [← hit, ← hit]
        exact h.rounds.1 k (by omega)
    · rw [← hit, ← hit]
      exact h.rounds.2
    · obtain ⟨g1, g2⟩ := e4 k (by omega)
      exact ⟨g1, fun f => by rw [g2 f, hit]⟩

/-- How many rounds bring more. -/
def firstM (rs : List LRule) (F : List LFact) : Nat → Nat → Nat
  | 0, k => k
  | n + 1, k => if (iterL rs F (k + 1)).length = (iterL rs F k).length then k else firstM rs F n (k + 1)
theorem firstM_is {rs : List LRule} {F : List LFact} {m : Nat} (h : RoundsM rs F m) : ∀ n k, k ≤ m → m ≤ k + n → firstM rs F n k = m
  | 0, k, h1, h2 => by show k = m; omega
  | n + 1, k, h1, h2 => by
    show (if _ then _ else _) = m
    by_cases e : k = m
    · subst e
      rw [if_pos h.2]
    · rw [if_neg (h.1 k (by omega))]
      exact firstM_is h n (k + 1) (by omega) (by omega)
theorem iter_len_mono {rs : List LRule} {F : List LFact} {m : Nat} (h : ∀ k, k < m → (iterL rs F (k + 1)).length ≠ (iterL rs F k).length) (hF : F.Nodup) (hn : ∀ k, (iterL rs F k).Nodup) : ∀ k, k ≤ m → k ≤ (iterL rs F k).length
  | 0, _ => Nat.zero_le _
  | k + 1, hk => by
    have ih := iter_len_mono h hF hn k (by omega)
    have h1 := h k (by omega)
    have h2 := nodup_sub (hn k) (m := iterL rs F (k + 1)) fun f hf => (stepL_mem f).2 (.inl hf)
    omega
theorem RoundsM.few {ar : List Int} {rs : List LRule} {F : List LFact} {m : Nat} (har : arityOk ar = true) (hr : ∀ r ∈ rs, ruleFits ar r = true) (hF : FitL ar F) (h : RoundsM rs F m) : m ≤ 1536 := by
  have hi := iterL_fit hr hF
  have h1 := iter_len_mono h.1 hF.nodup (fun k => (hi k).nodup) m (Nat.le_refl _)
  have h2 := (facts_few har (hi m).nodup (hi m).fits).1
  omega
def roundsM (rs : List LRule) (F : List LFact) : Nat := firstM rs F 2000 0
theorem roundsM_is {ar : List Int} {rs : List LRule} {F : List LFact} {m : Nat} (har : arityOk ar = true) (hr : ∀ r ∈ rs, ruleFits ar r = true) (hF : FitL ar F) (h : RoundsM rs F m) : roundsM rs F = m :=
  firstM_is h 2000 0 (Nat.zero_le _) (by have := h.few har hr hF; omega)
/-- The facts behind each round. -/
def roundsFrom (rs : List LRule) (F : List LFact) : List (List LFact) := (List.range (roundsM rs F + 1)).map (iterL rs F)
def leastFrom (rs : List LRule) (F : List LFact) : List LFact := iterL rs F (roundsM rs F)

end Go.Proofs.YtigkgheddngkeaaGreatDoor
/-
  Rounds that bring facts, plain mathematics: questions of all facts, ages of facts that go on growing.
-/
namespace Go.Proofs.YtigkgheddngkeaaGreatDoor
open Go.RowKit

theorem agesOf_pre {L N : List LFact} {o e : Nat} (ho : o ≤ L.length) (he : e ≤ L.length) (ls : List LLit) : agesOf (L ++ N) o e ls = agesOf L o e ls := by
  unfold agesOf ageOf
  rw [List.take_append_of_le_length ho, List.take_append_of_le_length he]
/-- The questions of a body of all facts up to an end. -/
def allQ (L : List LFact) (e : Nat) (ls : List LLit) : List LQ := ls.map fun l => (l, ofP (L.take e) l.2.1)
theorem allQ_is {L : List LFact} {e : Nat} {ls : List LLit} {S : List (List Int)} (h : IsSols (allQ L e ls) S) : S.Nodup ∧ ∀ b, b ∈ S ↔ SolOf (L.take e) ls b := by
  refine ⟨h.1, fun b => ?_⟩
  rw [h.2 b]
  unfold SolOf DomL
  refine and_congr_right fun _ => and_congr ?_ ?_
  · refine forall_congr' fun v => forall_congr' fun _ => ?_
    have e1 : (∃ q ∈ allQ L e ls, (maskOf q.1.2.2).testBit v = true) ↔ ∃ l ∈ ls, (maskOf l.2.2).testBit v = true := by
      constructor
      · rintro ⟨q, hq, h⟩
        obtain ⟨l, hl, rfl⟩ := List.mem_map.1 hq
        exact ⟨l, hl, h⟩
      · rintro ⟨l, hl, h⟩
        exact ⟨_, List.mem_map.2 ⟨l, hl, rfl⟩, h⟩
    rw [e1]
  · constructor
    · intro hq l hl
      have := hq _ (List.mem_map.2 ⟨l, hl, rfl⟩)
      unfold holdsQ at this
      rw [hold_ofP] at this
      exact this
    · intro hq q hm
      obtain ⟨l, hl, rfl⟩ := List.mem_map.1 hm
      unfold holdsQ
      rw [hold_ofP]
      exact hq l hl
theorem allQ_safe {L : List LFact} {e : Nat} {ls : List LLit} (h : SafeB ls) : SafeQ (allQ L e ls) := fun q hq v hv hm => by
  obtain ⟨l, hl, rfl⟩ := List.mem_map.1 hq
  obtain ⟨l', hl', h0, hm'⟩ := h.safe l hl v hv hm
  exact ⟨_, List.mem_map.2 ⟨l', hl', rfl⟩, h0, hm'⟩
theorem tot_sub : ∀ {l m : List LFact}, l.Sublist m → tot l ≤ tot m := fun {l m} h => by
  induction h with
  | slnil => exact Nat.le_refl _
  | cons a _ ih => rw [tot_cons]; omega
  | cons_cons a _ ih => rw [tot_cons, tot_cons]; omega
theorem ofP_sub (L : List LFact) (e : Nat) (p : Int) : (ofP (L.take e) p).Sublist L := (List.filter_sublist).trans (List.take_sublist _ _)
/-- What is asked of part of few facts. -/
structure FewL (L : List LFact) : Prop where
  consts : ∀ f ∈ L, f.2.all constOk = true
  len : L.length ≤ 1048576
  tot : tot L ≤ 1048576
theorem FewL.sub {L M : List LFact} (h : FewL L) (hs : M.Sublist L) : FewL M := ⟨fun f hf => h.consts f (hs.subset hf), Nat.le_trans hs.length_le h.len, Nat.le_trans (tot_sub hs) h.tot⟩
theorem FitL.fewL {ar : List Int} {L : List LFact} (ha : arityOk ar = true) (h : FitL ar L) : FewL L := by
  have h1 := facts_few ha h.nodup h.fits
  exact ⟨h.consts, by omega, by omega⟩
theorem allQ_ok {L : List LFact} {e : Nat} {ls : List LLit} (h : SafeB ls) (hL : FewL L) (hl : totL ls ≤ 1048576) : ∀ q ∈ allQ L e ls, QOk q := fun q hq => by
  obtain ⟨l, hl', rfl⟩ := List.mem_map.1 hq
  have hk := h.kind l hl'
  have hf := hL.sub (ofP_sub L e l.2.1)
  refine ⟨by show l.1 = 0 ∨ l.1 = 1 ∨ l.1 = 2 ∨ l.1 = 3; omega, h.terms l hl', hf.consts, ?_, hf.len, hf.tot⟩
  obtain ⟨k, hk', rfl⟩ := List.getElem_of_mem hl'
  exact Nat.le_trans (len_le_totL ls k hk') hl
theorem agesOf_ok {L : List LFact} {o e : Nat} {ls : List LLit} (hL : FewL L) : ∀ a ∈ agesOf L o e ls, AgeOk a := fun a ha => by
  obtain ⟨l, hl, rfl⟩ := List.mem_map.1 ha
  have h1 := hL.sub (ofP_sub L e l.2.1)
  have h2 := hL.sub (ofP_sub L o l.2.1)
  have h3 := h1.sub (List.drop_sublist (ofP (L.take o) l.2.1).length _)
  exact ⟨h1.consts, h1.len, h1.tot, h2.consts, h2.len, h2.tot, h3.consts, h3.len, h3.tot⟩
theorem agesOf_len (L : List LFact) (o e : Nat) (ls : List LLit) : (agesOf L o e ls).length = ls.length := by simp [agesOf]
/-- A literal's predicate is one of the 24. -/
theorem lit_pred {ar : List Int} {l : LLit} (ha : arityOk ar = true) (h : litFits ar l = true) : 0 ≤ l.2.1 ∧ l.2.1 < 24 := by
  have h2 : ar.length ≤ 24 := by simp only [arityOk, Bool.and_eq_true, decide_eq_true_eq] at ha; exact ha.1
  unfold litFits at h
  split at h
  · simp only [atomFits, Bool.and_eq_true, decide_eq_true_eq] at h
    omega
  · split at h
    · simp only [Bool.and_eq_true, decide_eq_true_eq] at h
      omega
    · cases h
theorem rule_parts {ar : List Int} {r : LRule} (ha : arityOk ar = true) (h : ruleFits ar r = true) : (0 ≤ r.1.1 ∧ r.1.1 < 24) ∧ r.1.2.all termOk = true ∧ r.1.2.length ≤ 2 ∧ r.2.length ≤ 4 ∧ ∀ l ∈ r.2, 0 ≤ l.2.1 ∧ l.2.1 < 24 := by
  have h2 : ar.length ≤ 24 := by simp only [arityOk, Bool.and_eq_true, decide_eq_true_eq] at ha; exact ha.1
  simp only [ruleFits, atomFits, Bool.and_eq_true, decide_eq_true_eq] at h
  exact ⟨⟨h.1.1.1, by omega⟩, h.1.2, place_short ha h.1.1, h.2.1, fun l hl => lit_pred ha (List.all_eq_true.1 h.2.2.1 l hl)⟩
/-- A solution's head fits. -/
theorem sol_fits {ar : List Int} {r : LRule} {fs : List LFact} {b : List Int} (_ha : arityOk ar = true) (h : ruleFits ar r = true) (hf : FitL ar fs) (hb : SolOf fs r.2 b) : factFits ar (hdOf' r b) = true :=
  headsL_fits fs h _ ((headsL_sol h hf.consts hf.nodup _).2 ⟨b, hb, rfl⟩)
theorem ends_few : ∀ {E : List Nat} {m : Nat}, E.Pairwise (· < ·) → (∀ x ∈ E, x ≤ m) → E.length ≤ m + 1 := fun {E m} h hb =>
  nodup_len (m + 1) E (h.imp fun h => by omega) fun x hx => by have := hb x hx; omega

end Go.Proofs.YtigkgheddngkeaaGreatDoor
/-
  The walks of l2Has and of both Positive.
-/
namespace Go.Proofs.YtigkgheddngkeaaGreatDoor
open Go.RowKit

def hasNo (l : LLit) : Bool := decide (l.1 = 1)
def noneNo (r : LRule) : Bool := r.2.all fun l => !hasNo l
def positive (p : LProg) : Bool := progOk p && p.2.all noneNo

set_option maxHeartbeats 1000000 in
theorem l2Has_any (v : Value) (ls : List LLit) (B : Nat) (w : World) (h : RdLits w B v ls) (hr : ls.length ≤ 1048576) :
    Calls Tryz.prog 143 #[v, .int .i64 1] w fun e w' => e = .returned (.bool (!ls.all fun l => !hasNo l)) ∧ w = w' := by
  have H := Lib.hid h
  obtain ⟨A, c, rfl, hc, _⟩ := h
  go_enter Tryz.func143, Tryz.ntmps143
  go_wp2_with (fail)
  go_loop [5] (fun i => ∃ k : Nat, k ≤ ls.length ∧ i = .int .i64 k ∧ AllTo (fun l => !hasNo l) ls k) (fun i => ls.length - (intOf i).toNat)
  case atStart => exact ⟨0, Nat.zero_le _, rfl, AllTo.start⟩
  case round =>
    obtain ⟨k, hk, rfl, hs⟩ := hrel
    by_cases hlt : k < ls.length
    · obtain ⟨b, o, u0, u1, u2, rfl, hbB, k0, k1, k2, rfl, rfl, p3⟩ := H.out.get hlt
      by_cases he : ls[k].1 = 1
      · have hd : (ls[k].1 == 1) = true := by simpa using he
        have HE := Lib.hid (all_not (p := fun l : LLit => !hasNo l) hlt (by simp [hasNo, he]))
        clear hs he p3
        go_wp2_with (fail)
        go_ret
        exact ⟨ret_bool (by rw [HE.out]; rfl), rfl⟩
      · have hd : (ls[k].1 == 1) = false := by simpa using he
        have HS := Lib.hid (hs.step hlt (by simp [hasNo, he]))
        clear hs he p3
        go_wp2_with (fail)
        go_round
        case rel => exact ⟨k + 1, by omega, by go_num, HS.out⟩
        case measure => simp [intOf]; omega
    · have HE := Lib.hid (hs.done (by omega))
      clear hs
      go_wp2_with (fail)
      go_ret
      exact ⟨ret_bool (by rw [HE.out]; rfl), rfl⟩

set_option maxHeartbeats 1000000 in
set_option maxRecDepth 100000 in
theorem specPositive_any (v : Value) (p : LProg) (w : World) (h : RdProg w w.heap.size v p) (hs : szP p ≤ 1048576) :
    Calls Tryz.prog 90 #[v] w fun e w' => e = .returned (.bool (positive p)) ∧ Below w.heap.size w w' := by
  have HP := Lib.hid h
  have hsz := hs
  unfold szP at hs
  obtain ⟨a, b, rfl, h, h2⟩ := h
  have H2 := Lib.hid h2
  obtain ⟨A, c, rfl, hc, _⟩ := h
  obtain ⟨A2, c2, rfl, hc2, _⟩ := h2
  go_enter Tryz.func90, Tryz.ntmps90
  go_wp2_with (fail)
  obtain ⟨w2, hw2⟩ : ∃ w2, w2 = w.alloc (Obj.cells #[Value.slice A p.1.length c, Value.slice A2 p.2.length c2] 33) := ⟨_, rfl⟩
  have B2 : Below w.heap.size w w2 := by rw [hw2]; exact below1 _ _
  have x2 : Blk w2 w.heap.size 33 #[.slice A p.1.length c, .slice A2 p.2.length c2] := by rw [hw2]; exact Blk.new _ _ _
  have q0 : w2.cell? ⟨w.heap.size, 0, none⟩ = some (.slice A p.1.length c) := x2.cell 0
  have q1 : w2.cell? ⟨w.heap.size, 1, none⟩ = some (.slice A2 p.2.length c2) := x2.cell 1
  rw [← hw2]
  clear hw2
  go_loop [3] (fun i => ∃ k : Nat, k ≤ p.2.length ∧ i = .int .i64 k ∧ AllTo noneNo p.2 k) (fun i => p.2.length - (intOf i).toNat)
  case atStart => exact ⟨0, Nat.zero_le _, rfl, AllTo.start⟩
  case round =>
    obtain ⟨k, hk, rfl, hs⟩ := hrel
    by_cases hlt : k < p.2.length
    · obtain ⟨b, o, u0, u1, u2, rfl, hbB, k0, k1, k2, rfl, p3, p4⟩ := (H2.out.on B2).get hlt
      have HB := Lib.hid p4
      obtain ⟨A4, c4, rfl, hc4, _⟩ := p3
      obtain ⟨A5, c5, rfl, hc5, _⟩ := p4
      have hle := sz_le_totR p.2 k hlt
      unfold szR at hle
      by_cases he : noneNo p.2[k] = true
      · have HK := Lib.hid (l2Has_any _ p.2[k].2 _ _ HB.out (by omega))
        have HS := Lib.hid (hs.step hlt he)
        have he2 : (!p.2[k].2.all fun l => !hasNo l) = false := by unfold noneNo at he; rw [he]; rfl
        rw [he2] at HK
        clear hs he he2
        go_wp2_with (go_at_call 143; refine HK.out.mono ?_; rintro e w' ⟨rfl, rfl⟩)
        go_round
        case rel => exact ⟨k + 1, by omega, by go_num, HS.out⟩
        case measure => simp [intOf]; omega
      · have HK := Lib.hid (l2Has_any _ p.2[k].2 _ _ HB.out (by omega))
        have he' : noneNo p.2[k] = false := by simpa using he
        have HS := Lib.hid (show positive p = false by unfold positive; rw [all_not hlt he', Bool.and_false])
        have he2 : (!p.2[k].2.all fun l => !hasNo l) = true := by unfold noneNo at he'; rw [he']; rfl
        rw [he2] at HK
        clear hs he he2 he'
        go_wp2_with (go_at_call 143; refine HK.out.mono ?_; rintro e w' ⟨rfl, rfl⟩)
        go_ret
        exact ⟨ret_bool HS.out.symm, B2⟩
    · have HE := Lib.hid (show positive p = progOk p by unfold positive; rw [hs.done (by omega), Bool.and_true])
      clear hs
      go_wp2_with (fail)
      refine (specProgramOk_any _ p _ (HP.out.on B2) hsz).mono ?_
      rintro e w5 ⟨rfl, hb5⟩
      go_wp2_with (fail)
      go_ret
      exact ⟨ret_bool HE.out.symm, bthen B2 hb5⟩

set_option maxHeartbeats 1000000 in
set_option maxRecDepth 100000 in
theorem implPositive_any (v : Value) (p : LProg) (w : World) (h : RdProg w w.heap.size v p) (hs : szP p ≤ 1048576) :
    Calls Tryz.prog 93 #[v] w fun e w' => e = .returned (.bool (positive p)) ∧ Below w.heap.size w w' := by
  have HP := Lib.hid h
  have hsz := hs
  unfold szP at hs
  obtain ⟨a, b, rfl, h, h2⟩ := h
  have H2 := Lib.hid h2
  obtain ⟨A, c, rfl, hc, _⟩ := h
  obtain ⟨A2, c2, rfl, hc2, _⟩ := h2
  go_enter Tryz.func93, Tryz.ntmps93
  go_wp2_with (fail)
  refine (implProgramOk_any _ p _ (HP.out.on (below1 _ _)) hsz).mono ?_
  rintro e w2 ⟨rfl, hb2⟩
  have B2 := bthen (below1 _ _) hb2
  have x2 : Blk w2 w.heap.size 33 #[.slice A p.1.length c, .slice A2 p.2.length c2] := (Blk.new w _ _).below hb2 (by simp)
  have q1 : w2.cell? ⟨w.heap.size, 1, none⟩ = some (.slice A2 p.2.length c2) := x2.cell 1
  by_cases hf : progOk p = true
  · rw [hf]
    have HF := Lib.hid (show positive p = p.2.all noneNo by unfold positive; rw [hf, Bool.true_and])
    clear hf hb2
    go_wp2_with (fail)
    go_loopw [13] (fun i wr => ∃ k : Nat, k ≤ p.2.length ∧ i = .int .i64 k ∧ AllTo noneNo p.2 k ∧ Below w2.heap.size w2 wr) (fun i _ => p.2.length - (intOf i).toNat)
    case atStart => exact ⟨0, Nat.zero_le _, rfl, AllTo.start, Below.refl _ _⟩
    case round =>
      obtain ⟨k, hk, rfl, hs, hbe⟩ := hrel
      have BW := bthen B2 hbe
      clear q1
      by_cases hlt : k < p.2.length
      · obtain ⟨b, o, u0, u1, u2, rfl, hbB, k0, k1, k2, rfl, p3, p4⟩ := (H2.out.on BW).get hlt
        have HB := Lib.hid p4
        obtain ⟨A4, c4, rfl, hc4, _⟩ := p3
        obtain ⟨A5, c5, rfl, hc5, _⟩ := p4
        have hle := sz_le_totR p.2 k hlt
        unfold szR at hle
        go_wp2_with (fail)
        obtain ⟨w3, hw3⟩ : ∃ w3, w3 = wr.alloc (Obj.cells #[Value.int IntKind.i64 p.2[k].1.1, Value.slice A4 p.2[k].1.2.length c4, Value.slice A5 p.2[k].2.length c5] 124) := ⟨_, rfl⟩
        have B3 : Below wr.heap.size wr w3 := by rw [hw3]; exact below1 _ _
        rw [← hw3]
        clear hw3 k0 k1 k2
        go_loopw [20] (fun i ws => ∃ m : Nat, m ≤ p.2[k].2.length ∧ i = .int .i64 m ∧ AllTo (fun l => !hasNo l) p.2[k].2 m ∧ Below w3.heap.size w3 ws) (fun i _ => p.2[k].2.length - (intOf i).toNat)
        case atStart => exact ⟨0, Nat.zero_le _, rfl, AllTo.start, Below.refl _ _⟩
        case round =>
          obtain ⟨m, hm, rfl, ht, hbt⟩ := hrel
          have BT := bthen B3 hbt
          by_cases hlm : m < p.2[k].2.length
          · obtain ⟨b', o', u0, u1, u2, rfl, hbB', k0, k1, k2, rfl, rfl, p5⟩ := (HB.out.on BT).get hlm
            obtain ⟨A6, c6, rfl, hc6, _⟩ := p5
            by_cases he : p.2[k].2[m].1 = 1
            · have hd : (p.2[k].2[m].1 == 1) = true := by simpa using he
              have HE := Lib.hid (show positive p = false by rw [HF.out, all_not hlt (show noneNo p.2[k] = false from all_not hlm (by simp [hasNo, he]))])
              clear hs ht he
              go_wp2_with (fail)
              go_ret
              exact ⟨ret_bool HE.out.symm, bthen BW (bthen BT (below1 _ _))⟩
            · have hd : (p.2[k].2[m].1 == 1) = false := by simpa using he
              have HT := Lib.hid (ht.step hlm (by simp [hasNo, he]))
              clear ht he
              go_wp2_with (fail)
              go_roundw
              case rel => exact ⟨m + 1, by omega, by go_num, HT.out, bthen hbt (below1 _ _)⟩
              case measure => simp [intOf]; omega
          · have HS := Lib.hid (hs.step hlt (show noneNo p.2[k] = true from ht.done (by omega)))
            clear hs ht
            go_wp2_with (fail)
            go_roundw
            case rel => exact ⟨k + 1, by omega, by go_num, HS.out, bthen hbe BT⟩
            case measure => simp [intOf]; omega
      · have HE := Lib.hid (show positive p = true by rw [HF.out, hs.done (by omega)])
        clear hs
        go_wp2_with (fail)
        go_ret
        exact ⟨ret_bool HE.out.symm, BW⟩
  · have hf' : progOk p = false := by simpa using hf
    rw [hf']
    have HE := Lib.hid (show positive p = false by simp [positive, hf'])
    clear hf hf'
    go_wp2_with (fail)
    go_ret
    exact ⟨ret_bool HE.out.symm, B2⟩

end Go.Proofs.YtigkgheddngkeaaGreatDoor
/-
  Marks and sizes of lists of facts, in the one form that the laws' walks ask.
-/
namespace Go.Proofs.YtigkgheddngkeaaGreatDoor
open Go.RowKit

def szF (fs : List LFact) : Nat := fs.length + tot fs
/-- The marks from k on stand in a row of facts, and end at z. -/
def HdFacts (w : World) (lo hi : Nat) (v : Value) (fs : List LFact) (k z : Int) : Prop := OwnFacts w lo hi v (markF k fs) ∧ z = endF k fs ∧ 0 ≤ k ∧ k ≤ 4294967296 ∧ szF fs ≤ 1073741824
theorem HdFacts.below {w w' : World} {lo hi B : Nat} {v : Value} {fs : List LFact} {k z : Int} (h : HdFacts w lo hi v fs k z) (hb : Below B w w') (hB : hi ≤ B) : HdFacts w' lo hi v fs k z := ⟨h.1.below hb hB, h.2⟩
theorem HdFacts.only {w w' : World} {lo hi lo' hi' : Nat} {v : Value} {fs : List LFact} {k z : Int} (h : HdFacts w lo hi v fs k z) (ho : Only lo' hi' w w') (hd : hi ≤ lo' ∨ hi' ≤ lo) : HdFacts w' lo hi v fs k z := ⟨h.1.only ho hd, h.2⟩

theorem um_facts {v : Value} {fs : List LFact} {lo hi : Nat} {w : World} (k : Int) (h : OwnFacts w lo hi v fs) (hk0 : 0 ≤ k) (hk : k ≤ 4294967296) (hs : szF fs ≤ 1073741824) :
    Calls Tryz.prog 23 #[v, .int .i64 k] w fun e w' => ∃ z, e = .returned (.int .i64 z) ∧ k ≤ z ∧ z ≤ k + szF fs ∧ HdFacts w' lo hi v fs k z ∧ Only lo hi w w' :=
  (markFactS_any v fs k lo hi w h hk0 hk (by unfold szF at hs; omega) (by unfold szF at hs; omega)).mono fun _ _ ⟨he, ho, hg⟩ =>
    ⟨_, he, by unfold endF; omega, by unfold endF szF; omega, ⟨ho, rfl, hk0, hk, hs⟩, hg⟩

theorem uh_facts {v : Value} {fs : List LFact} {lo hi : Nat} {w : World} {k z : Int} (h : HdFacts w lo hi v fs k z) (hh : hi ≤ w.heap.size) :
    Calls Tryz.prog 28 #[v, .int .i64 k] w fun e w' => e = .returned (.int .i64 z) ∧ Below w.heap.size w w' := by
  have hs := h.2.2.2.2
  unfold szF at hs
  exact (heldFactS_any v fs k w (h.1.rd.more hh) h.2.2.1 h.2.2.2.1 (by omega) (by omega)).mono fun _ _ ⟨he, hw⟩ => ⟨by rw [he, h.2.1], hw ▸ Below.refl _ _⟩

theorem us_facts {v : Value} {fs : List LFact} {left : Int} {w : World} (h : RdFacts w w.heap.size v fs) (h0 : 0 ≤ left) (hl : left ≤ 1048576) (hn : fs.length ≤ maxLen) (hm : ∀ k (h : k < fs.length), fs[k].2.length ≤ maxLen) :
    Calls Tryz.prog 14 #[v, .int .i64 left] w fun e w' => ∃ z, e = .returned (.int .i64 z) ∧ (z = -1 ∨ (0 ≤ z ∧ z + szF fs = left)) ∧ Below w.heap.size w w' :=
  (szFactS_any v fs left w h h0 hl (by unfold maxLen at hn; omega) (fun k hk => by have := hm k hk; unfold maxLen at this; omega)).mono fun _ _ ⟨r, he, hr, hb⟩ => ⟨r, he, hr.imp id fun ⟨a, b⟩ => ⟨a, by unfold szF; omega⟩, hb⟩

end Go.Proofs.YtigkgheddngkeaaGreatDoor
