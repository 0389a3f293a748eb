/-
  Texts that the claim's last one imports, laid together: part 9 of 12. No condition of its own.
-/
import Derived.Maps.AppendAt
import Derived.Deep.AppendLies
import Derived.Deep.Cut
import Derived.Deep.CutRange
import Derived.Laws.IdiomCopy
import Derived.Deep.RegionLaw
import Derived.Test.YtokmmloakahkhaaGreatMSs2
import Derived.Test.YtokmmloakahkhaaGreatMSs3
import Derived.Test.YtokmmloakahkhaaGreatMSs5
import Derived.Test.YtokmmloakahkhaaGreatMSs6
import Derived.Test.YtokmmloakahkhaaGreatMSs7
import Derived.Test.YtokmmloakahkhaaGreatMSs8
/-
  The order of words by what some variables have: joinRows' closure, slices.SortFunc and slices.BinarySearchFunc by it.
-/
namespace Go.Proofs.YtokmmloakahkhaaGreat
open Go.RowKit Go.Sort Go.Shelf

def cmpKey (x y : Nat) : Int := if x < y then -1 else if y < x then 1 else 0
theorem cmpCompareW_any (x y : Nat) (w : World) :
    Calls Tryz.prog 219 #[.int .u32 (x : Nat), .int .u32 (y : Nat)] w fun e w' => e = .returned (.int .i64 (cmpKey x y)) ∧ w' = w := by
  by_cases h1 : x < y
  · have hE : cmpKey x y = -1 := if_pos h1
    have h1z : (x : Int) < (y : Int) := by omega
    rw [hE]
    clear h1 hE
    go_enter Tryz.func219, Tryz.ntmps219
    go_wp2
    go_ret
    exact ⟨rfl, rfl⟩
  · by_cases h2 : y < x
    · have hE : cmpKey x y = 1 := by rw [cmpKey, if_neg h1, if_pos h2]
      have h1z : ¬ (x : Int) < (y : Int) := by omega
      have h2z : (y : Int) < (x : Int) := by omega
      rw [hE]
      clear h1 h2 hE
      go_enter Tryz.func219, Tryz.ntmps219
      go_wp2
      go_ret
      exact ⟨rfl, rfl⟩
    · obtain rfl : x = y := by omega
      have hE : cmpKey x x = 0 := by rw [cmpKey, if_neg h1, if_neg h1]
      rw [hE]
      clear h1 h2 hE
      go_enter Tryz.func219, Tryz.ntmps219
      go_wp2
      go_ret
      exact ⟨rfl, rfl⟩

/-- The key: the word of what the variables V have. -/
def keyV (V : Nat) (b : List Int) : Nat := encB (restr V b)

set_option maxHeartbeats 400000 in
theorem byShared_any (sb V : Nat) (a b : List Int) (ha : bindOk a = true) (hb : bindOk b = true) (w : World) (hc : w.cell? ⟨sb, 0, none⟩ = some (.int .u32 ((maskW V : Nat) : Int))) :
    Calls Tryz.prog 218 #[wd a, wd b, .pointer (some ⟨sb, 0, none⟩)] w fun e w' => e = .returned (.int .i64 (cmpKey (keyV V a) (keyV V b))) ∧ w' = w := by
  have h1 : bits .and .u32 ((encB a : Nat) : Int) ((maskW V : Nat) : Int) = ((keyV V a : Nat) : Int) := by rw [and_word32 (encB_lt ha) (maskW_lt V), enc_restr ha]; rfl
  have h2 : bits .and .u32 ((encB b : Nat) : Int) ((maskW V : Nat) : Int) = ((keyV V b : Nat) : Int) := by rw [and_word32 (encB_lt hb) (maskW_lt V), enc_restr hb]; rfl
  unfold wd
  go_enter Tryz.func218, Tryz.ntmps218
  go_wp2_with (go_at_call 219; refine (cmpCompareW_any _ _ _).mono ?_; rintro e w' ⟨rfl, rfl⟩)
  go_ret
  exact ⟨rfl, rfl⟩

/-- What variables have, as an element of a row. -/
abbrev Bnd : Type := { b : List Int // bindOk b = true }
instance : Inhabited Bnd := ⟨⟨noneB, noneB_ok⟩⟩
def encBnd (x : Bnd) : Value := .int .u32 ((encB x.1 : Nat) : Int)
def cfV (V : Nat) (x y : Bnd) : Int := cmpKey (keyV V x.1) (keyV V y.1)
theorem ltV (V : Nat) (x y : Bnd) : ltOf (cfV V) x y = decide (keyV V x.1 < keyV V y.1) := by
  unfold ltOf cfV cmpKey
  by_cases h : keyV V x.1 < keyV V y.1
  · simp [h]
  · rw [if_neg h]
    split <;> simp [h]
theorem swoV (V : Nat) : SWO (ltOf (cfV V)) where
  irrefl x := by rw [ltV]; simp
  trans x y z h1 h2 := by
    rw [ltV] at *
    simp only [decide_eq_true_eq] at *
    omega
  ntrans x y z h1 h2 := by
    rw [ltV] at *
    simp only [decide_eq_false_iff_not] at *
    omega
theorem bnds : ∀ S : List (List Int), (∀ b ∈ S, bindOk b = true) → ∃ D : List Bnd, D.map (·.1) = S
  | [], _ => ⟨[], rfl⟩
  | b :: S, h => by
    obtain ⟨D, hD⟩ := bnds S fun x hx => h x (List.mem_cons_of_mem _ hx)
    exact ⟨⟨b, h b List.mem_cons_self⟩ :: D, by rw [List.map_cons, hD]⟩

theorem arrW_bnds (D : List Bnd) : arrW (D.map (·.1)) = D.toArray.map fun x => ((encB x.1 : Nat) : Int) := by simp [arrW]

theorem put_bnd (w : World) (g : Nat) (d : Array Bnd) : putRow encBnd w g 0 d = putRow (Value.int .u32) w g 0 (arrW (d.toList.map (·.1))) := by
  have hs : (arrW (d.toList.map (·.1))).size = d.size := by rw [arrW_size]; simp
  unfold putRow
  congr 1
  funext c
  unfold putCells
  apply Array.ext (by simp)
  intro i h1 h2
  simp only [Array.getElem_mapIdx, hs]
  by_cases hi : 0 ≤ i ∧ i < 0 + d.size
  · rw [if_pos hi, if_pos hi, Nat.sub_zero, arrW_at _ (by simp; omega), getElem!_pos d i (by omega)]
    simp [encBnd]
  · rw [if_neg hi, if_neg hi]

set_option maxHeartbeats 1000000 in
set_option maxRecDepth 100000 in
theorem sortFNil (sb : Nat) (w : World) : Calls Tryz.prog 220 #[.slice none 0 0, .func (.func 218) #[] #[.pointer (some ⟨sb, 0, none⟩)]] w fun e w' => e = .returned (.tuple #[]) ∧ w' = w := by
  have HI : ∀ w, Calls Tryz.prog 230 #[.slice none 0 0, .int .i64 0, .int .i64 0, .func (.func 218) #[] #[.pointer (some ⟨sb, 0, none⟩)]] w fun e w' => e = .returned (.tuple #[]) ∧ w' = w := by
    intro w
    go_enter Tryz.func230, Tryz.ntmps230
    go_wp2_with fail
    go_loopg [8] 0 (fun _ vi wr => vi = .int .i64 1 ∧ wr = w)
    case atStart => exact ⟨rfl, rfl⟩
    case round =>
      obtain ⟨rfl, rfl⟩ := hrel
      go_wp2_with fail
      go_end0
      exact ⟨rfl, rfl⟩
  have HP : ∀ (l : Nat) w, Calls Tryz.prog 228 #[.slice none 0 0, .int .i64 0, .int .i64 0, .int .i64 l, .func (.func 218) #[] #[.pointer (some ⟨sb, 0, none⟩)]] w fun e w' => e = .returned (.tuple #[]) ∧ w' = w := by
    intro l w
    go_enter Tryz.func228, Tryz.ntmps228
    go_wp2_with fail
    go_loopg [1, 2] 0 (fun _ va vb wr => va = .int .i64 0 ∧ vb = .int .i64 0 ∧ wr = w)
    case atStart => exact ⟨rfl, rfl, rfl⟩
    case round =>
      obtain ⟨rfl, rfl, rfl⟩ := hrel
      go_wp2_with (go_at_call 230; refine Calls.mono (HI _) ?_; rintro e w1 ⟨rfl, rfl⟩)
      (try simp only [Exit.inBlock, Exit.then]); refine bodyPost_ret (results_none rfl _ _ _) rfl ?_
      exact ⟨rfl, rfl⟩
  have hl : Calls Tryz.prog 105 #[.int .u64 0] w fun e w' => e = .returned (.int .i64 (Lib.bitLen 0 : Nat)) ∧ w' = w := Any.bits_Len (SlLaysF0.n15.bits Tryz.bitsLen) (0 : Int) w (by omega) (by omega)
  have HL := Lib.hid hl
  clear hl
  go_enter Tryz.func220, Tryz.ntmps220
  go_wp2_with (first
    | (go_at_call 105; refine Calls.mono HL.out ?_; rintro e w' ⟨rfl, rfl⟩)
    | (go_at_call 228; refine Calls.mono (HP _ _) ?_; rintro e w1 ⟨rfl, rfl⟩))
  go_end0
  exact ⟨rfl, rfl⟩

theorem sortF_words (lo hi sb V : Nat) (v : Value) (R : List (List Int)) (w : World) (h : OwnW w lo hi v R) (hok : ∀ b ∈ R, bindOk b = true) (hn : R.length ≤ 1048576) (hsb : sb < lo ∨ hi ≤ sb) (hc : w.cell? ⟨sb, 0, none⟩ = some (.int .u32 ((maskW V : Nat) : Int))) :
    Calls Tryz.prog 220 #[v, .func (.func 218) #[] #[.pointer (some ⟨sb, 0, none⟩)]] w fun e w' =>
      e = .returned (.tuple #[]) ∧ ∃ R', R'.Perm R ∧ (R'.Pairwise fun a b => keyV V a ≤ keyV V b) ∧ OwnW w' lo hi v R' ∧ Only lo hi w w' := by
  rcases h.at_ with ⟨rfl, rfl⟩ | ⟨g, c, rfl, h1, h2, h3, h4, h5, h6⟩
  · refine (sortFNil sb w).mono ?_
    rintro e w' ⟨rfl, rfl⟩
    exact ⟨rfl, [], List.Perm.refl _, List.Pairwise.nil, h, Only.refl _ _ _⟩
  · obtain ⟨D, rfl⟩ := bnds R hok
    have hsz : (D.map (·.1)).length = D.toArray.size := by simp
    have hget : ∀ j, j < D.toArray.size → (arrW (D.map (·.1)))[j]! = ((encB D.toArray[j]!.1 : Nat) : Int) := fun j hj => by
      have hjl : j < D.length := by simpa using hj
      rw [arrW_at _ (by simpa using hjl), getElem!_pos D.toArray j hj]
      simp
    have hH : Holds encBnd w g 0 D.toArray := fun j hj => by
      refine ⟨?_, h4.frozen _⟩
      rw [h4.cell (by rw [arrW_size, hsz]; exact hj), hget j hj]
      rfl
    have eg : ∀ args w, (callFunc 218 args).run Tryz.prog w = .ok (.enter 218 args) w := enters_of Tryz.func218 (by kernel_rfl) rfl
    have hcmp : CmpReads Tryz.prog 218 #[.pointer (some ⟨sb, 0, none⟩)] encBnd (cfV V) g 0 D.toArray.size w := fun m os dk _ x y => by
      refine (byShared_any sb V x.1 y.1 x.2 y.2 _ ?_).mono fun e w' ⟨he, hw⟩ => ⟨he, 0, hw⟩
      have hlt := World.block_lt_of_cell? _ _ hc
      unfold sortWorld
      rw [cell?_grow _ _ _ (by show sb < (putRow _ _ _ _ _).heap.size; rw [size_putRow]; exact hlt), cell?_putRow_other _ _ g 0 _ _ (Or.inl (by show sb ≠ g; omega))]
      exact hc
    have hcon := Any.slices_SortFunc Tryz.sortB encBnd (fun _ => rfl) (cfV V) (swoV V) 218 #[.pointer (some ⟨sb, 0, none⟩)] g 0 c D.toArray w eg hcmp.lays hH h3 (by simp at hn ⊢; omega)
    rw [hsz]
    refine Calls.mono hcon ?_
    rintro e w' ⟨rfl, d', n, os, hp, hs, rfl⟩
    have hdl : d'.size = D.length := by rw [hp.1]; simp
    have hpl : d'.toList.Perm D := by
      have := hp.2.2
      have e1 : d'.extract 0 D.toArray.size = d' := by rw [← hp.1]; simp
      have e2 : D.toArray.extract 0 D.toArray.size = D.toArray := by simp
      rw [e1, e2] at this
      simpa using this
    have hw : sortWorld encBnd w g 0 n d' os = Sort.grow (putRow (Value.int .u32) (Sort.ahead w n) g 0 (arrW (d'.toList.map (·.1)))) os := by unfold sortWorld; rw [put_bnd]
    have hR : (d'.toList.map (·.1)).length = D.toArray.size := by simp [hdl]
    have hu := h4.put n (arrW (d'.toList.map (·.1))) (by rw [arrW_size, arrW_size, hR, hsz]) os
    have ho := Only.put w g n (arrW (d'.toList.map (·.1))) os
    rw [← hw] at hu ho
    refine ⟨rfl, d'.toList.map (·.1), hpl.map _, ?_, ?_, ho.wide h1 h2⟩
    · rw [List.pairwise_map]
      refine List.pairwise_iff_getElem.2 fun i j hi hj hij => ?_
      have hi' : i < d'.size := by simpa using hi
      have hj' : j < d'.size := by simpa using hj
      have := hs i j (Nat.zero_le _) hij (by rw [← hp.1]; exact hj')
      rw [ltV, getElem!_pos d' i hi', getElem!_pos d' j hj'] at this
      simp only [decide_eq_false_iff_not] at this
      simp only [Array.getElem_toList]
      omega
    · rw [← hR]
      exact OwnW.of hu h1 h2 (by rw [hR, ← hsz]; exact h5) h6

end Go.Proofs.YtokmmloakahkhaaGreat
/-
  slices.BinarySearchFunc by the key; joinRows: each solution with each row that has the same in the shared variables.
-/
namespace Go.Proofs.YtokmmloakahkhaaGreat
open Go.RowKit Go.Sort Go.Shelf

set_option maxHeartbeats 2000000 in
set_option maxRecDepth 100000 in
theorem searchF_words (v : Value) (R : List (List Int)) (s : List Int) (sb V : Nat) (w : World) (h : RdW w w.heap.size v R) (hok : ∀ b ∈ R, bindOk b = true) (hs : bindOk s = true) (hup : R.Pairwise fun a b => keyV V a ≤ keyV V b) (hn : R.length ≤ 1048576)
    (hc : w.cell? ⟨sb, 0, none⟩ = some (.int .u32 ((maskW V : Nat) : Int))) :
    Calls Tryz.prog 221 #[v, .int .u32 ((encB s : Nat) : Int), .func (.func 218) #[] #[.pointer (some ⟨sb, 0, none⟩)]] w fun e w' =>
      (∃ (i : Nat) (ok : Bool), e = .returned (.tuple #[.int .i64 i, .bool ok]) ∧ i ≤ R.length ∧ LessN (keyV V) R (keyV V s) i ∧ FromN (keyV V) R (keyV V s) i) ∧ w' = w := by
  have HU := Lib.hid hup
  have H := Lib.hid h
  have HB := Lib.hid (fun (x : List Int) (hx : x ∈ R) => byShared_any sb V x s (hok x hx) hs w hc)
  obtain ⟨A, c, rfl, hcc, _⟩ := h
  clear hup hok
  go_enter Tryz.func221, Tryz.ntmps221
  go_wp2_with fail
  go_loopg [9, 10] R.length (fun q vi vj wr => ∃ i j : Nat, vi = .int .i64 i ∧ vj = .int .i64 j ∧ i ≤ j ∧ j ≤ R.length ∧ j - i ≤ q ∧ wr = w ∧ Hid (LessN (keyV V) R (keyV V s) i ∧ FromN (keyV V) R (keyV V s) j))
  case atStart => exact ⟨0, R.length, rfl, rfl, Nat.zero_le _, Nat.le_refl _, Nat.sub_le _ _, rfl, fun k _ hk => absurd hk (by omega), fun k hk hle => absurd hk (by omega)⟩
  case round =>
    obtain ⟨i, j, rfl, rfl, hij, hj, hq, rfl, HI⟩ := hrel
    by_cases hlt : i < j
    · obtain ⟨p, hp⟩ : ∃ p, p = (i + j) / 2 := ⟨_, rfl⟩
      have hp1 : i ≤ p := by omega
      have hp2 : p < j := by omega
      have hpl : p < R.length := by omega
      have HM := Lib.hid (show ((i : Int) + (j : Int)) / 2 = (p : Int) by omega)
      obtain ⟨b, o, rfl, hbB, k1⟩ := H.out.get hpl
      have HC := HB.out R[p] (List.getElem_mem hpl)
      unfold wd at HC
      obtain ⟨K, hK⟩ : ∃ K, K = encB R[p] := ⟨_, rfl⟩
      obtain ⟨X, hX⟩ : ∃ X, X = keyV V R[p] := ⟨_, rfl⟩
      rw [← hK] at k1
      rw [← hK, ← hX] at HC
      have HX := Lib.hid hX
      clear hK hp hX
      by_cases hl : X < keyV V s
      · have hE : cmpKey X (keyV V s) = -1 := if_pos hl
        rw [hE] at HC
        have HC := Lib.hid HC
        have HN := Lib.hid (lessN_mid HU.out hpl (by rw [← HX.out]; exact hl))
        clear hl hE
        go_upto_region 5 with fail
        rw [HM.out]
        go_wp2_with (go_at_call 218; refine HC.out.mono ?_; rintro e w' ⟨rfl, rfl⟩)
        go_roundg (j - (p + 1))
        case measure => omega
        case rel => exact ⟨p + 1, j, by go_num, rfl, by omega, hj, Nat.le_refl _, rfl, HN.out, HI.out.2⟩
      · have hE : ∃ z : Int, cmpKey X (keyV V s) = z ∧ ¬ z < 0 := ⟨_, rfl, by unfold cmpKey; rw [if_neg hl]; split <;> omega⟩
        obtain ⟨z, hz, hz0⟩ := hE
        rw [hz] at HC
        have HC := Lib.hid HC
        have HN := Lib.hid (fromN_mid HU.out hpl (by rw [← HX.out]; exact hl))
        clear hl hz
        go_upto_region 5 with fail
        rw [HM.out]
        go_wp2_with (go_at_call 218; refine HC.out.mono ?_; rintro e w' ⟨rfl, rfl⟩)
        go_roundg (p - i)
        case measure => omega
        case rel => exact ⟨i, p, rfl, rfl, hp1, by omega, Nat.le_refl _, rfl, HI.out.1, HN.out⟩
    · obtain rfl : i = j := by omega
      by_cases hpl : i < R.length
      · obtain ⟨b, o, rfl, hbB, k1⟩ := H.out.get hpl
        have HC := HB.out R[i] (List.getElem_mem hpl)
        unfold wd at HC
        generalize encB R[i] = K at k1 HC
        generalize cmpKey _ _ = z at HC
        have HC := Lib.hid HC
        go_wp2_with (go_at_call 218; refine HC.out.mono ?_; rintro e w' ⟨rfl, rfl⟩)
        go_ret2
        exact ⟨⟨i, _, rfl, hj, HI.out.1, HI.out.2⟩, rfl⟩
      · go_wp2_with fail
        go_ret2
        exact ⟨⟨i, _, rfl, hj, HI.out.1, HI.out.2⟩, rfl⟩

/-- The relation of a loop that collects words. -/
structure ColB (w wr : World) (S : List (List Int)) (A : Option Addr) (c : Nat) : Prop where
  below : Below w.heap.size w wr
  own : OwnW wr w.heap.size wr.heap.size (.slice A S.length c) S
theorem ColB.nil {w wr : World} (hb : Below w.heap.size w wr) : ColB w wr [] none 0 := ⟨hb, World.ownsRow_nil _ _ _ _, fun g hg => by cases hg⟩
theorem ColB.push {w wr w2 w4 : World} {S : List (List Int)} {A : Option Addr} {c g cap : Nat} {b : List Int} {o : Obj} (h : ColB w wr S A c) (hb : Below wr.heap.size wr w2)
    (hg : (w2.alloc o).grownBy w4 (Value.slice A S.length c).ownBlock) (hown : w4.ownsRow w.heap.size 94 1 (.slice (some ⟨g, 0, none⟩) (S.length + 1) cap) (S.length + 1) (S.map wd ++ [wd b])) :
    ColB w w4 (S ++ [b]) (some ⟨g, 0, none⟩) cap := by
  have hl : (S ++ [b]).length = S.length + 1 := by simp
  refine ⟨((bthen h.below hb).alloc (bthen h.below hb).size _).grown hg (by have := (bthen h.below hb).size; simp; omega) (fun k hk => (h.own.1.lt k hk).1), ?_⟩
  rw [hl]
  exact ⟨by simpa [hl] using hown, fun b hb' => (hown.lt b hb').2⟩
theorem ColB.later {w wr w2 : World} {S : List (List Int)} {A : Option Addr} {c : Nat} (h : ColB w wr S A c) (hb : Below wr.heap.size wr w2) : ColB w w2 S A c :=
  ⟨bthen h.below hb, (h.own.below hb (Nat.le_refl _)).mono (Nat.le_refl _) hb.size⟩

/-- The rows that have the same as s in the shared variables. -/
def sameRun (V : Nat) (R : List (List Int)) (s : List Int) : List (List Int) := R.filter fun r => keyV V r == keyV V s
def joinL (V : Nat) (R : List (List Int)) (S : List (List Int)) : List (List Int) := S.flatMap fun s => (sameRun V R s).map fun r => over s r
theorem joinL_take {V : Nat} {R S : List (List Int)} {k : Nat} (h : k < S.length) : joinL V R (S.take (k + 1)) = joinL V R (S.take k) ++ (sameRun V R S[k]).map (over S[k]) := by
  unfold joinL
  rw [take_snoc S k h, List.flatMap_append]
  simp
theorem joinL_len (V : Nat) (R : List (List Int)) : ∀ S : List (List Int), (joinL V R S).length ≤ S.length * R.length
  | [] => by simp [joinL]
  | s :: S => by
    have ih := joinL_len V R S
    have h1 : ((sameRun V R s).map (over s)).length ≤ R.length := by rw [List.length_map]; exact List.length_filter_le _ _
    have e : joinL V R (s :: S) = (sameRun V R s).map (over s) ++ joinL V R S := by unfold joinL; rw [List.flatMap_cons]
    rw [e, List.length_append, List.length_cons, Nat.succ_mul]
    omega
/-- Where the run ends, it is all that have the same. -/
theorem run_all {V : Nat} {R : List (List Int)} {s : List Int} {p q : Nat} (hup : R.Pairwise fun a b => keyV V a ≤ keyV V b) (hpq : p ≤ q) (hq : q ≤ R.length) (hl : LessN (keyV V) R (keyV V s) p) (hf : FromN (keyV V) R (keyV V s) p)
    (hr : ∀ k (h : k < R.length), p ≤ k → k < q → keyV V R[k] = keyV V s) (he : ∀ h : q < R.length, keyV V R[q] ≠ keyV V s) : (R.drop p).take (q - p) = sameRun V R s := by
  have e : R = R.take p ++ ((R.drop p).take (q - p) ++ R.drop q) := by
    conv => lhs; rw [← List.take_append_drop p R]
    congr 1
    conv => lhs; rw [← List.take_append_drop (q - p) (R.drop p)]
    congr 1
    rw [List.drop_drop]
    congr 1
    omega
  unfold sameRun
  conv => rhs; rw [e, List.filter_append, List.filter_append]
  have h1 : (R.take p).filter (fun r => keyV V r == keyV V s) = [] := by
    refine List.filter_eq_nil_iff.2 fun x hx => ?_
    obtain ⟨k, hk, rfl⟩ := List.getElem_of_mem hx
    simp at hk
    have := hl k (by omega) (by omega)
    simp
    omega
  have h2 : (R.drop q).filter (fun r => keyV V r == keyV V s) = [] := by
    refine List.filter_eq_nil_iff.2 fun x hx => ?_
    obtain ⟨k, hk, rfl⟩ := List.getElem_of_mem hx
    simp at hk
    have hq' : q < R.length := by omega
    have g1 := he hq'
    have g2 := hf q hq' hpq
    have g3 : keyV V R[q] ≤ keyV V (R[q + k]'(by omega)) := by
      rcases Nat.eq_zero_or_pos k with rfl | hk0
      · exact Nat.le_refl _
      · exact List.pairwise_iff_getElem.1 hup q (q + k) hq' (by omega) (by omega)
    simp
    omega
  have h3 : ((R.drop p).take (q - p)).filter (fun r => keyV V r == keyV V s) = (R.drop p).take (q - p) := by
    refine List.filter_eq_self.2 fun x hx => ?_
    obtain ⟨k, hk, rfl⟩ := List.getElem_of_mem hx
    simp at hk
    have := hr (p + k) (by omega) (by omega) (by omega)
    simpa using this
  rw [h1, h2, h3]
  simp

end Go.Proofs.YtokmmloakahkhaaGreat
/-
  The program's HeadOf.
-/
namespace Go.Proofs.YtokmmloakahkhaaGreat
open Go.RowKit

theorem areConstants_is {xs : List Int} {b : Bool} (e : xs.all constOk = b) (v : Value) (B : Nat) (w : World) (h : RdInts w B v xs) (hr : xs.length ≤ 1048576) :
    Calls Tryz.prog 82 #[v] w fun e w' => e = .returned (.bool b) ∧ w = w' := e ▸ areConstants_any v xs B w h hr

set_option maxHeartbeats 2000000 in
set_option maxRecDepth 100000 in
theorem implHeadOf_any (v v2 : Value) (a : LFact) (bs : List Int) (w : World) (h : RdFact w w.heap.size v a) (h2 : RdInts w w.heap.size v2 bs) (hr : a.2.length ≤ 1048576) (hr2 : bs.length ≤ 1048576) :
    Calls Tryz.prog 53 #[v, v2] w fun e w' => ∃ A' c', e = .returned (.tuple #[.agg #[.int .i64 (headOf a bs).1, .slice A' (headOf a bs).2.length c'], .bool (headOk a bs)]) ∧ OwnInts w' w.heap.size w'.heap.size (.slice A' (headOf a bs).2.length c') (headOf a bs).2 ∧ Below w.heap.size w w' := by
  obtain ⟨u, rfl, h⟩ := h
  have H := Lib.hid h
  have H2 := Lib.hid h2
  obtain ⟨A, c, rfl, hc, _⟩ := h
  obtain ⟨A2, c2, rfl, hc2, _⟩ := h2
  obtain ⟨F, hF⟩ : ∃ F, F = headOf a bs := ⟨_, rfl⟩
  obtain ⟨ok, hok⟩ : ∃ ok, ok = headOk a bs := ⟨_, rfl⟩
  rw [← hF, ← hok]
  have HF := Lib.hid hF
  have HK := Lib.hid hok
  clear hF hok
  have x0 := (Blk.new w 33 #[.int .i64 a.1, .slice A a.2.length c]).alloc (Obj.cells #[.int .i64 0, .slice none 0 0] 42)
  have x1 : Blk ((w.alloc (Obj.cells #[.int .i64 a.1, .slice A a.2.length c] 33)).alloc (Obj.cells #[.int .i64 0, .slice none 0 0] 42)) (w.heap.size + 1) 42 #[.int .i64 0, .slice none 0 0] := by simpa using Blk.new (w.alloc (Obj.cells #[.int .i64 a.1, .slice A a.2.length c] 33)) 42 #[.int .i64 0, .slice none 0 0]
  obtain ⟨w2, hw2⟩ : ∃ w2, w2 = ((w.alloc (Obj.cells #[Value.int IntKind.i64 a.1, Value.slice A a.2.length c] 33)).alloc (Obj.cells #[Value.int IntKind.i64 0, Value.slice none 0 0] 42)) := ⟨_, rfl⟩
  have B2 : Below w.heap.size w w2 := by rw [hw2]; exact below2 _ _ _
  have HW := Lib.hid hw2
  rw [← hw2] at x0 x1
  have q00 : w2.cell? ⟨w.heap.size, 0, none⟩ = some (.int .i64 a.1) := x0.cell 0
  have q01 : w2.cell? ⟨w.heap.size, 1, none⟩ = some (.slice A a.2.length c) := x0.cell 1
  have c10 : w2.cell? ⟨w.heap.size + 1, 0, none⟩ = some (.int .i64 0) := x1.cell 0
  have c11 : w2.cell? ⟨w.heap.size + 1, 1, none⟩ = some (.slice none 0 0) := x1.cell 1
  have f10 := x1.frozen 0
  have f11 := x1.frozen 1
  clear hw2
  by_cases hb : bindOk bs = true
  · have L1 := Lib.hid (bindingOf_yes hb (.slice A2 bs.length c2) w2.heap.size w2 (H2.out.on B2))
    by_cases ht : a.2.all termOk = true
    · have L2 := Lib.hid (areTerms_is ht (.slice A a.2.length c) w2.heap.size w2 (H.out.on B2) hr)
      have L3 := Lib.hid (values_any (.slice A a.2.length c) bs a.2 hb ht w2 (H.out.on B2) hr)
      obtain ⟨ys, hys⟩ : ∃ ys, ys = a.2.map (termVal bs) := ⟨_, rfl⟩
      have HYL := Lib.hid (show ys.length = a.2.length by rw [hys]; simp)
      rw [← hys] at L3
      have HY := Lib.hid (And.intro hys (And.intro hb ht))
      clear hys hb ht
      generalize encB bs = m at L1 L3
      go_enter Tryz.func53, Tryz.ntmps53
      go_wp2_with (fail)
      rw [← HW.out]
      refine L1.out.mono ?_
      rintro e w' ⟨rfl, rfl⟩
      go_wp2_with (fail)
      refine L2.out.mono ?_
      rintro e w' ⟨rfl, rfl⟩
      go_wp2_with (fail)
      refine L3.out.mono ?_
      rintro e w3 ⟨A', c', rfl, ho, hb3⟩
      rw [← HYL.out] at ho ⊢
      have ho' := ho
      have x0' := x0.below hb3 x0.lt
      have x1' := x1.below hb3 x1.lt
      have l1 := x1.lt
      have B3 := bthen B2 hb3
      clear q00 q01 c10 c11 f10 f11 x0 x1
      have q00 : w3.cell? ⟨w.heap.size, 0, none⟩ = some (.int .i64 a.1) := x0'.cell 0
      have q01 : w3.cell? ⟨w.heap.size, 1, none⟩ = some (.slice A a.2.length c) := x0'.cell 1
      have c10 : w3.cell? ⟨w.heap.size + 1, 0, none⟩ = some (.int .i64 0) := x1'.cell 0
      have c11 : w3.cell? ⟨w.heap.size + 1, 1, none⟩ = some (.slice none 0 0) := x1'.cell 1
      have f10 := x1'.frozen 0
      have f11 := x1'.frozen 1
      have HO := Lib.hid ho
      have hyr : ys.length ≤ 1048576 := by rw [HYL.out]; exact hr
      clear ho ho' x0' x1'
      by_cases hcst : ys.all constOk = true
      · have HN := Lib.hid (show ok = true ∧ F = (a.1, ys) by
          obtain ⟨e1, e2, e3⟩ := HY.out
          have hyes : headOk a bs = true := headOk_yes e2 e3 (by rw [← e1]; exact hcst)
          exact ⟨by rw [HK.out, hyes], by rw [HF.out, headOf_yes hyes, e1]⟩)
        have L4 := Lib.hid (areConstants_is hcst (.slice A' ys.length c') w3.heap.size w3 HO.out.rd hyr)
        clear hcst
        go_wp2_with (go_at_call 82; refine L4.out.mono ?_; rintro e w' ⟨rfl, rfl⟩)
        refine bodyPost_ret (v := .tuple #[.agg #[.int .i64 a.1, .slice A' ys.length c'], .bool true]) (by simp [results, Tryz.results53, go_sem, c10, c11]) rfl ?_
        rw [HN.out.1, HN.out.2]
        refine ⟨A', c', rfl, ?_, (B3.setCell (by simp) _).setCell (by simp) _⟩
        exact ((HO.out.set (p := ⟨w.heap.size + 1, 0, none⟩) (.inl (by show w.heap.size + 1 < w2.heap.size; omega)) _).set (p := ⟨w.heap.size + 1, 1, none⟩) (.inl (by show w.heap.size + 1 < w2.heap.size; omega)) _).mono (by omega) (by simp)
      · have hcst' : ys.all constOk = false := by simpa using hcst
        have HN := Lib.hid (show ok = false ∧ F = (0, []) by
          obtain ⟨e1, e2, e3⟩ := HY.out
          have hno : headOk a bs = false := headOk_vals (by rw [← e1]; exact hcst')
          exact ⟨by rw [HK.out, hno], by rw [HF.out, headOf_no hno]⟩)
        have L4 := Lib.hid (areConstants_is hcst' (.slice A' ys.length c') w3.heap.size w3 HO.out.rd hyr)
        clear hcst hcst'
        go_wp2_with (go_at_call 82; refine L4.out.mono ?_; rintro e w' ⟨rfl, rfl⟩)
        refine bodyPost_ret (v := .tuple #[.agg #[.int .i64 0, .slice none 0 0], .bool false]) (by simp [results, Tryz.results53, go_sem, c10, c11]) rfl ?_
        rw [HN.out.1, HN.out.2]
        exact ⟨none, 0, rfl, zeroI _ _ _, (B3.setCell (by simp) _).setCell (by simp) _⟩
    · have ht' : a.2.all termOk = false := by simpa using ht
      have L2 := Lib.hid (areTerms_is ht' (.slice A a.2.length c) w2.heap.size w2 (H.out.on B2) hr)
      have HN := Lib.hid (show ok = false ∧ F = (0, []) from ⟨by rw [HK.out, headOk_terms ht'], by rw [HF.out, headOf_no (headOk_terms ht')]⟩)
      clear hb ht ht'
      generalize encB bs = m at L1
      go_enter Tryz.func53, Tryz.ntmps53
      go_wp2_with (fail)
      rw [← HW.out]
      refine L1.out.mono ?_
      rintro e w' ⟨rfl, rfl⟩
      go_wp2_with (fail)
      refine L2.out.mono ?_
      rintro e w' ⟨rfl, rfl⟩
      go_wp2_with (fail)
      refine bodyPost_ret (v := .tuple #[.agg #[.int .i64 0, .slice none 0 0], .bool false]) (by simp [results, Tryz.results53, go_sem, c10, c11]) rfl ?_
      rw [HN.out.1, HN.out.2]
      exact ⟨none, 0, rfl, zeroI _ _ _, (B2.setCell (by simp) _).setCell (by simp) _⟩
  · have hb' : bindOk bs = false := by simpa using hb
    have L1 := Lib.hid (bindingOf_no hb' (.slice A2 bs.length c2) w2.heap.size w2 (H2.out.on B2) hr2)
    have HN := Lib.hid (show ok = false ∧ F = (0, []) from ⟨by rw [HK.out, headOk_bind hb'], by rw [HF.out, headOf_no (headOk_bind hb')]⟩)
    clear hb hb'
    go_enter Tryz.func53, Tryz.ntmps53
    go_wp2_with (fail)
    rw [← HW.out]
    refine L1.out.mono ?_
    rintro e w' ⟨rfl, rfl⟩
    go_wp2_with (fail)
    refine bodyPost_ret (v := .tuple #[.agg #[.int .i64 0, .slice none 0 0], .bool false]) (by simp [results, Tryz.results53, go_sem, c10, c11]) rfl ?_
    rw [HN.out.1, HN.out.2]
    exact ⟨none, 0, rfl, zeroI _ _ _, (B2.setCell (by simp) _).setCell (by simp) _⟩

end Go.Proofs.YtokmmloakahkhaaGreat
/-
  Both Holds.
-/
namespace Go.Proofs.YtokmmloakahkhaaGreat
open Go.RowKit

/-- LitSame, LitLess: both have constants, and are the same, or the first is less. -/
def cmpB (k a b : Int) : Bool := (decide (0 ≤ a) && decide (0 ≤ b)) && (if k = 2 then decide (a = b) else decide (a < b))
def litHolds (fs : List LFact) (l : LLit) (bs : List Int) : Bool :=
  if l.1 = 2 ∨ l.1 = 3 then decide (l.2.2.length = 2) && cmpB l.1 (termVal bs (l.2.2.getD 0 0)) (termVal bs (l.2.2.getD 1 0))
  else (headOk l.2 bs && decide (0 ≤ l.1 ∧ l.1 ≤ 1)) && (factsHas fs (headOf l.2 bs) == decide (l.1 = 0))
def holdsB (fs : List LFact) (l : LLit) (bs : List Int) : Bool := (bindOk bs && l.2.2.all termOk) && litHolds fs l bs

theorem cmpB_neg {k a b : Int} (h : a < 0) : cmpB k a b = false := by unfold cmpB; rw [decide_eq_false (show ¬ 0 ≤ a by omega)]; rfl
theorem cmpB_neg2 {k a b : Int} (h : b < 0) : cmpB k a b = false := by unfold cmpB; rw [decide_eq_false (show ¬ 0 ≤ b by omega), Bool.and_false]; rfl
theorem cmpB_same {a b : Int} (h : 0 ≤ a) (h2 : 0 ≤ b) : cmpB 2 a b = decide (a = b) := by unfold cmpB; rw [decide_eq_true h, decide_eq_true h2]; simp
theorem cmpB_less {a b : Int} (h : 0 ≤ a) (h2 : 0 ≤ b) : cmpB 3 a b = decide (a < b) := by unfold cmpB; rw [decide_eq_true h, decide_eq_true h2]; simp

theorem comparison_any (k a b : Int) (hk : k = 2 ∨ k = 3) (w : World) :
    Calls Tryz.prog 56 #[.int .i64 k, .int .i64 a, .int .i64 b] w fun e w' => e = .returned (.bool (cmpB k a b)) ∧ w = w' := by
  by_cases h1 : a < 0
  · have HE := Lib.hid (cmpB_neg (k := k) (b := b) h1)
    go_enter Tryz.func56, Tryz.ntmps56
    go_wp2_with (fail)
    go_ret
    exact ⟨ret_bool HE.out.symm, rfl⟩
  · have hd1 : decide (a < 0) = false := by simpa using h1
    by_cases h2 : b < 0
    · have HE := Lib.hid (cmpB_neg2 (k := k) (a := a) h2)
      go_enter Tryz.func56, Tryz.ntmps56
      go_wp2_with (fail)
      go_ret
      exact ⟨ret_bool HE.out.symm, rfl⟩
    · have hd2 : decide (b < 0) = false := by simpa using h2
      rcases hk with rfl | rfl
      · by_cases h3 : a = b
        · have HE := Lib.hid (show cmpB 2 a b = true by rw [cmpB_same (by omega) (by omega)]; exact decide_eq_true h3)
          have hd3 : (a == b) = true := by simpa using h3
          clear h3
          go_enter Tryz.func56, Tryz.ntmps56
          go_wp2_with (fail)
          go_ret
          exact ⟨ret_bool HE.out.symm, rfl⟩
        · have HE := Lib.hid (show cmpB 2 a b = false by rw [cmpB_same (by omega) (by omega)]; exact decide_eq_false h3)
          have hd3 : (a == b) = false := by simpa using h3
          clear h3
          go_enter Tryz.func56, Tryz.ntmps56
          go_wp2_with (fail)
          go_ret
          exact ⟨ret_bool HE.out.symm, rfl⟩
      · by_cases h3 : a < b
        · have HE := Lib.hid (show cmpB 3 a b = true by rw [cmpB_less (by omega) (by omega)]; exact decide_eq_true h3)
          go_enter Tryz.func56, Tryz.ntmps56
          go_wp2_with (fail)
          go_ret
          exact ⟨ret_bool HE.out.symm, rfl⟩
        · have HE := Lib.hid (show cmpB 3 a b = false by rw [cmpB_less (by omega) (by omega)]; exact decide_eq_false h3)
          have hd3 : decide (a < b) = false := by simpa using h3
          go_enter Tryz.func56, Tryz.ntmps56
          go_wp2_with (fail)
          go_ret
          exact ⟨ret_bool HE.out.symm, rfl⟩

/-- Two values, and what a comparison of them answers. -/
theorem cmpB_cases (k a b : Int) (hk : k = 2 ∨ k = 3) : (a < 0 ∧ cmpB k a b = false) ∨ (0 ≤ a ∧ b < 0 ∧ cmpB k a b = false) ∨ (0 ≤ a ∧ 0 ≤ b ∧ cmpB k a b = (if k = 2 then a == b else decide (a < b))) := by
  rcases Int.lt_or_le a 0 with h | h
  · exact .inl ⟨h, cmpB_neg h⟩
  · rcases Int.lt_or_le b 0 with h2 | h2
    · exact .inr (.inl ⟨h, h2, cmpB_neg2 h2⟩)
    · refine .inr (.inr ⟨h, h2, ?_⟩)
      rcases hk with rfl | rfl
      · rw [cmpB_same h h2]
        rfl
      · rw [cmpB_less h h2]
        rfl

set_option maxHeartbeats 2000000 in
set_option maxRecDepth 100000 in
theorem l3HoldsCmp_any (v v3 : Value) (l : LLit) (bs : List Int) (v0 : Value) (w : World) (hkd : l.1 = 2 ∨ l.1 = 3) (h2 : RdLit w w.heap.size v l) (h3 : RdInts w w.heap.size v3 bs) (hb : bs.length = 4) (ht : l.2.2.all termOk = true) :
    Calls Tryz.prog 99 #[v0, v, v3] w fun e w' => e = .returned (.bool (decide (l.2.2.length = 2) && cmpB l.1 (termVal bs (l.2.2.getD 0 0)) (termVal bs (l.2.2.getD 1 0)))) ∧ Below w.heap.size w w' := by
  obtain ⟨kd, p, xs⟩ := l
  obtain ⟨u, rfl, A, c, rfl, hc, hx⟩ := h2
  simp only at hkd hx hc ht
  have H3 := Lib.hid h3
  obtain ⟨A3, c3, rfl, hc3, _⟩ := h3
  have HB := Lib.hid hb
  clear hb
  have y0 := Blk.new w 35 #[.int .i64 kd, .int .i64 p, .slice A xs.length c]
  by_cases hl : xs.length = 2
  · obtain ⟨s, t, rfl⟩ : ∃ s t, xs = [s, t] := by
      match xs, hl with
      | [s, t], _ => exact ⟨s, t, rfl⟩
    obtain ⟨b, o, rfl, hbB, hx⟩ := hx (by simp)
    have hs := List.all_eq_true.1 ht s (by simp)
    have htt := List.all_eq_true.1 ht t (by simp)
    have c0 : ∀ O, (w.alloc O).cell? ⟨b, o, none⟩ = some (.int .i64 s) := fun O => (World.cell?_alloc_lt w O ⟨b, o, none⟩ hbB).trans (hx 0 (by simp))
    have c1 : ∀ O, (w.alloc O).cell? ⟨b, o + 1, none⟩ = some (.int .i64 t) := fun O => (World.cell?_alloc_lt w O ⟨b, o + 1, none⟩ hbB).trans (hx 1 (by simp))
    have T1 := Lib.hid (fun O => l3Term_any (.slice A3 bs.length c3) bs s _ (w.alloc O) (H3.out.on (below1 w O)) HB.out hs)
    have T2 := Lib.hid (fun O => l3Term_any (.slice A3 bs.length c3) bs t _ (w.alloc O) (H3.out.on (below1 w O)) HB.out htt)
    obtain ⟨R, hR⟩ : ∃ R, R = cmpB kd (termVal bs s) (termVal bs t) := ⟨_, rfl⟩
    have HR := Lib.hid hR
    have HX := Lib.hid (cmpB_cases kd (termVal bs s) (termVal bs t) hkd)
    rw [← hR] at HX
    obtain ⟨av, hav⟩ : ∃ av, av = termVal bs s := ⟨_, rfl⟩
    obtain ⟨bv, hbv⟩ : ∃ bv, bv = termVal bs t := ⟨_, rfl⟩
    rw [← hav] at T1 HX
    rw [← hbv] at T2 HX
    have HG := Lib.hid (show (decide ([s, t].length = 2) && cmpB kd (termVal bs ([s, t].getD 0 0)) (termVal bs ([s, t].getD 1 0))) = R by rw [hR]; rfl)
    show Calls _ _ _ _ fun e w' => e = .returned (.bool (decide ([s, t].length = 2) && cmpB kd (termVal bs ([s, t].getD 0 0)) (termVal bs ([s, t].getD 1 0)))) ∧ _
    rw [HG.out]
    clear hR hav hbv hs htt ht hx hl HR
    have q0 := y0.cell 0
    have q1 := y0.cell 1
    have q2 := y0.cell 2
    simp only [List.length_cons, List.length_nil] at q2
    rcases hkd with rfl | rfl
    · rcases HX.out with ⟨h1, e⟩ | ⟨h1, h2, e⟩ | ⟨h1, h2, e⟩
      · have hd1 : decide (0 ≤ av) = false := by simp; omega
        have HE := Lib.hid e
        clear e
        go_enter Tryz.func99, Tryz.ntmps99
        go_wp2_with (fail)
        refine (T1.out _).mono ?_
        rintro e w' ⟨rfl, rfl⟩
        go_wp2_with (fail)
        refine (T2.out _).mono ?_
        rintro e w' ⟨rfl, rfl⟩
        go_wp2_with (fail)
        go_ret
        exact ⟨ret_bool HE.out.symm, below1 _ _⟩
      · have hd2 : decide (0 ≤ bv) = false := by simp; omega
        have HE := Lib.hid e
        clear e
        go_enter Tryz.func99, Tryz.ntmps99
        go_wp2_with (fail)
        refine (T1.out _).mono ?_
        rintro e w' ⟨rfl, rfl⟩
        go_wp2_with (fail)
        refine (T2.out _).mono ?_
        rintro e w' ⟨rfl, rfl⟩
        go_wp2_with (fail)
        go_ret
        exact ⟨ret_bool HE.out.symm, below1 _ _⟩
      · have e' : R = (av == bv) := e
        clear e
        by_cases h3 : av = bv
        · have hd3 : (av == bv) = true := by simpa using h3
          have HE := Lib.hid (show R = true by rw [e', hd3])
          clear e' h3
          go_enter Tryz.func99, Tryz.ntmps99
          go_wp2_with (fail)
          refine (T1.out _).mono ?_
          rintro e w' ⟨rfl, rfl⟩
          go_wp2_with (fail)
          refine (T2.out _).mono ?_
          rintro e w' ⟨rfl, rfl⟩
          go_wp2_with (fail)
          go_ret
          exact ⟨ret_bool HE.out.symm, below1 _ _⟩
        · have hd3 : (av == bv) = false := by simpa using h3
          have HE := Lib.hid (show R = false by rw [e', hd3])
          clear e' h3
          go_enter Tryz.func99, Tryz.ntmps99
          go_wp2_with (fail)
          refine (T1.out _).mono ?_
          rintro e w' ⟨rfl, rfl⟩
          go_wp2_with (fail)
          refine (T2.out _).mono ?_
          rintro e w' ⟨rfl, rfl⟩
          go_wp2_with (fail)
          go_ret
          exact ⟨ret_bool HE.out.symm, below1 _ _⟩
    · rcases HX.out with ⟨h1, e⟩ | ⟨h1, h2, e⟩ | ⟨h1, h2, e⟩
      · have hd1 : decide (0 ≤ av) = false := by simp; omega
        have HE := Lib.hid e
        clear e
        go_enter Tryz.func99, Tryz.ntmps99
        go_wp2_with (fail)
        refine (T1.out _).mono ?_
        rintro e w' ⟨rfl, rfl⟩
        go_wp2_with (fail)
        refine (T2.out _).mono ?_
        rintro e w' ⟨rfl, rfl⟩
        go_wp2_with (fail)
        go_ret
        exact ⟨ret_bool HE.out.symm, below1 _ _⟩
      · have hd2 : decide (0 ≤ bv) = false := by simp; omega
        have HE := Lib.hid e
        clear e
        go_enter Tryz.func99, Tryz.ntmps99
        go_wp2_with (fail)
        refine (T1.out _).mono ?_
        rintro e w' ⟨rfl, rfl⟩
        go_wp2_with (fail)
        refine (T2.out _).mono ?_
        rintro e w' ⟨rfl, rfl⟩
        go_wp2_with (fail)
        go_ret
        exact ⟨ret_bool HE.out.symm, below1 _ _⟩
      · have e' : R = decide (av < bv) := e
        clear e
        by_cases h3 : av < bv
        · have HE := Lib.hid (show R = true by rw [e']; exact decide_eq_true h3)
          clear e'
          go_enter Tryz.func99, Tryz.ntmps99
          go_wp2_with (fail)
          refine (T1.out _).mono ?_
          rintro e w' ⟨rfl, rfl⟩
          go_wp2_with (fail)
          refine (T2.out _).mono ?_
          rintro e w' ⟨rfl, rfl⟩
          go_wp2_with (fail)
          go_ret
          exact ⟨ret_bool HE.out.symm, below1 _ _⟩
        · have hd3 : decide (av < bv) = false := by simpa using h3
          have HE := Lib.hid (show R = false by rw [e', hd3])
          clear e'
          go_enter Tryz.func99, Tryz.ntmps99
          go_wp2_with (fail)
          refine (T1.out _).mono ?_
          rintro e w' ⟨rfl, rfl⟩
          go_wp2_with (fail)
          refine (T2.out _).mono ?_
          rintro e w' ⟨rfl, rfl⟩
          go_wp2_with (fail)
          go_ret
          exact ⟨ret_bool HE.out.symm, below1 _ _⟩
  · have hl1 : ((xs.length : Int) != 2) = true := by simp; omega
    have HG := Lib.hid (show (decide (xs.length = 2) && cmpB kd (termVal bs (xs.getD 0 0)) (termVal bs (xs.getD 1 0))) = false by rw [decide_eq_false hl]; rfl)
    show Calls _ _ _ _ fun e w' => e = .returned (.bool (decide (xs.length = 2) && cmpB kd (termVal bs (xs.getD 0 0)) (termVal bs (xs.getD 1 0)))) ∧ _
    rw [HG.out]
    clear hx hl
    have q0 := y0.cell 0
    have q2 := y0.cell 2
    rcases hkd with rfl | rfl
    all_goals
      go_enter Tryz.func99, Tryz.ntmps99
      go_wp2_with (fail)
      go_ret
      exact ⟨rfl, below1 _ _⟩

end Go.Proofs.YtokmmloakahkhaaGreat
/-
  denyRows, compareTerms: the solutions that a predicate keeps (slices.DeleteFunc).
-/
namespace Go.Proofs.YtokmmloakahkhaaGreat
open Go.RowKit Go.Sort Go.Shelf

theorem Only.sortB (w : World) (g n : Nat) (d : Array Bnd) (os : Array Obj) : Only g (g + 1) w (sortWorld encBnd w g 0 n d os) := by
  have := Only.put w g n (arrW (d.toList.map (·.1))) os
  rw [← put_bnd] at this
  exact this

/-- slices.DeleteFunc of a row of words. -/
theorem deleteW_any (lo hi g : Nat) (lb : Array Value) (p : List Int → Bool) (v : Value) (S : List (List Int)) (w : World) (h : OwnW w lo hi v S) (hok : ∀ b ∈ S, bindOk b = true) (hne : S ≠ []) (hn : S.length ≤ 1048576)
    (eg : ∀ args w, (callFunc g args).run Tryz.prog w = .ok (.enter g args) w)
    (hp : ∀ (W : World) (b : List Int), bindOk b = true → Only lo hi w W → Calls Tryz.prog g (#[wd b] ++ lb) W fun e w' => e = .returned (.bool (p b)) ∧ ∃ q, w' = W.drewN q) :
    Calls Tryz.prog 222 #[v, .func (.func g) #[] lb] w fun e w' =>
      ∃ A c, e = .returned (.slice A (S.filter fun b => !p b).length c) ∧ OwnW w' lo hi (.slice A (S.filter fun b => !p b).length c) (S.filter fun b => !p b) ∧ Only lo hi w w' := by
  rcases h.at_ with ⟨rfl, rfl⟩ | ⟨gb, c, rfl, h1, h2, h3, h4, h5, h6⟩
  · exact absurd rfl hne
  · obtain ⟨D, rfl⟩ := bnds S hok
    have hsz : (D.map (·.1)).length = D.toArray.size := by simp
    have hget : ∀ j, j < D.toArray.size → (arrW (D.map (·.1)))[j]! = ((encB D.toArray[j]!.1 : Nat) : Int) := fun j hj => by
      have hjl : j < D.length := by simpa using hj
      rw [arrW_at _ (by simpa using hjl), getElem!_pos D.toArray j hj]
      simp
    have hH : Holds encBnd w gb 0 D.toArray := fun j hj => by
      refine ⟨?_, h4.frozen _⟩
      rw [h4.cell (by rw [arrW_size, hsz]; exact hj), hget j hj]
      rfl
    have hcon := AnyE.slices_DeleteFunc Tryz.deleteB encBnd (fun _ => rfl) (fun x => p x.1) g lb eg ⟨noneB, noneB_ok⟩ (fun w => by
        rw [show encBnd ⟨noneB, noneB_ok⟩ = .int .u32 0 by unfold encBnd; rw [encB_none]; rfl]
        exact Tryz.zeroValue94 w) gb 0 c D.toArray w (fun W x hb => hp W x.1 x.2 (Only.of_below hb)) (fun n os dk x _ => hp _ x.1 x.2 ((Only.sortB w gb n dk os).wide h1 h2)) hH (by simp at hn ⊢; omega) (by rw [← hsz]; exact h5)
    rw [hsz]
    refine Calls.mono hcon ?_
    rintro e w' ⟨rfl, q, rfl⟩
    have hfl : ((D.map (·.1)).filter fun b => !p b) = (D.filter fun x : Bnd => !p x.1).map (·.1) := by rw [List.filter_map]; rfl
    have hl : (D.toArray.toList.filter fun x : Bnd => !p x.1).length = ((D.map (·.1)).filter fun b => !p b).length := by rw [hfl]; simp
    rw [hl]
    obtain ⟨E, hE⟩ : ∃ E : Array Bnd, E = ((D.toArray.toList.filter fun x : Bnd => !p x.1) ++ List.replicate (D.toArray.size - ((D.map (·.1)).filter fun b => !p b).length) (⟨noneB, noneB_ok⟩ : Bnd)).toArray := ⟨_, rfl⟩
    have hle : ((D.map (·.1)).filter fun b => !p b).length ≤ D.length := Nat.le_trans (List.length_filter_le _ _) (by simp)
    have hEs : E.size = D.length := by rw [hE]; simp at hl hle ⊢; omega
    rw [← hE, put_bnd]
    have hu := h4.put q (arrW (E.toList.map (·.1))) (by rw [arrW_size, arrW_size]; simp [hEs]) #[]
    have ho := Only.put w gb q (arrW (E.toList.map (·.1))) #[]
    rw [grow_none] at hu ho
    refine ⟨_, c, rfl, OwnW.of (hu.take (by rw [arrW_size, arrW_size]; simp [hEs]; simpa using hle) fun j hj => ?_) h1 h2 (by have := h5; simp at this; omega) h6, ho.wide h1 h2⟩
    rw [arrW_size] at hj
    have hj2 : j < (E.toList.map (·.1)).length := by simp [hEs]; omega
    rw [arrW_at _ hj, arrW_at _ hj2]
    congr 2
    apply Option.some.inj
    rw [← List.getElem?_eq_getElem hj, ← List.getElem?_eq_getElem hj2, hE, hfl]
    simp only [List.map_append]
    rw [List.getElem?_append_left (by rw [hfl] at hj; simpa using hj)]

/-- Whether a row agrees with what some variables have. -/
def hitW (V : Nat) (T : List (List Int)) (b : List Int) : Bool := T.any fun t => encB t == keyV V b

set_option maxHeartbeats 1000000 in
set_option maxRecDepth 100000 in
theorem denyRows_any (lo hi V : Nat) (v0 v1 : Value) (S T : List (List Int)) (w : World) (h0 : OwnW w lo hi v0 S) (lo2 hi2 : Nat) (h1 : OwnW w lo2 hi2 v1 T) (hlo : hi ≤ lo2) (hhi : hi2 ≤ w.heap.size) (hhi0 : hi ≤ w.heap.size)
    (hS : ∀ b ∈ S, bindOk b = true) (hne : S ≠ []) (hT : T.Pairwise fun a b => encB a < encB b) (hnS : S.length ≤ 1048576) (hnT : T.length ≤ 1048576) :
    Calls Tryz.prog 208 #[v0, v1, .int .u32 ((maskW V : Nat) : Int)] w fun e w' =>
      ∃ A c, e = .returned (.slice A (S.filter fun b => !hitW V T b).length c) ∧ OwnW w' lo hi (.slice A (S.filter fun b => !hitW V T b).length c) (S.filter fun b => !hitW V T b) ∧ Only lo hi w w' := by
  obtain ⟨A1, c1, rfl⟩ := h1.form
  have eg : ∀ args w, (callFunc 223 args).run Tryz.prog w = .ok (.enter 223 args) w := enters_of Tryz.func223 (by kernel_rfl) rfl
  obtain ⟨w2, hw2⟩ : ∃ w2, w2 = (w.alloc (Obj.cells #[Value.slice A1 T.length c1] 73)).alloc (Obj.cells #[Value.int IntKind.u32 ((maskW V : Nat) : Int)] 94) := ⟨_, rfl⟩
  have B2 : Below w.heap.size w w2 := by rw [hw2]; exact below2 _ _ _
  have X1 : Blk w2 w.heap.size 73 #[.slice A1 T.length c1] := by rw [hw2]; exact (Blk.new _ _ _).alloc _
  have X2 : Blk w2 (w.heap.size + 1) 94 #[.int .u32 ((maskW V : Nat) : Int)] := by rw [hw2]; simpa using Blk.new (w.alloc (Obj.cells #[Value.slice A1 T.length c1] 73)) 94 #[.int .u32 ((maskW V : Nat) : Int)]
  have hp : ∀ (W : World) (b : List Int), bindOk b = true → Only lo hi w2 W → Calls Tryz.prog 223 (#[wd b] ++ #[.pointer (some ⟨w.heap.size, 0, none⟩), .pointer (some ⟨w.heap.size + 1, 0, none⟩)]) W fun e w' => e = .returned (.bool (hitW V T b)) ∧ ∃ q, w' = W.drewN q := by
    intro W b hb ho
    have c1c : W.cell? ⟨w.heap.size, 0, none⟩ = some (.slice A1 T.length c1) := (X1.only ho (.inr hhi0)).cell 0
    have c2c : W.cell? ⟨w.heap.size + 1, 0, none⟩ = some (.int .u32 ((maskW V : Nat) : Int)) := (X2.only ho (.inr (by omega))).cell 0
    have hr : RdW W hi2 (.slice A1 T.length c1) T := ((h1.below B2 hhi).only ho (.inr hlo)).rd
    have HSE := Lib.hid (searchW_any (.slice A1 T.length c1) T (keyV V b) hi2 (hitW V T b) rfl W hr hT hnT)
    have e1 : bits .and .u32 ((encB b : Nat) : Int) ((maskW V : Nat) : Int) = ((keyV V b : Nat) : Int) := by rw [and_word32 (encB_lt hb) (maskW_lt V), enc_restr hb]; rfl
    clear hr X1 X2
    show Calls Tryz.prog 223 #[wd b, .pointer (some ⟨w.heap.size, 0, none⟩), .pointer (some ⟨w.heap.size + 1, 0, none⟩)] W _
    unfold wd
    go_enter Tryz.func223, Tryz.ntmps223
    go_wp2_with (go_at_call 199; refine HSE.out.mono ?_; rintro e w' ⟨⟨i, rfl⟩, rfl⟩)
    go_ret
    exact ⟨rfl, 0, rfl⟩
  have HD := Lib.hid (deleteW_any lo hi 223 #[.pointer (some ⟨w.heap.size, 0, none⟩), .pointer (some ⟨w.heap.size + 1, 0, none⟩)] (hitW V T) v0 S w2 (h0.below B2 hhi0) hS hne hnS eg hp)
  have HB := Lib.hid B2
  rw [hw2] at HD
  have HW := Lib.hid hw2
  obtain ⟨A0, c0, rfl⟩ := h0.form
  clear h0 h1 hS hT hp X1 X2 B2 hw2 eg
  go_enter Tryz.func208, Tryz.ntmps208
  go_wp2_with (go_at_call 222; refine HD.out.mono ?_; rintro e w3 ⟨A, c, rfl, own, only⟩; rw [← HW.out] at only; have HO := Lib.hid (And.intro own only); clear own only)
  go_ret
  exact ⟨A, c, rfl, HO.out.1, (Only.of_below HB.out).trans HO.out.2⟩

set_option maxHeartbeats 2000000 in
set_option maxRecDepth 100000 in
theorem compareTerms_any (lo hi : Nat) (v0 v1 : Value) (S : List (List Int)) (l : LLit) (w : World) (h0 : OwnW w lo hi v0 S) (hhi : hi ≤ w.heap.size) (h1 : RdLit w lo v1 l) (hlo : lo ≤ w.heap.size) (hk : l.1 = 2 ∨ l.1 = 3) (ht : l.2.2.all termOk = true)
    (hS : ∀ b ∈ S, bindOk b = true) (hne : S ≠ []) (hnS : S.length ≤ 1048576) (hl : l.2.2.length ≤ 1048576) (R : List (List Int)) (hR : R = S.filter fun b => decide (l.2.2.length = 2) && cmpB l.1 (termVal b (l.2.2.getD 0 0)) (termVal b (l.2.2.getD 1 0))) :
    Calls Tryz.prog 209 #[v0, v1] w fun e w' =>
      ∃ A c, e = .returned (.slice A R.length c) ∧ OwnW w' lo hi (.slice A R.length c) R ∧ Only lo hi w w' := by
  obtain ⟨kd, pr, xs⟩ := l
  simp only at hk ht hl hR
  obtain ⟨av, rfl, A, c, rfl, hc, hx⟩ := h1
  obtain ⟨A0, c0, rfl⟩ := h0.form
  by_cases h2 : xs.length = 2
  · obtain ⟨t0, t1, rfl⟩ : ∃ t0 t1, xs = [t0, t1] := by
      match xs, h2 with
      | [t0, t1], _ => exact ⟨t0, t1, rfl⟩
    obtain ⟨b, o, rfl, hb, hxs⟩ := hx (by simp)
    have x0 : w.cell? ⟨b, o, none⟩ = some (.int .i64 t0) := hxs 0 (by simp)
    have x1 : w.cell? ⟨b, o + 1, none⟩ = some (.int .i64 t1) := hxs 1 (by simp)
    simp only [List.all_cons, List.all_nil, Bool.and_true, Bool.and_eq_true] at ht
    simp only [List.length_cons, List.length_nil, Nat.zero_add, Nat.reduceAdd, decide_true, Bool.true_and, List.getD_cons_zero, List.getD_cons_succ] at hR
    have eg : ∀ args w, (callFunc 224 args).run Tryz.prog w = .ok (.enter 224 args) w := enters_of Tryz.func224 (by kernel_rfl) rfl
    obtain ⟨w2, hw2⟩ : ∃ w2, w2 = (w.alloc (Obj.cells #[Value.int IntKind.i64 kd, Value.int IntKind.i64 pr, Value.slice (some ⟨b, o, none⟩) 2 c] 35)).alloc (Obj.cells #[Value.slice (some ⟨b, o, none⟩) 2 c] 31) := ⟨_, rfl⟩
    have B2 : Below w.heap.size w w2 := by rw [hw2]; exact below2 _ _ _
    have X1 : Blk w2 w.heap.size 35 #[.int .i64 kd, .int .i64 pr, .slice (some ⟨b, o, none⟩) 2 c] := by rw [hw2]; exact (Blk.new _ _ _).alloc _
    have X2 : Blk w2 (w.heap.size + 1) 31 #[.slice (some ⟨b, o, none⟩) 2 c] := by rw [hw2]; simpa using Blk.new (w.alloc (Obj.cells #[Value.int IntKind.i64 kd, Value.int IntKind.i64 pr, Value.slice (some ⟨b, o, none⟩) 2 c] 35)) 31 #[.slice (some ⟨b, o, none⟩) 2 c]
    have hp : ∀ (W : World) (x : List Int), bindOk x = true → Only lo hi w2 W → Calls Tryz.prog 224 (#[wd x] ++ #[.pointer (some ⟨w.heap.size, 0, none⟩), .pointer (some ⟨w.heap.size + 1, 0, none⟩)]) W fun e w' => e = .returned (.bool (!cmpB kd (termVal x t0) (termVal x t1))) ∧ ∃ q, w' = W.drewN q := by
      intro W x hx' ho
      have c1c : W.cell? ⟨w.heap.size, 0, none⟩ = some (.int .i64 kd) := (X1.only ho (.inr hhi)).cell 0
      have c2c : W.cell? ⟨w.heap.size + 1, 0, none⟩ = some (.slice (some ⟨b, o, none⟩) 2 c) := (X2.only ho (.inr (by omega))).cell 0
      have hbw : Below lo w W := (B2.mono hlo).trans (ho.below (Nat.le_refl _) (Nat.le_trans hlo B2.size))
      have d0 : W.cell? ⟨b, o, none⟩ = some (.int .i64 t0) := (hbw.cell (p := ⟨b, o, none⟩) hb).trans x0
      have d1 : W.cell? ⟨b, o + 1, none⟩ = some (.int .i64 t1) := (hbw.cell (p := ⟨b, o + 1, none⟩) hb).trans x1
      have HV0 := Lib.hid (fun W => value_any x hx' t0 ht.1 W)
      have HV1 := Lib.hid (fun W => value_any x hx' t1 ht.2 W)
      have HCM := Lib.hid (fun W => comparison_any kd (termVal x t0) (termVal x t1) hk W)
      clear hbw X1 X2 x0 x1 hx
      show Calls Tryz.prog 224 #[wd x, .pointer (some ⟨w.heap.size, 0, none⟩), .pointer (some ⟨w.heap.size + 1, 0, none⟩)] W _
      unfold wd
      generalize encB x = E at HV0 HV1 ⊢
      generalize termVal x t0 = T0 at HV0 HCM ⊢
      generalize termVal x t1 = T1 at HV1 HCM ⊢
      go_enter Tryz.func224, Tryz.ntmps224
      go_wp2_with fail
      go_quiet (first
        | (go_at_call 135; first | with_reducible exact quiet_left (HV0.out _) | with_reducible exact quiet_left (HV1.out _))
        | (go_at_call 56; exact quiet_left (HCM.out _)))
      go_wp2_with fail
      go_ret
      exact ⟨rfl, nq, rfl⟩
    have hd := deleteW_any lo hi 224 #[.pointer (some ⟨w.heap.size, 0, none⟩), .pointer (some ⟨w.heap.size + 1, 0, none⟩)] (fun x => !cmpB kd (termVal x t0) (termVal x t1)) (.slice A0 S.length c0) S w2 (h0.below B2 hhi) hS hne hnS eg hp
    simp only [Bool.not_not] at hd
    rw [← hR] at hd
    have HD := Lib.hid hd
    have HB := Lib.hid B2
    rw [hw2] at HD
    have HW := Lib.hid hw2
    have HR := Lib.hid hR
    clear h0 hS hp X1 X2 B2 hw2 eg hd hR hx x0 x1 hxs
    go_enter Tryz.func209, Tryz.ntmps209
    go_wp2_with (go_at_call 222; refine HD.out.mono ?_; rintro e w3 ⟨A, c, rfl, own, only⟩; rw [← HW.out] at only; have HO := Lib.hid (And.intro own only); clear own only)
    go_ret
    exact ⟨_, _, rfl, HO.out.1, (Only.of_below HB.out).trans HO.out.2⟩
  · have hRn : R = [] := by
      rw [hR]
      refine List.filter_eq_nil_iff.2 fun x _ => ?_
      simp [h2]
    subst hRn
    have h2z : ((xs.length : Int) != 2) = true := by simp; omega
    clear hR h0 hx hS
    go_enter Tryz.func209, Tryz.ntmps209
    go_wp2_with fail
    go_ret
    exact ⟨none, 0, rfl, ⟨World.ownsRow_nil _ _ _ _, fun g hg => by cases hg⟩, Only.of_below (below2 _ _ _)⟩

end Go.Proofs.YtokmmloakahkhaaGreat
/-
  The walk of matched.
-/
namespace Go.Proofs.YtokmmloakahkhaaGreat
open Go.RowKit

/-- What matched hands back: the word, and whether there is one. -/
def encO (o : Option (List Int)) : Nat := match o with | some b => encB b | none => 0

set_option maxHeartbeats 1000000 in
set_option maxRecDepth 100000 in
theorem matched_n (v v2 : Value) (a f : LFact) (bs : List Int) (z0 : Nat) (ok : Bool) (hz0 : z0 = encO (matchL a f bs)) (hok : ok = (matchL a f bs).isSome) (w : World) (hb : bindOk bs = true) (h : RdFact w w.heap.size v a) (h2 : RdFact w w.heap.size v2 f)
    (ht : a.2.all termOk = true) (hf : f.2.all constOk = true) (hr : a.2.length ≤ 1048576) (hr2 : f.2.length ≤ 1048576) :
    Calls Tryz.prog 194 #[.int .u32 (encB bs : Nat), v, v2] w fun e w' => e = .returned (.tuple #[.int .u32 (z0 : Nat), .bool ok]) ∧ Below w.heap.size w w' := by
  obtain ⟨pa, xs⟩ := a
  obtain ⟨pf, ys⟩ := f
  simp only at ht hf hr hr2
  have HO := Lib.hid (And.intro hz0 hok)
  clear hz0 hok
  obtain ⟨u, rfl, A, c, rfl, hc, hA⟩ := h
  obtain ⟨u, rfl, A2, c2, rfl, hc2, hA2⟩ := h2
  by_cases hp : pa = pf
  · have hpb : (pa != pf) = false := by simp [hp]
    by_cases hl : xs.length = ys.length
    · have hl1 : ((xs.length : Int) != (ys.length : Int)) = false := by simp [hl]
      have HL := Lib.hid hl
      have HP := Lib.hid hp
      have HM := Lib.hid (encB_lt hb)
      have HB := Lib.hid hb
      obtain ⟨m, hm⟩ : ∃ m, m = encB bs := ⟨_, rfl⟩
      rw [← hm]
      have HE := Lib.hid hm
      clear hl hp hm hb
      go_enter Tryz.func194, Tryz.ntmps194
      go_wp2_with (fail)
      go_loopw [0, 8, 9, 27] (fun m _ _ i wr => ∃ (k z : Nat) (cur : List Int), k ≤ xs.length ∧ i = .int .i64 k ∧ m = .int .u32 (z : Nat) ∧ z = encB cur ∧ bindOk cur = true ∧ matchTo bs xs ys k = some cur ∧ Below w.heap.size w wr ∧ Blk wr (w.heap.size + 1) 42 #[.int .i64 pf, .slice A2 ys.length c2]) (fun _ _ _ i _ => xs.length - (intOf i).toNat)
      case atStart => exact ⟨0, _, bs, Nat.zero_le _, rfl, rfl, HE.out, HB.out, rfl, below2 _ _ _, by simpa using Blk.new (w.alloc (Obj.cells #[Value.int IntKind.i64 pa, Value.slice A xs.length c] 33)) 42 #[.int .i64 pf, .slice A2 ys.length c2]⟩
      case round =>
        obtain ⟨k, z, cur, hk, rfl, rfl, hz, hcb, hmt, hbe, hblk⟩ := hrel
        by_cases hlt : k < xs.length
        · have hlt2 : k < ys.length := by have := HL.out; omega
          obtain ⟨b, o, rfl, hbB, hx⟩ := hA (by omega)
          obtain ⟨b2, o2, rfl, hbB2, hx2⟩ := hA2 (by omega)
          have hck : wr.cell? ⟨b, o + k, none⟩ = some (.int .i64 xs[k]) := (hbe.cell (p := ⟨b, o + k, none⟩) hbB).trans (hx k hlt)
          have hck2 : wr.cell? ⟨b2, o2 + k, none⟩ = some (.int .i64 ys[k]) := (hbe.cell (p := ⟨b2, o2 + k, none⟩) hbB2).trans (hx2 k hlt2)
          have hc1 : wr.cell? ⟨w.heap.size + 1, 1, none⟩ = some (.slice (some ⟨b2, o2, none⟩) ys.length c2) := hblk.cell 1
          have htk : termOk xs[k] = true := List.all_eq_true.1 ht _ (List.getElem_mem hlt)
          have hfk : 0 ≤ ys[k] ∧ ys[k] ≤ 5 := by simpa [constOk] using List.all_eq_true.1 hf _ (List.getElem_mem hlt2)
          have HV := Lib.hid (hz ▸ value_any cur hcb xs[k] htk)
          have hst := matchTo_step hmt hlt hlt2
          have HBK := Lib.hid hblk
          clear hx hx2 hA hA2 hblk
          by_cases e1 : termVal cur xs[k] = ys[k]
          · have HS := Lib.hid (show matchTo bs xs ys (k + 1) = some cur by rw [hst, stepM_same e1])
            have HZ := Lib.hid (And.intro hz hcb)
            have HT := Lib.hid e1
            clear hst hz hcb hmt e1 htk
            go_wp2_with (go_at_call 135; refine (HV.out _).mono ?_; rw [HT.out]; rintro e w' ⟨rfl, rfl⟩)
            go_roundw
            case rel => exact ⟨k + 1, z, cur, by omega, by go_num, rfl, HZ.out.1, HZ.out.2, HS.out, hbe, HBK.out⟩
            case measure => simp [intOf]; omega
          · have hd1 : (termVal cur xs[k] == ys[k]) = false := by simpa using e1
            by_cases e2 : termVal cur xs[k] = -1
            · obtain ⟨q1, q2, q3⟩ := termVal_free htk e2
              obtain ⟨j, hj4, hj⟩ : ∃ j : Nat, j < 4 ∧ -1 - xs[k] = (j : Int) := ⟨(-1 - xs[k]).toNat, by omega, by omega⟩
              have hjt : (-1 - xs[k]).toNat = j := by omega
              rw [hjt] at q3
              have HS := Lib.hid (show matchTo bs xs ys (k + 1) = some (cur.set j ys[k]) by rw [hst, stepM_new e2 (by omega), hjt])
              have HZ := Lib.hid (show z ||| shlB j ys[k] = encB (cur.set j ys[k]) by rw [hz, encB_set hcb hj4 q3 (by omega)])
              have HCB := Lib.hid (show bindOk (cur.set j ys[k]) = true from bindOk_set hcb (by omega) _)
              have hd1 : ((-1 : Int) == ys[k]) = false := by simp; omega
              have hzl : z < 65536 := by rw [hz]; exact encB_lt hcb
              have HT := Lib.hid e2
              have HN := Lib.hid (fun W => hj ▸ varNumber_any xs[k] q1 q2 W)
              have HW := Lib.hid (fun W => with_any z j ys[k] hzl hj4 (by omega) W)
              clear hst hz hcb hmt e1 e2 htk hj hjt q3
              go_wp2_with (go_at_call 135; refine (HV.out _).mono ?_; rw [HT.out]; rintro e w' ⟨rfl, rfl⟩)
              go_quiet (first | (go_at_call 134; exact quiet_left (HN.out _)) | (go_at_call 73; exact quiet_left (HW.out _)))
              go_wp2_with (fail)
              go_roundw
              case rel => exact ⟨k + 1, _, _, by omega, by go_num, rfl, HZ.out, HCB.out, HS.out, bdrewN hbe _, HBK.out.drewN _⟩
              case measure => simp [intOf]; omega
            · have hd2 : (termVal cur xs[k] == -1) = false := by simpa using e2
              have HN := Lib.hid (show matchL (pa, xs) (pf, ys) bs = none from matchL_stop HP.out HL.out hlt (by rw [hst, stepM_no e1 e2]))
              clear hst hz hcb hmt e1 e2 htk
              go_wp2_with (go_at_call 135; refine (HV.out _).mono ?_; rintro e w' ⟨rfl, rfl⟩)
              go_ret2
              rw [show ok = false by rw [HO.out.2, HN.out]; rfl, show z0 = 0 by rw [HO.out.1, HN.out]; rfl]
              exact ⟨rfl, hbe⟩
        · have hkn : k = xs.length := by omega
          have HN := Lib.hid (show matchL (pa, xs) (pf, ys) bs = some cur by rw [matchL_eq HP.out HL.out, ← hmt, hkn])
          have HZ := Lib.hid hz
          clear hkn hmt hz hA hA2 hblk
          go_wp2_with (fail)
          go_ret2
          rw [show ok = true by rw [HO.out.2, HN.out]; rfl, show z0 = z by rw [HO.out.1, HN.out, HZ.out]; rfl]
          exact ⟨rfl, hbe⟩
    · have hl1 : ((xs.length : Int) != (ys.length : Int)) = true := by simp; omega
      have HN := Lib.hid (show matchL (pa, xs) (pf, ys) bs = none from matchL_len hl)
      clear hA hA2 hl
      go_enter Tryz.func194, Tryz.ntmps194
      go_wp2_with (fail)
      go_ret2
      rw [show ok = false by rw [HO.out.2, HN.out]; rfl, show z0 = 0 by rw [HO.out.1, HN.out]; rfl]
      exact ⟨rfl, below2 _ _ _⟩
  · have hpb : (pa != pf) = true := by simp [hp]
    have HN := Lib.hid (show matchL (pa, xs) (pf, ys) bs = none from matchL_pred hp)
    clear hA hA2 hp
    go_enter Tryz.func194, Tryz.ntmps194
    go_wp2_with (fail)
    go_ret2
    rw [show ok = false by rw [HO.out.2, HN.out]; rfl, show z0 = 0 by rw [HO.out.1, HN.out]; rfl]
    exact ⟨rfl, below2 _ _ _⟩

end Go.Proofs.YtokmmloakahkhaaGreat
/-
  atomRows: what variables have when an atom is one of the facts, each once, ascending.
-/
namespace Go.Proofs.YtokmmloakahkhaaGreat
open Go.RowKit Go.Sort

/-- What variables have when the atom is one of the first k facts. -/
def rowsTo (a : LFact) (fs : List LFact) (k : Nat) : List (List Int) := (fs.take k).filterMap fun f => matchL a f noneB
theorem rowsTo_step {a : LFact} {fs : List LFact} {k : Nat} (h : k < fs.length) : rowsTo a fs (k + 1) = rowsTo a fs k ++ (matchL a fs[k] noneB).toList := by
  unfold rowsTo
  rw [take_snoc fs k h, List.filterMap_append]
  cases h2 : matchL a fs[k] noneB <;> simp [h2]
theorem rowsTo_len (a : LFact) (fs : List LFact) (k : Nat) : (rowsTo a fs k).length ≤ k := by
  unfold rowsTo
  exact Nat.le_trans (List.length_filterMap_le _ _) (by simp; omega)
theorem rowsTo_ok {a : LFact} {fs : List LFact} (hf : ∀ f ∈ fs, f.2.all constOk = true) (k : Nat) : ∀ b ∈ rowsTo a fs k, bindOk b = true := by
  intro b hb
  obtain ⟨f, hf', e⟩ := List.mem_filterMap.1 hb
  exact matchL_ok noneB_ok (hf f (List.mem_of_mem_take hf')) e

set_option maxHeartbeats 4000000 in
set_option maxRecDepth 100000 in
theorem atomRows_any (v v2 : Value) (fs : List LFact) (a : LFact) (w : World) (h : RdFacts w w.heap.size v fs) (h2 : RdFact w w.heap.size v2 a) (ht : a.2.all termOk = true) (hf : ∀ f ∈ fs, f.2.all constOk = true)
    (hn : fs.length ≤ 1048576) (hl : tot fs ≤ 1048576) (ha : a.2.length ≤ 1048576) :
    Calls Tryz.prog 164 #[v, v2] w fun e w' =>
      ∃ A c R, e = .returned (.slice A R.length c) ∧ OwnW w' w.heap.size w'.heap.size (.slice A R.length c) R ∧ Below w.heap.size w w' ∧ (R.Pairwise fun x y => encB x < encB y) ∧ ∀ b, b ∈ R ↔ ∃ f ∈ fs, matchL a f noneB = some b := by
  obtain ⟨i0, hi0, hz0, hz1, hz2⟩ := info_parts Tryz.infoWord
  have H := Lib.hid h
  have HF := Lib.hid hf
  obtain ⟨A, c, rfl, hc, _⟩ := h
  obtain ⟨av, rfl, h2⟩ := h2
  obtain ⟨A2, c2, rfl, hc2, hA2⟩ := h2
  have H2 := Lib.hid (show RdInts w w.heap.size (.slice A2 a.2.length c2) a.2 from ⟨A2, c2, rfl, hc2, hA2⟩)
  clear hf hA2
  go_enter Tryz.func164, Tryz.ntmps164
  go_wp2_with fail
  obtain ⟨w1, hw1⟩ : ∃ w1, w1 = w.alloc (Obj.cells #[Value.int IntKind.i64 a.1, Value.slice A2 a.2.length c2] 33) := ⟨_, rfl⟩
  have B1 : Below w.heap.size w w1 := by rw [hw1]; exact below1 _ _
  have X1 : Blk w1 w.heap.size 33 #[.int .i64 a.1, .slice A2 a.2.length c2] := by rw [hw1]; exact Blk.new _ _ _
  rw [← hw1]
  clear hw1
  have HX := Lib.hid (And.intro B1 X1)
  clear B1 X1
  go_loopg [5, 12] fs.length (fun q vo vi wr => ∃ (k : Nat) (A : Option Addr) (c : Nat), vi = .int .i64 k ∧ k ≤ fs.length ∧ q = fs.length - k ∧ vo = .slice A (rowsTo a fs k).length c ∧ ColB w1 wr (rowsTo a fs k) A c)
  case atStart => exact ⟨0, none, 0, rfl, Nat.zero_le _, rfl, rfl, ColB.nil (Below.refl _ _)⟩
  case round =>
    obtain ⟨k, A3, c3, rfl, hk, hq, rfl, hcol⟩ := hrel
    have HC := Lib.hid hcol
    have HBW := Lib.hid (bthen HX.out.1 hcol.below)
    have HX2 := Lib.hid (HX.out.2.below hcol.below HX.out.2.lt)
    clear hcol
    by_cases hlt : k < fs.length
    · obtain ⟨b, o, A4, c4, rfl, hbB, k1, k2, k3⟩ := (H.out.on HBW.out).get hlt
      have hln := len_le_tot fs k hlt
      have q0 : wr.cell? ⟨w.heap.size, 0, none⟩ = some (.int .i64 a.1) := HX2.out.cell 0
      have q1 : wr.cell? ⟨w.heap.size, 1, none⟩ = some (.slice A2 a.2.length c2) := HX2.out.cell 1
      have hwlt := HX2.out.lt
      have hfk := HF.out _ (List.getElem_mem hlt)
      have HK3 := Lib.hid k3
      have HST := Lib.hid (rowsTo_step (a := a) hlt)
      have HLN := Lib.hid (rowsTo_len a fs k)
      obtain ⟨w3, hw3⟩ : ∃ w3, w3 = wr.alloc (Obj.cells #[Value.int IntKind.i64 fs[k].1, Value.slice A4 fs[k].2.length c4] 42) := ⟨_, rfl⟩
      have B3 : Below wr.heap.size wr w3 := by rw [hw3]; exact below1 _ _
      have hM := matched_n (.agg #[.int .i64 a.1, .slice A2 a.2.length c2]) (.agg #[.int .i64 fs[k].1, .slice A4 fs[k].2.length c4]) a fs[k] noneB _ _ rfl rfl w3 noneB_ok
        ⟨_, rfl, H2.out.on (bthen HBW.out B3)⟩ ⟨_, rfl, k3.on B3⟩ ht hfk ha (by omega)
      rw [encB_none, show (((0 : Nat) : Nat) : Int) = 0 from rfl] at hM
      rw [hw3] at hM
      have HM := Lib.hid hM
      have HW3 := Lib.hid (And.intro hw3 B3)
      cases hm : matchL a fs[k] noneB with
      | none =>
        rw [hm] at HM HST
        clear k3 hM hw3 B3 hm hfk
        go_wp2_with (go_at_call 194; refine HM.out.mono ?_; rintro e w4 ⟨rfl, hb4⟩)
        rw [← HW3.out.1] at hb4
        have HCN := Lib.hid (HC.out.later (bthen HW3.out.2 hb4))
        have HE := Lib.hid (show rowsTo a fs (k + 1) = rowsTo a fs k by rw [HST.out]; simp)
        clear hb4
        go_roundg (fs.length - (k + 1))
        case measure => omega
        case rel => exact ⟨k + 1, _, _, by go_num, by omega, rfl, by rw [HE.out], by rw [HE.out]; exact HCN.out⟩
      | some r =>
        rw [hm] at HM HST
        have HE := Lib.hid (show rowsTo a fs (k + 1) = rowsTo a fs k ++ [r] by rw [HST.out]; rfl)
        clear k3 hM hw3 B3 hm hfk
        have hEO : encO (some r) = encB r := rfl
        rw [hEO] at HM
        clear hEO
        go_wp2_with (first
          | (go_at_call 194; refine HM.out.mono ?_; rintro e w4 ⟨rfl, hb4⟩; rw [← HW3.out.1] at hb4; have HCN := Lib.hid (HC.out.later (bthen HW3.out.2 hb4)); have HB4 := Lib.hid (bthen HW3.out.2 hb4); clear hb4)
          | (at_builtin; refine wpList_append_lies _ rfl (.tmp 23) (.tmp 25) 73 rfl w1.heap.size 94 i0 (.int .u32 0) 1 4 Tryz.underlying73 hi0 hz0 hz1 hz2 rfl (by decide) (.slice A3 (rowsTo a fs k).length c3) (rowsTo a fs k).length ((rowsTo a fs k).map wd) rfl ?c1 ⟨_, 0, none⟩ 1 1 [wd r] rfl rfl (news1s _ _ _ _ (by simp)) ?c2 (by omega) (by have := HLN.out; unfold maxLen; omega) (by have := HLN.out; omega) ?c3 _ rfl ?_))
        case c1 => exact HCN.out.own.1.alloc _
        case c2 => intro u hu; simp at hu; subst hu; rfl
        case c3 => have := HCN.out.below.size; simp; omega
        intro g cap w5 hown hg _ _
        have hcolN := HCN.out.push (Below.refl _ _) hg hown
        rw [← HE.out] at hcolN
        have hlen : (rowsTo a fs k).length + 1 = (rowsTo a fs (k + 1)).length := by rw [HE.out]; simp
        rw [hlen]
        have HCP := Lib.hid hcolN
        clear hcolN hlen hown hg
        go_wp2_with fail
        go_roundg (fs.length - (k + 1))
        case measure => omega
        case rel => exact ⟨k + 1, _, _, by go_num, by omega, rfl, rfl, HCP.out⟩
    · have HFIN := Lib.hid (show rowsTo a fs k = rowsTo a fs fs.length by rw [show k = fs.length by omega])
      have HLN := Lib.hid (rowsTo_len a fs k)
      have HOK := Lib.hid (rowsTo_ok (a := a) HF.out k)
      have hsz1 := HX.out.1.size
      have hszr := HC.out.below.size
      obtain ⟨Rk, hRk⟩ : ∃ Rk, Rk = rowsTo a fs k := ⟨_, rfl⟩
      rw [← hRk] at HC HFIN HLN HOK ⊢
      have HSO := Lib.hid (sortW_any w1.heap.size wr.heap.size (.slice A3 Rk.length c3) Rk wr HC.out.own (by have := HLN.out; omega))
      clear hRk hq
      go_wp2_with (first
        | (go_at_call 63; refine HSO.out.mono ?_; rintro e w4 ⟨rfl, S', hp, hup, own4, only4⟩;
           have HP := Lib.hid hp; have HO4 := Lib.hid only4; have HCC := Lib.hid (compactW_any w1.heap.size wr.heap.size (.slice A3 Rk.length c3) S' w4 own4 (fun b hb => HOK.out b (hp.mem_iff.1 hb)) hup (by have := HLN.out; have := hp.length_eq; omega)); clear hp hup own4 only4)
        | (go_at_call 195; refine HCC.out.mono ?_; rintro e w5 ⟨A6, c6, T, rfl, own5, only5, hT1, hT2, hT3⟩;
           have H5 := Lib.hid (And.intro own5 (And.intro only5 (And.intro hT1 hT2))); clear own5 only5 hT1 hT2 hT3))
      go_ret
      obtain ⟨own5, only5, hT1, hT2⟩ := H5.out
      have o45 := HO4.out.trans only5
      refine ⟨A6, c6, T, rfl, own5.mono (by omega) (by have := o45.size; omega), Only.then_ (bthen HX.out.1 HC.out.below) o45 (by omega), hT1, fun b => ?_⟩
      rw [hT2, HP.out.mem_iff, HFIN.out]
      unfold rowsTo
      rw [List.take_length, List.mem_filterMap]

end Go.Proofs.YtokmmloakahkhaaGreat
/-
  Solving literal by literal, plain mathematics: what makes all asked literals hold, each once.
-/
namespace Go.Proofs.YtokmmloakahkhaaGreat
open Go.RowKit

/-- A literal, and the facts of which it is asked. -/
abbrev LQ := LLit × List LFact
def holdsQ (q : LQ) (b : List Int) : Bool := litHolds q.2 q.1 b

theorem factsHas_in (ys : List LFact) (f : LFact) : factsHas ys f = decide (f ∈ ys) := by
  unfold factsHas
  by_cases h : f ∈ ys
  · rw [decide_eq_true h]
    exact List.any_eq_true.2 ⟨f, h, by rw [order_refl]; rfl⟩
  · rw [decide_eq_false h]
    refine List.any_eq_false.2 fun g hg e => h ?_
    have e0 : factOrder g f = 0 := by simpa using e
    rw [← order_eq e0]
    exact hg

/-- An atom whose variables all have something is a fact. -/
theorem headOk_dom {a : LFact} {b : List Int} {K : Nat} (hb : bindOk b = true) (ha : a.2.all termOk = true) (hd : DomB b K) (hs : ∀ v, v < 4 → (maskOf a.2).testBit v = true → K.testBit v = true) : headOk a b = true := by
  refine headOk_yes hb ha (List.all_eq_true.2 fun x hx => ?_)
  obtain ⟨t, ht, rfl⟩ := List.mem_map.1 hx
  have htk : termOk t = true := List.all_eq_true.1 ha t ht
  have hbd := termVal_bounds hb htk
  rcases term_cases htk with h | ⟨v, hv, rfl⟩
  · rw [termVal_const h.1]
    simp [constOk]
    exact h
  · have := (hd v hv).2 (hs v hv ((maskOf_bit hv a.2).2 ht))
    rw [termVal_v] at hbd ⊢
    unfold constOk
    exact decide_eq_true (by omega)
/-- What a literal says hangs on its variables alone. -/
theorem map_same {xs : List Int} {b c : List Int} (ht : xs.all termOk = true) (e : ∀ v, v < 4 → (maskOf xs).testBit v = true → b.getD v (-1) = c.getD v (-1)) : xs.map (termVal b) = xs.map (termVal c) :=
  List.map_congr_left fun t h => termVal_same (List.all_eq_true.1 ht t h) fun v hv et => e v hv ((maskOf_bit hv xs).2 (et ▸ h))
theorem getD_same {xs : List Int} {b c : List Int} (h : xs.map (termVal b) = xs.map (termVal c)) (hl : xs.length = 2) (i : Nat) (hi : i < 2) : termVal b (xs.getD i 0) = termVal c (xs.getD i 0) := by
  have hi' : i < xs.length := by omega
  have h1 : (xs.map (termVal b))[i]? = (xs.map (termVal c))[i]? := by rw [h]
  simp only [List.getElem?_map, List.getElem?_eq_getElem hi', Option.map_some, Option.some.injEq] at h1
  simpa [List.getD_eq_getElem?_getD, List.getElem?_eq_getElem hi'] using h1
theorem holdsQ_same {q : LQ} {b c : List Int} (hb : bindOk b = true) (hc : bindOk c = true) (ht : q.1.2.2.all termOk = true) (e : ∀ v, v < 4 → (maskOf q.1.2.2).testBit v = true → b.getD v (-1) = c.getD v (-1)) : holdsQ q b = holdsQ q c := by
  have hm := map_same ht e
  unfold holdsQ litHolds
  split
  · by_cases hl : q.1.2.2.length = 2
    · rw [getD_same hm hl 0 (by omega), getD_same hm hl 1 (by omega)]
    · rw [decide_eq_false hl, Bool.false_and, Bool.false_and]
  · have h1 : headOk q.1.2 b = headOk q.1.2 c := by unfold headOk; rw [hm, hb, hc]
    have h2 : headOf q.1.2 b = headOf q.1.2 c := by unfold headOf; rw [h1, hm]
    rw [h1, h2]
theorem holds_yes {q : LQ} {b : List Int} (hk : q.1.1 = 0) (ho : headOk q.1.2 b = true) : holdsQ q b = true ↔ (q.1.2.1, q.1.2.2.map (termVal b)) ∈ q.2 := by
  unfold holdsQ litHolds
  rw [if_neg (by omega), ho, headOf_yes ho, factsHas_in, hk]
  simp
theorem holds_no {q : LQ} {b : List Int} (hk : q.1.1 = 1) (ho : headOk q.1.2 b = true) : holdsQ q b = true ↔ (q.1.2.1, q.1.2.2.map (termVal b)) ∉ q.2 := by
  unfold holdsQ litHolds
  rw [if_neg (by omega), ho, headOf_yes ho, factsHas_in, hk]
  simp

/-- What makes all literals hold, of the variables K, each once. -/
structure Sols (K : Nat) (Q : List LQ) (S : List (List Int)) : Prop where
  nodup : S.Nodup
  mem : ∀ b, b ∈ S ↔ bindOk b = true ∧ DomB b K ∧ ∀ q ∈ Q, holdsQ q b = true
  vars : ∀ q ∈ Q, ∀ v, v < 4 → (maskOf q.1.2.2).testBit v = true → K.testBit v = true
  terms : ∀ q ∈ Q, q.1.2.2.all termOk = true

theorem sols_start : Sols 0 [] [noneB] where
  nodup := by simp
  mem b := by
    rw [List.mem_singleton]
    constructor
    · rintro rfl
      refine ⟨noneB_ok, fun v hv => ?_, fun q hq => by cases hq⟩
      match v, hv with
      | 0, _ => simp [noneB]
      | 1, _ => simp [noneB]
      | 2, _ => simp [noneB]
      | 3, _ => simp [noneB]
    · rintro ⟨hb, hd, _⟩
      refine bind_ext hb noneB_ok fun v hv => ?_
      have := hd v hv
      have hbv : b.getD v (-1) = -1 := by
        rcases Decidable.em (b.getD v (-1) = -1) with h2 | h2
        · exact h2
        · exact absurd (this.1 h2) (by simp)
      rw [hbv]
      match v, hv with
      | 0, _ => rfl
      | 1, _ => rfl
      | 2, _ => rfl
      | 3, _ => rfl
  vars q hq := by cases hq
  terms q hq := by cases hq

section
variable {K M V : Nat} {s r b : List Int}
theorem over_s (hb : bindOk s = true) (hr : bindOk r = true) (hd : DomB s K) : restr K (over s r) = s := by
  refine bind_ext (restr_ok (over_ok hb hr) K) hb fun v hv => ?_
  rw [restr_at hv, over_at hv]
  unfold over1
  by_cases e : K.testBit v = true
  · rw [if_pos e, if_neg ((hd v hv).2 e)]
  · rw [if_neg e]
    rcases Decidable.em (s.getD v (-1) = -1) with h2 | h2
    · exact h2.symm
    · exact absurd ((hd v hv).1 h2) e
/-- The same in what both know. -/
def Agree (s r : List Int) : Prop := ∀ u, u < 4 → s.getD u (-1) = -1 ∨ r.getD u (-1) = -1 ∨ s.getD u (-1) = r.getD u (-1)
theorem over_r (hb : bindOk s = true) (hr : bindOk r = true) (hd : DomB r M) (ha : Agree s r) : restr M (over s r) = r := by
  refine bind_ext (restr_ok (over_ok hb hr) M) hr fun v hv => ?_
  rw [restr_at hv, over_at hv]
  unfold over1
  by_cases e : M.testBit v = true
  · rw [if_pos e]
    have := (hd v hv).2 e
    rcases ha v hv with h | h | h
    · rw [if_pos h]
    · exact absurd h this
    · rw [← h]
      split <;> simp_all
  · rw [if_neg e]
    rcases Decidable.em (r.getD v (-1) = -1) with h2 | h2
    · exact h2.symm
    · exact absurd ((hd v hv).1 h2) e
theorem over_dom (hs : DomB s K) (hr : DomB r M) : DomB (over s r) (K ||| M) := fun v hv => by
  rw [over_at hv, Nat.testBit_or, Bool.or_eq_true, ← hs v hv, ← hr v hv]
  unfold over1
  by_cases e : s.getD v (-1) = -1
  · rw [if_pos e]
    simp only [List.getD_eq_getElem?_getD] at e ⊢
    simp [e]
  · rw [if_neg e]
    exact ⟨fun _ => .inl e, fun _ => e⟩
theorem over_back (hb : bindOk b = true) (hd : DomB b (K ||| M)) : over (restr K b) (restr M b) = b := by
  refine bind_ext (over_ok (restr_ok hb K) (restr_ok hb M)) hb fun v hv => ?_
  rw [over_at hv, restr_at hv, restr_at hv]
  unfold over1
  have h := hd v hv
  rw [Nat.testBit_or, Bool.or_eq_true] at h
  by_cases e : K.testBit v = true
  · rw [if_pos e]
    by_cases e2 : M.testBit v = true
    · rw [if_pos e2]; split <;> simp_all
    · rw [if_neg e2]; split <;> simp_all
  · rw [if_neg e, if_pos rfl]
    by_cases e2 : M.testBit v = true
    · rw [if_pos e2]
    · rw [if_neg e2]
      rcases Decidable.em (b.getD v (-1) = -1) with h2 | h2
      · exact h2.symm
      · rcases h.1 h2 with h3 | h3
        · exact absurd h3 e
        · exact absurd h3 e2
/-- Two that have the same in the shared variables agree. -/
theorem agree_of (hb : bindOk s = true) (hr : bindOk r = true) (hs : DomB s K) (hd : DomB r M) (hk : keyV (M &&& K) r = keyV (M &&& K) s) : Agree s r := fun u hu => by
  have he : restr (M &&& K) r = restr (M &&& K) s := encB_inj (restr_ok hr _) (restr_ok hb _) hk
  by_cases h1 : s.getD u (-1) = -1
  · exact .inl h1
  · by_cases h2 : r.getD u (-1) = -1
    · exact .inr (.inl h2)
    · have h3 := (hs u hu).1 h1
      have h4 := (hd u hu).1 h2
      have h5 : (M &&& K).testBit u = true := by rw [Nat.testBit_and, h3, h4]; rfl
      have h6 := congrArg (fun x => x.getD u (-1)) he
      simp only [restr_at hu, h5, if_true] at h6
      exact .inr (.inr h6.symm)
end

theorem mem_joinL {V : Nat} {R S : List (List Int)} {b : List Int} : b ∈ joinL V R S ↔ ∃ s ∈ S, ∃ r ∈ R, keyV V r = keyV V s ∧ over s r = b := by
  unfold joinL sameRun
  simp only [List.mem_flatMap, List.mem_map, List.mem_filter, beq_iff_eq]
  constructor
  · rintro ⟨s, hs, r, ⟨hr, hk⟩, e⟩
    exact ⟨s, hs, r, hr, hk, e⟩
  · rintro ⟨s, hs, r, hr, hk, e⟩
    exact ⟨s, hs, r, ⟨hr, hk⟩, e⟩

/-- The rows of an atom: what its variables have so that it is one of the facts. -/
def RowsOf (a : LFact) (fs : List LFact) (R : List (List Int)) : Prop := R.Nodup ∧ ∀ b, b ∈ R ↔ bindOk b = true ∧ DomB b (maskOf a.2) ∧ (a.1, a.2.map (termVal b)) ∈ fs
theorem rowsOf_of {a : LFact} {fs : List LFact} {R : List (List Int)} (ha : a.2.all termOk = true) (hf : ∀ f ∈ fs, f.2.all constOk = true) (hup : R.Pairwise fun x y => encB x < encB y) (hm : ∀ b, b ∈ R ↔ ∃ f ∈ fs, matchL a f noneB = some b) : RowsOf a fs R := by
  refine ⟨hup.imp fun h e => by subst e; omega, fun b => ?_⟩
  rw [hm b]
  constructor
  · rintro ⟨f, hf', e⟩
    obtain ⟨h1, h2, h3⟩ := (matchL_iff ha (hf f hf') b).1 e
    exact ⟨h1, h2, h3 ▸ hf'⟩
  · rintro ⟨h1, h2, h3⟩
    exact ⟨_, h3, (matchL_iff ha (hf _ h3) b).2 ⟨h1, h2, rfl⟩⟩
theorem RowsOf.perm {a : LFact} {fs : List LFact} {R R' : List (List Int)} (h : RowsOf a fs R) (hp : R'.Perm R) : RowsOf a fs R' := ⟨hp.nodup_iff.2 h.1, fun b => by rw [hp.mem_iff, h.2 b]⟩

theorem Sols.yes {K : Nat} {Q : List LQ} {S R : List (List Int)} {q : LQ} (h : Sols K Q S) (hk : q.1.1 = 0) (ht : q.1.2.2.all termOk = true) (hR : RowsOf q.1.2 q.2 R) :
    Sols (K ||| maskOf q.1.2.2) (q :: Q) (joinL (maskOf q.1.2.2 &&& K) R S) := by
  obtain ⟨M, hM⟩ : ∃ M, M = maskOf q.1.2.2 := ⟨_, rfl⟩
  have hR2 := hR.2
  rw [← hM] at hR2 ⊢
  have hsu : ∀ v, v < 4 → (maskOf q.1.2.2).testBit v = true → (K ||| M).testBit v = true := fun v hv h => by rw [Nat.testBit_or, hM, h, Bool.or_true]
  have hQu : ∀ q' ∈ Q, ∀ v, v < 4 → (maskOf q'.1.2.2).testBit v = true → (K ||| M).testBit v = true := fun q' hq v hv e => by rw [Nat.testBit_or, h.vars q' hq v hv e, Bool.true_or]
  refine ⟨?_, fun b => ?_, fun q' hq v hv e => ?_, fun q' hq => ?_⟩
  · unfold joinL List.Nodup
    rw [List.pairwise_flatMap]
    constructor
    · intro s hs
      obtain ⟨hbs, hds, _⟩ := (h.mem s).1 hs
      rw [List.pairwise_map]
      have hrun : (sameRun (M &&& K) R s).Nodup := List.Nodup.sublist List.filter_sublist hR.1
      refine List.Pairwise.imp_of_mem (fun {r1 r2} h1 h2 hne e => hne ?_) hrun
      obtain ⟨h1a, h1b⟩ := List.mem_filter.1 h1
      obtain ⟨h2a, h2b⟩ := List.mem_filter.1 h2
      obtain ⟨b1, d1, _⟩ := (hR2 r1).1 h1a
      obtain ⟨b2, d2, _⟩ := (hR2 r2).1 h2a
      rw [← over_r hbs b1 d1 (agree_of hbs b1 hds d1 (by simpa using h1b)), ← over_r hbs b2 d2 (agree_of hbs b2 hds d2 (by simpa using h2b)), e]
    · refine List.Pairwise.imp_of_mem (fun {s1 s2} h1 h2 hne x hx y hy e => hne ?_) h.nodup
      obtain ⟨r1, hr1, rfl⟩ := List.mem_map.1 hx
      obtain ⟨r2, hr2, rfl⟩ := List.mem_map.1 hy
      obtain ⟨b1, d1, _⟩ := (h.mem s1).1 h1
      obtain ⟨b2, d2, _⟩ := (h.mem s2).1 h2
      obtain ⟨c1, _, _⟩ := (hR2 r1).1 (List.mem_filter.1 hr1).1
      obtain ⟨c2, _, _⟩ := (hR2 r2).1 (List.mem_filter.1 hr2).1
      rw [← over_s b1 c1 d1, ← over_s b2 c2 d2, e]
  · rw [mem_joinL]
    constructor
    · rintro ⟨s, hs, r, hr, hkey, rfl⟩
      obtain ⟨hbs, hds, hqs⟩ := (h.mem s).1 hs
      obtain ⟨hbr, hdr, hfr⟩ := (hR2 r).1 hr
      have hag := agree_of hbs hbr hds hdr hkey
      have hbo := over_ok hbs hbr
      have hdo := over_dom hds hdr
      refine ⟨hbo, hdo, fun q' hq => ?_⟩
      rcases List.mem_cons.1 hq with rfl | hq
      · rw [holds_yes hk (headOk_dom hbo ht hdo hsu)]
        have e : q'.1.2.2.map (termVal (over s r)) = q'.1.2.2.map (termVal r) := map_same ht fun v hv hm => by
          have := congrArg (fun x => x.getD v (-1)) (over_r hbs hbr hdr hag)
          simp only [restr_at hv] at this
          rw [hM, if_pos hm] at this
          exact this
        rw [e]
        exact hfr
      · rw [holdsQ_same hbo hbs (h.terms q' hq) fun v hv hm => ?_]
        · exact hqs q' hq
        · have := congrArg (fun x => x.getD v (-1)) (over_s hbs hbr hds)
          simp only [restr_at hv] at this
          rw [if_pos (h.vars q' hq v hv hm)] at this
          exact this
    · rintro ⟨hb, hd, hq⟩
      have hdK : DomB (restr K b) K := restr_dom hd fun v _ e => by rw [Nat.testBit_or, e, Bool.true_or]
      have hdM : DomB (restr M b) M := restr_dom hd fun v _ e => by rw [Nat.testBit_or, e, Bool.or_true]
      refine ⟨restr K b, (h.mem _).2 ⟨restr_ok hb K, hdK, fun q' hq' => ?_⟩, restr M b, (hR2 _).2 ⟨restr_ok hb M, hdM, ?_⟩, ?_, over_back hb hd⟩
      · rw [holdsQ_same (restr_ok hb K) hb (h.terms q' hq') fun v hv hm => by rw [restr_at hv, if_pos (h.vars q' hq' v hv hm)]]
        exact hq q' (List.mem_cons_of_mem _ hq')
      · have e : q.1.2.2.map (termVal (restr M b)) = q.1.2.2.map (termVal b) := map_same ht fun v hv hm => by rw [restr_at hv, hM, if_pos hm]
        rw [e]
        exact (holds_yes hk (headOk_dom hb ht hd hsu)).1 (hq q List.mem_cons_self)
      · unfold keyV
        congr 1
        refine bind_ext (restr_ok (restr_ok hb M) _) (restr_ok (restr_ok hb K) _) fun v hv => ?_
        rw [restr_at hv, restr_at hv, restr_at hv, restr_at hv]
        by_cases e : (M &&& K).testBit v = true
        · rw [if_pos e, if_pos e]
          rw [Nat.testBit_and, Bool.and_eq_true] at e
          rw [if_pos e.1, if_pos e.2]
        · rw [if_neg e, if_neg e]
  · rcases List.mem_cons.1 hq with rfl | hq
    · exact hsu v hv e
    · exact hQu q' hq v hv e
  · rcases List.mem_cons.1 hq with rfl | hq
    · exact ht
    · exact h.terms q' hq

/-- A literal whose variables are all known: those solutions stay for which it holds. -/
theorem Sols.keep {K : Nat} {Q : List LQ} {S : List (List Int)} {q : LQ} (h : Sols K Q S) (ht : q.1.2.2.all termOk = true) (hv : ∀ v, v < 4 → (maskOf q.1.2.2).testBit v = true → K.testBit v = true)
    (p : List Int → Bool) (hp : ∀ b ∈ S, p b = holdsQ q b) : Sols K (q :: Q) (S.filter p) where
  nodup := List.Nodup.sublist List.filter_sublist h.nodup
  mem b := by
    rw [List.mem_filter]
    constructor
    · rintro ⟨hb, hpb⟩
      obtain ⟨h1, h2, h3⟩ := (h.mem b).1 hb
      refine ⟨h1, h2, fun q' hq => ?_⟩
      rcases List.mem_cons.1 hq with rfl | hq
      · rw [← hp b hb]; exact hpb
      · exact h3 q' hq
    · rintro ⟨h1, h2, h3⟩
      have hb := (h.mem b).2 ⟨h1, h2, fun q' hq => h3 q' (List.mem_cons_of_mem _ hq)⟩
      exact ⟨hb, by rw [hp b hb]; exact h3 q List.mem_cons_self⟩
  vars q' hq v hv' e := by
    rcases List.mem_cons.1 hq with rfl | hq
    · exact hv v hv' e
    · exact h.vars q' hq v hv' e
  terms q' hq := by
    rcases List.mem_cons.1 hq with rfl | hq
    · exact ht
    · exact h.terms q' hq

/-- A LitNo: no row agrees. -/
theorem deny_is {K : Nat} {Q : List LQ} {S R : List (List Int)} {q : LQ} (h : Sols K Q S) (hk : q.1.1 = 1) (ht : q.1.2.2.all termOk = true) (hv : ∀ v, v < 4 → (maskOf q.1.2.2).testBit v = true → K.testBit v = true)
    (hR : RowsOf q.1.2 q.2 R) : ∀ b ∈ S, (!hitW (maskOf q.1.2.2) R b) = holdsQ q b := by
  intro b hb
  obtain ⟨h1, h2, _⟩ := (h.mem b).1 hb
  have hho := holds_no hk (headOk_dom h1 ht h2 hv)
  have hhit : hitW (maskOf q.1.2.2) R b = true ↔ (q.1.2.1, q.1.2.2.map (termVal b)) ∈ q.2 := by
    have e : q.1.2.2.map (termVal (restr (maskOf q.1.2.2) b)) = q.1.2.2.map (termVal b) := map_same ht fun v hv hm => by rw [restr_at hv, if_pos hm]
    unfold hitW
    rw [List.any_eq_true]
    constructor
    · rintro ⟨t, ht', he⟩
      have he2 : encB t = encB (restr (maskOf q.1.2.2) b) := by simpa [keyV] using he
      obtain ⟨g1, g2, g3⟩ := (hR.2 t).1 ht'
      rw [encB_inj g1 (restr_ok h1 _) he2, e] at g3
      exact g3
    · intro hin
      exact ⟨restr (maskOf q.1.2.2) b, (hR.2 _).2 ⟨restr_ok h1 _, restr_dom h2 hv, by rw [e]; exact hin⟩, by simp [keyV]⟩
  cases hq : holdsQ q b
  · have : ¬ (q.1.2.1, q.1.2.2.map (termVal b)) ∉ q.2 := fun hc => by rw [hho.2 hc] at hq; cases hq
    rw [hhit.2 (Decidable.not_not.1 this)]
    rfl
  · have := hho.1 hq
    cases hh : hitW (maskOf q.1.2.2) R b
    · rfl
    · exact absurd (hhit.1 hh) this

/-- Numbers without doubles below n are at most n. -/
theorem nodup_len : ∀ (n : Nat) (l : List Nat), l.Nodup → (∀ x ∈ l, x < n) → l.length ≤ n
  | 0, l, _, h => by
    rcases l with _ | ⟨x, l⟩
    · simp
    · exact absurd (h x List.mem_cons_self) (by omega)
  | n + 1, l, hn, h => by
    have ih := nodup_len n (l.erase n) (hn.erase n) fun x hx => by
      have h1 := h x (List.mem_of_mem_erase hx)
      have h2 : x ≠ n := fun e => by
        subst e
        exact hn.not_mem_erase hx
      omega
    by_cases hm : n ∈ l
    · rw [List.length_erase_of_mem hm] at ih
      omega
    · rw [List.erase_of_not_mem hm] at ih
      omega
theorem binds_len {S : List (List Int)} (hn : S.Nodup) (h : ∀ b ∈ S, bindOk b = true) : S.length ≤ 65536 := by
  have := nodup_len 65536 (S.map encB) (by
    unfold List.Nodup
    rw [List.pairwise_map]
    exact List.Pairwise.imp_of_mem (fun {a b} ha hb hne e => hne (encB_inj (h a ha) (h b hb) e)) hn) fun x hx => by
    obtain ⟨b, hb, rfl⟩ := List.mem_map.1 hx
    exact encB_lt (h b hb)
  simpa using this

end Go.Proofs.YtokmmloakahkhaaGreat
/-
  The walk of joinRows.
-/
namespace Go.Proofs.YtokmmloakahkhaaGreat
open Go.RowKit Go.Sort Go.Shelf

theorem ColB.drewN {w wr : World} {S : List (List Int)} {A : Option Addr} {c : Nat} (h : ColB w wr S A c) (n : Nat) : ColB w (wr.drewN n) S A c := h.later (bdrewN (Below.refl _ _) n)

set_option maxHeartbeats 4000000 in
set_option maxRecDepth 100000 in
theorem joinRows_any (lo hi V : Nat) (v0 v1 : Value) (S R : List (List Int)) (w : World) (h0 : RdW w lo v0 S) (h1 : OwnW w lo hi v1 R) (hhi : hi ≤ w.heap.size) (hlo : lo ≤ w.heap.size)
    (hS : ∀ b ∈ S, bindOk b = true) (hR : ∀ b ∈ R, bindOk b = true) (hag : ∀ s ∈ S, ∀ r ∈ R, keyV V r = keyV V s → ∀ u, u < 4 → s.getD u (-1) = -1 ∨ r.getD u (-1) = -1 ∨ s.getD u (-1) = r.getD u (-1))
    (hnS : S.length ≤ 65536) (hnR : R.length ≤ 65536) :
    Calls Tryz.prog 207 #[v0, v1, .int .u32 ((maskW V : Nat) : Int)] w fun e w' =>
      ∃ A c R', R'.Perm R ∧ e = .returned (.slice A (joinL V R' S).length c) ∧ OwnW w' w.heap.size w'.heap.size (.slice A (joinL V R' S).length c) (joinL V R' S) ∧ Only lo hi w w' := by
  obtain ⟨i0, hi0, hz0, hz1, hz2⟩ := info_parts Tryz.infoWord
  have H0 := Lib.hid h0
  have HS := Lib.hid hS
  have HR := Lib.hid hR
  have HAG := Lib.hid hag
  obtain ⟨A0, c0, rfl, hc0, _⟩ := h0
  obtain ⟨A1, c1, rfl⟩ := h1.form
  obtain ⟨N, hN⟩ : ∃ N, N = R.length := ⟨_, rfl⟩
  rw [← hN] at h1 hnR ⊢
  have H1 := Lib.hid h1
  have HN := Lib.hid hN
  clear hS hR hag h1 hN
  go_enter Tryz.func207, Tryz.ntmps207
  obtain ⟨w1, hw1⟩ : ∃ w1, w1 = w.alloc (Obj.cells #[Value.int IntKind.u32 ((maskW V : Nat) : Int)] 94) := ⟨_, rfl⟩
  have B1 : Below w.heap.size w w1 := by rw [hw1]; exact below1 _ _
  have X1 : Blk w1 w.heap.size 94 #[.int .u32 ((maskW V : Nat) : Int)] := by rw [hw1]; exact Blk.new _ _ _
  have Z1 : w1.heap.size = w.heap.size + 1 := by rw [hw1]; simp
  have HSF := Lib.hid (sortF_words lo hi w.heap.size V (.slice A1 N c1) R w1 (H1.out.below B1 hhi) HR.out (by rw [← HN.out]; omega) (.inr hhi) (X1.cell 0))
  rw [hw1] at HSF
  have HW1 := Lib.hid hw1
  clear hw1
  go_upto_region 3 with (go_at_call 220; refine HSF.out.mono ?_; rintro e w2 ⟨rfl, R', hp, hup, own2, only2⟩)
  rw [← HW1.out] at only2
  have HL' := Lib.hid (show R'.length = N by rw [HN.out]; exact hp.length_eq)
  have hz : w1.heap.size ≤ w2.heap.size := only2.size
  have X2 : Blk w2 w.heap.size 94 #[.int .u32 ((maskW V : Nat) : Int)] := X1.only only2 (.inr hhi)
  have R0 : RdW w2 lo (.slice A0 S.length c0) S := by
    have := H0.out.below B1 hlo
    exact this.below (only2.below (Nat.le_refl _) (Nat.le_trans hlo B1.size)) (Nat.le_refl _)
  have HX2 := Lib.hid X2
  have HR0 := Lib.hid (R0.more (show lo ≤ w2.heap.size by omega))
  have HO2 := Lib.hid (own2.rd.more (show hi ≤ w2.heap.size by omega))
  have HUP := Lib.hid hup
  have HP := Lib.hid hp
  have HRR := Lib.hid (fun r (hr : r ∈ R') => HR.out r (hp.mem_iff.1 hr))
  have HON := Lib.hid (show Only lo hi w w2 from ⟨only2.os.trans B1.os, only2.tape.trans B1.tape, only2.output.trans B1.output, by omega, fun k hk ho => (only2.block k (by omega) ho).trans (B1.block k hk)⟩)
  clear X2 R0 own2 only2 hup hp HSF HW1 X1 B1
  go_wp2_with fail
  go_loopg [8, 19] S.length (fun q vo vi wr => ∃ (k : Nat) (A : Option Addr) (c : Nat), vi = .int .i64 k ∧ k ≤ S.length ∧ q = S.length - k ∧ vo = .slice A (joinL V R' (S.take k)).length c ∧ ColB w2 wr (joinL V R' (S.take k)) A c)
  case atStart => exact ⟨0, none, 0, rfl, Nat.zero_le _, rfl, rfl, ColB.nil (Below.refl _ _)⟩
  case round =>
    obtain ⟨k, A, c, rfl, hk, hq, rfl, hcol⟩ := hrel
    have HC := Lib.hid hcol
    have hB := hcol.below
    have q0 : wr.cell? ⟨w.heap.size, 0, none⟩ = some (.int .u32 ((maskW V : Nat) : Int)) := (HX2.out.below hB HX2.out.lt).cell 0
    have HBW := Lib.hid hB
    clear hcol hB
    by_cases hlt : k < S.length
    · obtain ⟨b0, o0, rfl, hb0, k0⟩ := (HR0.out.on HBW.out).get hlt
      have hsk : S[k] ∈ S := List.getElem_mem hlt
      have HSE := Lib.hid (searchF_words (.slice A1 N c1) R' S[k] w.heap.size V wr (HO2.out.on HBW.out) HRR.out (HS.out _ hsk) HUP.out (by rw [HL'.out]; omega) q0)
      have HSO := Lib.hid (HS.out _ hsk)
      have HJT := Lib.hid (joinL_take (V := V) (R := R') hlt)
      have HJL := Lib.hid (joinL_len V R' (S.take k))
      obtain ⟨s, hs⟩ : ∃ s, s = S[k] := ⟨_, rfl⟩
      rw [← hs] at k0 HSE HSO HJT
      have HSK := Lib.hid (show s ∈ S by rw [hs]; exact hsk)
      clear hs hsk
      go_upto_region 8 with (go_at_call 221; refine HSE.out.mono ?_; rintro e w3 ⟨⟨p, ok, rfl, hpn, hl, hf⟩, rfl⟩; rw [HL'.out] at hpn; have HLF := Lib.hid (And.intro hl hf); clear hl hf)
      obtain ⟨T0, hT0⟩ : ∃ T0, T0 = joinL V R' (S.take k) := ⟨_, rfl⟩
      rw [← hT0] at HC HJT HJL ⊢
      have hT0l : T0.length ≤ 4294967296 := by
        have h1 := HJL.out
        have h2 : (S.take k).length * R'.length ≤ 65536 * 65536 := Nat.mul_le_mul (by simp; omega) (by rw [HL'.out]; exact hnR)
        omega
      have HQ := Lib.hid hq
      clear hT0 k0 hq HSE q0
      go_loopg [8, 11] N (fun q vo vi wx => ∃ (t : Nat) (T : List (List Int)) (A : Option Addr) (c : Nat), vi = .int .i64 t ∧ p ≤ t ∧ t ≤ N ∧ N - t ≤ q ∧ vo = .slice A T.length c ∧ ColB w2 wx T A c ∧ Hid (T = T0 ++ ((R'.drop p).take (t - p)).map (over s) ∧ ∀ j (h : j < R'.length), p ≤ j → j < t → keyV V R'[j] = keyV V s))
      case atStart => exact ⟨p, T0, A, c, rfl, Nat.le_refl _, hpn, by omega, rfl, HC.out, by simp, fun j _ h1 h2 => absurd h1 (by omega)⟩
      case round =>
        obtain ⟨t, T, A2, c2, rfl, hpt, htN, hgk2, rfl, hcol2, HT⟩ := hrel
        have HC2 := Lib.hid hcol2
        have HB2 := Lib.hid hcol2.below
        have q0 : wr.cell? ⟨w.heap.size, 0, none⟩ = some (.int .u32 ((maskW V : Nat) : Int)) := (HX2.out.below HB2.out HX2.out.lt).cell 0
        clear hcol2
        by_cases htl : t < N
        · have htR : t < R'.length := by have := HL'.out; omega
          obtain ⟨b1, o1, rfl, hb1, k1⟩ := (HO2.out.on HB2.out).get htR
          have hrR : R'[t] ∈ R' := List.getElem_mem htR
          have HRO := Lib.hid (HRR.out _ hrR)
          have HAG2 := Lib.hid (HAG.out s HSK.out R'[t] (HP.out.mem_iff.1 hrR))
          have HTK := Lib.hid (show ((R'.drop p).take (t + 1 - p)) = ((R'.drop p).take (t - p)) ++ [R'[t]] by
            rw [show t + 1 - p = (t - p) + 1 by omega, take_snoc (R'.drop p) (t - p) (by simp; omega)]
            congr 2
            simp
            congr 1
            omega)
          obtain ⟨r, hr⟩ : ∃ r, r = R'[t] := ⟨_, rfl⟩
          have HRT := Lib.hid hr
          rw [← hr] at k1 HRO HAG2 HTK
          clear hr hrR
          have e1 : bits .and .u32 ((encB r : Nat) : Int) ((maskW V : Nat) : Int) = ((keyV V r : Nat) : Int) := by rw [and_word32 (encB_lt HRO.out) (maskW_lt V), enc_restr HRO.out]; rfl
          have e2 : bits .and .u32 ((encB s : Nat) : Int) ((maskW V : Nat) : Int) = ((keyV V s : Nat) : Int) := by rw [and_word32 (encB_lt HSO.out) (maskW_lt V), enc_restr HSO.out]; rfl
          by_cases he : keyV V r = keyV V s
          · have he2 : (((keyV V r : Nat) : Int) == ((keyV V s : Nat) : Int)) = true := by simp [he]
            have e3 : bits .or .u32 ((encB s : Nat) : Int) ((encB r : Nat) : Int) = ((encB (over s r) : Nat) : Int) := by rw [or_word32 (encB_lt HSO.out) (encB_lt HRO.out), enc_over HSO.out HRO.out (HAG2.out he)]
            have HE := Lib.hid he
            have hTl : T.length ≤ T0.length + N := by
              rw [HT.out.1, List.length_append, List.length_map]
              have : ((R'.drop p).take (t - p)).length ≤ N := by rw [List.length_take, List.length_drop, HL'.out]; omega
              omega
            clear he
            go_wp2_with fail
            go_big_quiet (fail)
            go_wp2_with (at_builtin; refine wpList_append_lies _ rfl (.tmp 48) (.tmp 55) 73 rfl w2.heap.size 94 i0 (.int .u32 0) 1 4 Tryz.underlying73 hi0 hz0 hz1 hz2 rfl (by decide) (.slice A2 T.length c2) T.length (T.map wd) rfl ?c1 ⟨_, 0, none⟩ 1 1 [wd (over s r)] rfl rfl (news1s _ _ _ _ (by simp)) ?c2 (by omega) (by unfold maxLen; omega) (by omega) ?c3 _ rfl ?_)
            case c1 => exact (HC2.out.drewN nq).own.1.alloc _
            case c2 => intro u hu; simp at hu; subst hu; rfl
            case c3 => have := HB2.out.size; simp; omega
            intro g cap w4 hown hg _ _
            have hcolN := (HC2.out.drewN nq).push (Below.refl _ _) hg hown
            have HCN := Lib.hid hcolN
            have hlen : T.length + 1 = (T ++ [over s r]).length := by simp
            rw [hlen]
            clear hcolN hown hg hlen
            go_wp2_with fail
            go_roundg (N - (t + 1))
            case measure => omega
            case rel => exact ⟨t + 1, T ++ [over s r], _, _, by go_num, by omega, by omega, Nat.le_refl _, rfl, HCN.out, by rw [HTK.out, List.map_append, ← List.append_assoc, ← HT.out.1]; rfl, fun j h h1 h2 => by
              by_cases ej : j = t
              · subst ej
                rw [← HRT.out]
                exact HE.out
              · exact HT.out.2 j h h1 (by omega)⟩
          · have he2 : (((keyV V r : Nat) : Int) == ((keyV V s : Nat) : Int)) = false := by simp; omega
            have HFIN := Lib.hid (show joinL V R' (S.take (k + 1)) = T by
              rw [HJT.out, HT.out.1, run_all HUP.out hpt (by omega) HLF.out.1 HLF.out.2 HT.out.2 (fun _ => by rw [← HRT.out]; exact he)])
            clear he
            go_wp2_with fail
            go_big_quiet (fail)
            go_wp2_with fail
            go_roundg (S.length - (k + 1))
            case measure => (have := HQ.out; omega)
            case rel => exact ⟨k + 1, _, _, by go_num, by omega, rfl, by rw [HFIN.out], by rw [HFIN.out]; exact HC2.out.drewN nq⟩
        · have HFIN := Lib.hid (show joinL V R' (S.take (k + 1)) = T by
            rw [HJT.out, HT.out.1, run_all HUP.out hpt (by have := HL'.out; omega) HLF.out.1 HLF.out.2 HT.out.2 (fun h => absurd h (by have := HL'.out; omega))])
          have htlz : decide ((t : Int) < (N : Int)) = false := decide_eq_false (by omega)
          go_wp2_with fail
          go_big_quiet (fail)
          go_wp2_with fail
          go_roundg (S.length - (k + 1))
          case measure => (have := HQ.out; omega)
          case rel => exact ⟨k + 1, _, _, by go_num, by omega, rfl, by rw [HFIN.out], by rw [HFIN.out]; exact HC2.out.drewN nq⟩
    · have HFIN := Lib.hid (show S.take k = S from List.take_of_length_le (by omega))
      have HF2 := Lib.hid (show Only lo hi w wr from HON.out.trans (Only.of_below HBW.out))
      go_wp2_with fail
      go_ret
      refine ⟨A, c, R', HP.out, ?_, ?_, HF2.out⟩
      · rw [HFIN.out]
        rfl
      · have := HC.out.own
        rw [HFIN.out] at this
        exact this.mono (by omega) (Nat.le_refl _)

end Go.Proofs.YtokmmloakahkhaaGreat
/-
  The walk of question.ask: one more literal is asked.
-/
namespace Go.Proofs.YtokmmloakahkhaaGreat
open Go.RowKit

theorem maskW_and (V M : Nat) : maskW V &&& maskW M = maskW (V &&& M) := by
  have key : ∀ a b : Bool, bit15 a &&& bit15 b = bit15 (a && b) := by decide
  unfold maskW
  rw [nib_and (bit15_lt _) (bit15_lt _), nib_and (bit15_lt _) (bit15_lt _), nib_and (bit15_lt _) (bit15_lt _), key, key, key, key, Nat.testBit_and, Nat.testBit_and, Nat.testBit_and, Nat.testBit_and]

theorem or_same {K M : Nat} (_hK : K < 16) (hM : M < 16) (h : ∀ v, v < 4 → M.testBit v = true → K.testBit v = true) : K ||| M = K := by
  apply Nat.eq_of_testBit_eq
  intro i
  rw [Nat.testBit_or]
  by_cases hi : i < 4
  · cases hm : M.testBit i
    · rw [Bool.or_false]
    · rw [h i hi hm]; rfl
  · have : M < 2 ^ i := Nat.lt_of_lt_of_le hM (by
      have := Nat.pow_le_pow_right (n := 2) (by decide) (show 4 ≤ i by omega)
      simpa using this)
    rw [Nat.testBit_lt_two_pow this, Bool.or_false]

/-- The cells of a question. -/
def RdQC (w : World) (B : Nat) (u0 u1 u2 u3 : Value) (q : LQ) : Prop := u0 = .int .i64 q.1.1 ∧ u1 = .int .i64 q.1.2.1 ∧ RdInts w B u2 q.1.2.2 ∧ RdFacts w B u3 q.2
/-- What is asked of a question. -/
structure QOk (q : LQ) : Prop where
  kind : q.1.1 = 0 ∨ q.1.1 = 1 ∨ q.1.1 = 2 ∨ q.1.1 = 3
  terms : q.1.2.2.all termOk = true
  consts : ∀ f ∈ q.2, f.2.all constOk = true
  args : q.1.2.2.length ≤ 1048576
  len : q.2.length ≤ 1048576
  tot : tot q.2 ≤ 1048576

set_option maxHeartbeats 4000000 in
set_option maxRecDepth 100000 in
theorem ask_any (lo hi K : Nat) (u0 u1 u2 u3 v : Value) (q : LQ) (Q : List LQ) (S : List (List Int)) (w : World) (hq : RdQC w lo u0 u1 u2 u3 q) (hok : QOk q) (hs : OwnW w lo hi v S) (hhi : hi ≤ w.heap.size) (hlo : lo ≤ hi) (hS : Sols K Q S) (hne : S ≠ []) (hK : K < 16)
    (hv : q.1.1 ≠ 0 → ∀ v, v < 4 → (maskOf q.1.2.2).testBit v = true → K.testBit v = true) :
    Calls Tryz.prog 171 #[.agg #[u0, u1, u2, u3], v, .int .u64 (K : Nat)] w fun e w' =>
      ∃ A c S', e = .returned (.slice A S'.length c) ∧ OwnW w' lo w'.heap.size (.slice A S'.length c) S' ∧ Only lo hi w w' ∧ Sols (K ||| maskOf q.1.2.2) (q :: Q) S' := by
  obtain ⟨rfl, rfl, hu2, hu3⟩ := hq
  have H2 := Lib.hid (hu2.more (show lo ≤ w.heap.size by omega))
  have H3 := Lib.hid (hu3.more (show lo ≤ w.heap.size by omega))
  have HL := Lib.hid hu2
  have HOK := Lib.hid hok
  have HS := Lib.hid hS
  have HOW := Lib.hid hs
  obtain ⟨A2, c2, rfl, hc2, _⟩ := hu2
  obtain ⟨A3, c3, rfl, hc3, _⟩ := hu3
  have hSok : ∀ b ∈ S, bindOk b = true := fun b hb => ((hS.mem b).1 hb).1
  have HSO := Lib.hid hSok
  have hnS := binds_len hS.nodup hSok
  have hkd := hok.kind
  obtain ⟨A0, c0, rfl⟩ := hs.form
  obtain ⟨w1, hw1⟩ : ∃ w1, w1 = w.alloc (Obj.cells #[Value.int IntKind.i64 q.1.1, Value.int IntKind.i64 q.1.2.1, Value.slice A2 q.1.2.2.length c2, Value.slice A3 q.2.length c3] 171) := ⟨_, rfl⟩
  have B1 : Below w.heap.size w w1 := by rw [hw1]; exact below1 _ _
  have X1 : Blk w1 w.heap.size 171 #[.int .i64 q.1.1, .int .i64 q.1.2.1, .slice A2 q.1.2.2.length c2, .slice A3 q.2.length c3] := by rw [hw1]; exact Blk.new _ _ _
  have Z1 : w1.heap.size = w.heap.size + 1 := by rw [hw1]; simp
  have HAV := Lib.hid (argVars_any (.slice A2 q.1.2.2.length c2) q.1.2.2 w1.heap.size w1 (H2.out.on B1) hok.args)
  have hM := maskOf_lt q.1.2.2
  have HBM := Lib.hid (fun W => bindingMask_any (maskOf q.1.2.2) hM W)
  have HBK := Lib.hid (fun W => bindingMask_any K hK W)
  have HAR := Lib.hid (atomRows_any (.slice A3 q.2.length c3) (.agg #[.int .i64 q.1.2.1, .slice A2 q.1.2.2.length c2]) q.2 q.1.2 w1 (H3.out.on B1) ⟨_, rfl, H2.out.on B1⟩ hok.terms hok.consts hok.len hok.tot hok.args)
  have HX := Lib.hid (And.intro B1 X1)
  have q0 : w1.cell? ⟨w.heap.size, 0, none⟩ = some (.int .i64 q.1.1) := X1.cell 0
  have q1 : w1.cell? ⟨w.heap.size, 1, none⟩ = some (.int .i64 q.1.2.1) := X1.cell 1
  have q2 : w1.cell? ⟨w.heap.size, 2, none⟩ = some (.slice A2 q.1.2.2.length c2) := X1.cell 2
  have q3 : w1.cell? ⟨w.heap.size, 3, none⟩ = some (.slice A3 q.2.length c3) := X1.cell 3
  have hlt1 : w.heap.size < w1.heap.size := by omega
  have hand : bits .and .u32 ((maskW (maskOf q.1.2.2) : Nat) : Int) ((maskW K : Nat) : Int) = ((maskW (maskOf q.1.2.2 &&& K) : Nat) : Int) := by rw [and_word32 (maskW_lt _) (maskW_lt _), maskW_and]
  have HV := Lib.hid hv
  clear hs hS hok hv X1 B1 hSok
  rw [hw1] at HAV HAR q0 q1 q2 q3
  have HW1 := Lib.hid hw1
  clear hw1
  rcases hkd with hk | hk | hk | hk
  · rw [hk] at HAV HAR HX HW1 q0 q1 q2 q3 ⊢
    have HK := Lib.hid hk
    clear hk
    go_enter Tryz.func171, Tryz.ntmps171
    go_upto_region 4 with (first
      | (go_at_call 91; refine HAV.out.mono ?_; rintro e w' ⟨rfl, rfl⟩)
      | (go_at_call 197; refine (HBM.out _).mono ?_; rintro e w' ⟨rfl, rfl⟩))
    go_wp2_with (first
      | (go_at_call 197; refine (HBK.out _).mono ?_; rintro e w' ⟨rfl, rfl⟩)
      | (go_at_call 164; refine HAR.out.mono ?_; rintro e w2 ⟨A4, c4, R, rfl, ownR, hb2, hup, hmem⟩
         rw [← HW1.out] at ownR hb2
         have HB2 := Lib.hid hb2
         have HRO := Lib.hid (rowsOf_of HOK.out.terms HOK.out.consts hup hmem)
         have hRok : ∀ b ∈ R, bindOk b = true := fun b hb => ((HRO.out.2 b).1 hb).1
         have HJ := Lib.hid (joinRows_any w1.heap.size w2.heap.size (maskOf q.1.2.2 &&& K) (.slice A0 S.length c0) (.slice A4 R.length c4) S R w2 ((HOW.out.rd.below (bthen HX.out.1 hb2) hhi).more (by omega)) ownR (Nat.le_refl _) hb2.size HSO.out hRok
           (fun s hs r hr hkey => agree_of (HSO.out s hs) (hRok r hr) ((HS.out.mem s).1 hs).2.1 ((HRO.out.2 r).1 hr).2.1 hkey) hnS (binds_len HRO.out.1 hRok))
         clear ownR hb2 hup hmem hRok)
      | (go_at_call 207; refine HJ.out.mono ?_; rintro e w3 ⟨A5, c5, R', hp, rfl, own5, only5⟩
         have H5 := Lib.hid (And.intro hp (And.intro own5 only5)); clear hp own5 only5))
    go_ret
    obtain ⟨hp, own5, only5⟩ := H5.out
    have hz2 := HB2.out.size
    refine ⟨_, _, _, rfl, own5.mono (by omega) (Nat.le_refl _), Only.of_below (Only.then_ (bthen HX.out.1 HB2.out) only5 (by omega)), HS.out.yes HK.out HOK.out.terms (HRO.out.perm hp)⟩
  · rw [hk] at HAV HAR HX HW1 q0 q1 q2 q3 ⊢
    have HK := Lib.hid hk
    clear hk
    go_enter Tryz.func171, Tryz.ntmps171
    go_upto_region 6 with (first
      | (go_at_call 91; refine HAV.out.mono ?_; rintro e w' ⟨rfl, rfl⟩)
      | (go_at_call 197; refine (HBM.out _).mono ?_; rintro e w' ⟨rfl, rfl⟩))
    go_wp2_with (first
      | (go_at_call 164; refine HAR.out.mono ?_; rintro e w2 ⟨A4, c4, R, rfl, ownR, hb2, hup, hmem⟩
         rw [← HW1.out] at ownR hb2
         have HB2 := Lib.hid hb2
         have HRO := Lib.hid (rowsOf_of HOK.out.terms HOK.out.consts hup hmem)
         have hRok : ∀ b ∈ R, bindOk b = true := fun b hb => ((HRO.out.2 b).1 hb).1
         have hnR := binds_len HRO.out.1 hRok
         have HJ := Lib.hid (denyRows_any lo hi (maskOf q.1.2.2) (.slice A0 S.length c0) (.slice A4 R.length c4) S R w2 (HOW.out.below (bthen HX.out.1 hb2) hhi) w1.heap.size w2.heap.size ownR (by omega) (Nat.le_refl _) (by have := hb2.size; omega) HSO.out hne hup (by omega) (by omega))
         clear ownR hb2 hup hmem hRok hnR)
      | (go_at_call 208; refine HJ.out.mono ?_; rintro e w3 ⟨A5, c5, rfl, own5, only5⟩
         have H5 := Lib.hid (And.intro own5 only5); clear own5 only5))
    go_ret
    obtain ⟨own5, only5⟩ := H5.out
    have hz2 := HB2.out.size
    have hv := HV.out (by rw [HK.out]; decide)
    refine ⟨_, _, _, rfl, own5.mono (Nat.le_refl _) (by have := only5.size; omega), (Only.of_below (bthen HX.out.1 HB2.out)).trans only5, ?_⟩
    rw [or_same hK hM hv]
    exact HS.out.keep HOK.out.terms hv _ (deny_is HS.out HK.out HOK.out.terms hv HRO.out)
  all_goals
    have hv := HV.out (by rw [hk]; decide)
    have HJ := Lib.hid (compareTerms_any lo hi (.slice A0 S.length c0) (.agg #[.int .i64 q.1.1, .int .i64 q.1.2.1, .slice A2 q.1.2.2.length c2]) S q.1 w1 (HOW.out.below HX.out.1 hhi) (by omega) ⟨_, rfl, HL.out.below HX.out.1 (by omega)⟩ (by omega) (by omega) HOK.out.terms HSO.out hne (by omega) HOK.out.args _ rfl)
    have HK := Lib.hid hk
    rw [HW1.out] at HJ
    rw [hk] at HAV HAR HX HW1 HJ q0 q1 q2 q3 ⊢
    clear hk
    go_enter Tryz.func171, Tryz.ntmps171
    go_upto_region 7 with (first
      | (go_at_call 91; refine HAV.out.mono ?_; rintro e w' ⟨rfl, rfl⟩)
      | (go_at_call 197; refine (HBM.out _).mono ?_; rintro e w' ⟨rfl, rfl⟩))
    go_wp2_with (go_at_call 209; refine HJ.out.mono ?_; rintro e w3 ⟨A5, c5, rfl, own5, only5⟩; rw [← HW1.out] at only5; have H5 := Lib.hid (And.intro own5 only5); clear own5 only5)
    go_ret
    obtain ⟨own5, only5⟩ := H5.out
    refine ⟨_, _, _, rfl, own5.mono (Nat.le_refl _) (by have := only5.size; omega), (Only.of_below HX.out.1).trans only5, ?_⟩
    rw [or_same hK hM hv]
    refine HS.out.keep HOK.out.terms hv _ fun b _ => ?_
    unfold holdsQ litHolds
    rw [if_pos (by have := HK.out; omega)]
    simp only [HK.out, List.getD_eq_getElem?_getD]

end Go.Proofs.YtokmmloakahkhaaGreat
/-
  Rows of questions: four cells each; slices.Delete of one of them.
-/
namespace Go.Proofs.YtokmmloakahkhaaGreat
open Go.RowKit

abbrev QV := Value × Value × Value × Value
def flatQ : List QV → List Value
  | [] => []
  | u :: us => u.1 :: u.2.1 :: u.2.2.1 :: u.2.2.2 :: flatQ us
theorem flatQ_length : ∀ us : List QV, (flatQ us).length = us.length * 4
  | [] => rfl
  | u :: us => by simp only [flatQ, List.length_cons, flatQ_length us]; omega
theorem flatQ_append : ∀ us vs : List QV, flatQ (us ++ vs) = flatQ us ++ flatQ vs
  | [], vs => rfl
  | u :: us, vs => by simp only [List.cons_append, flatQ, flatQ_append us vs]
theorem flatQ_at : ∀ (us : List QV) (k : Nat) (h : k < us.length), (flatQ us)[k * 4]? = some us[k].1 ∧ (flatQ us)[k * 4 + 1]? = some us[k].2.1 ∧ (flatQ us)[k * 4 + 2]? = some us[k].2.2.1 ∧ (flatQ us)[k * 4 + 3]? = some us[k].2.2.2
  | u :: us, 0, _ => ⟨rfl, rfl, rfl, rfl⟩
  | u :: us, k + 1, h => by
    have ih := flatQ_at us k (by simpa using h)
    have e : ∀ r, (flatQ (u :: us))[(k + 1) * 4 + r]? = (flatQ us)[k * 4 + r]? := fun r => by
      rw [show (k + 1) * 4 + r = (k * 4 + r) + 1 + 1 + 1 + 1 by omega]
      rfl
    have e0 := e 0
    rw [Nat.add_zero, Nat.add_zero] at e0
    rw [e0, e 1, e 2, e 3]
    exact ih
theorem flatQ_take : ∀ (us : List QV) (i : Nat), flatQ (us.take i) = (flatQ us).take (i * 4)
  | [], i => by simp [flatQ]
  | u :: us, 0 => by simp [flatQ]
  | u :: us, i + 1 => by
    rw [show (i + 1) * 4 = i * 4 + 1 + 1 + 1 + 1 by omega]
    simp only [List.take_succ_cons, flatQ, flatQ_take us i]
theorem flatQ_drop : ∀ (us : List QV) (i : Nat), flatQ (us.drop i) = (flatQ us).drop (i * 4)
  | [], i => by simp [flatQ]
  | u :: us, 0 => by simp
  | u :: us, i + 1 => by
    rw [show (i + 1) * 4 = i * 4 + 1 + 1 + 1 + 1 by omega]
    simp only [List.drop_succ_cons, flatQ, flatQ_drop us i]

/-- The questions' cells stand at the head of block g. -/
def AtQ (w : World) (g c : Nat) (us : List QV) : Prop :=
  ∃ cur, w.heap[g]? = some (.cells cur 171 (0, 0)) ∧ us.length ≤ c ∧ c ≤ maxLen ∧ cur.size = c * 4 ∧ cur.toList.take (us.length * 4) = flatQ us
def RdQs (w : World) (B : Nat) (us : List QV) (qs : List LQ) : Prop := us.length = qs.length ∧ ∀ k (h : k < us.length) (h2 : k < qs.length), RdQC w B us[k].1 us[k].2.1 us[k].2.2.1 us[k].2.2.2 qs[k]

section
variable {w w' : World} {g c lo hi B : Nat} {us : List QV} {qs : List LQ}
theorem AtQ.lt (h : AtQ w g c us) : g < w.heap.size := by
  obtain ⟨cur, hg, _⟩ := h
  exact Blk.lt hg
theorem AtQ.cell (h : AtQ w g c us) {j : Nat} (hj : j < us.length * 4) : w.cell? ⟨g, j, none⟩ = (flatQ us)[j]? := by
  obtain ⟨cur, hg, h1, h2, h3, h4⟩ := h
  rw [Blk.cell hg, ← h4, List.getElem?_take_of_lt hj, Array.getElem?_toList]
theorem AtQ.frozen (h : AtQ w g c us) (j : Nat) : w.frozen? ⟨g, j, none⟩ = false := by
  obtain ⟨cur, hg, _⟩ := h
  exact Blk.frozen hg j
theorem AtQ.cells (h : AtQ w g c us) {k : Nat} (hk : k < us.length) : w.cell? ⟨g, k * 4, none⟩ = some us[k].1 ∧ w.cell? ⟨g, k * 4 + 1, none⟩ = some us[k].2.1 ∧ w.cell? ⟨g, k * 4 + 2, none⟩ = some us[k].2.2.1 ∧ w.cell? ⟨g, k * 4 + 3, none⟩ = some us[k].2.2.2 := by
  obtain ⟨a, b, d, e⟩ := flatQ_at us k hk
  exact ⟨by rw [h.cell (by omega), a], by rw [h.cell (by omega), b], by rw [h.cell (by omega), d], by rw [h.cell (by omega), e]⟩
theorem AtQ.only (h : AtQ w g c us) (ho : Only lo hi w w') (hd : g < lo ∨ hi ≤ g) : AtQ w' g c us := by
  obtain ⟨cur, hg, r⟩ := h
  exact ⟨cur, (ho.block g (Blk.lt hg) hd).trans hg, r⟩
theorem AtQ.below (h : AtQ w g c us) (hb : Below B w w') (hg : g < B) : AtQ w' g c us := by
  obtain ⟨cur, e, r⟩ := h
  exact ⟨cur, (hb.block g hg).trans e, r⟩
theorem RdQs.below {B' : Nat} (h : RdQs w B us qs) (hb : Below B' w w') (hB : B ≤ B') : RdQs w' B us qs := ⟨h.1, fun k h1 h2 => by
  obtain ⟨a, b, d, e⟩ := h.2 k h1 h2
  exact ⟨a, b, d.below hb hB, e.below hb hB⟩⟩
end

theorem setCells_all (g : Nat) : ∀ (vs : List Value) (o : Nat) (w : World) (cur : Array Value) (t : TypeId), w.heap[g]? = some (.cells cur t (0, 0)) → o + vs.length ≤ cur.size →
    ∃ cur', (w.setCells g o vs).heap[g]? = some (.cells cur' t (0, 0)) ∧ cur'.size = cur.size ∧ (∀ j, cur'[j]? = if o ≤ j ∧ j < o + vs.length then vs[j - o]? else cur[j]?) ∧ Only g (g + 1) w (w.setCells g o vs)
  | [], o, w, cur, t, h, _ => ⟨cur, h, rfl, fun j => by rw [if_neg (by simp only [List.length_nil]; omega)], Only.refl _ _ _⟩
  | v :: vs, o, w, cur, t, h, hs => by
    simp only [List.length_cons] at hs
    obtain ⟨cur', h1, h2, h3, h4⟩ := setCells_all g vs (o + 1) (w.setCell ⟨g, o, none⟩ v) _ t (Blk.set_ (show Blk w g t cur from h) o v) (by simp; omega)
    refine ⟨cur', h1, by simpa using h2, fun j => ?_, (Only.setCell (p := ⟨g, o, none⟩) (Only.refl g (g + 1) w) ⟨Nat.le_refl g, Nat.lt_succ_self g⟩ v).trans h4⟩
    rw [h3 j, Array.getElem?_setIfInBounds]
    by_cases e : o = j
    · subst e
      rw [if_neg (by omega), if_pos rfl, if_pos (by omega), if_pos (by simp)]
      simp
    · by_cases e2 : o + 1 ≤ j ∧ j < o + 1 + vs.length
      · rw [if_pos e2, if_pos (by simp; omega)]
        rw [show j - o = (j - (o + 1)) + 1 by omega]
        simp
      · rw [if_neg e2, if_neg e, if_neg (by simp; omega)]

theorem Tryz.infoQuestion : (Tryz.prog.info? 171).map (fun i => (i.zero, i.size, i.bytes)) = some (some (.agg #[.int .i64 0, .int .i64 0, .slice none 0 0, .slice none 0 0]), 4, 64) := by kernel_rfl

theorem AtQ.past {w : World} {g c o : Nat} {us : List QV} {vs : List Value} (h : AtQ w g c us) (ho : us.length * 4 ≤ o) (hl : o + vs.length ≤ c * 4) : AtQ (w.setCells g o vs) g c us ∧ Only g (g + 1) w (w.setCells g o vs) := by
  obtain ⟨cur, hg, h1, h2, h3, h4⟩ := h
  obtain ⟨cur', g1, g2, g3, g4⟩ := setCells_all g vs o w cur _ hg (by omega)
  refine ⟨⟨cur', g1, h1, h2, by omega, ?_⟩, g4⟩
  rw [← h4]
  apply List.ext_getElem?
  intro j
  rw [List.getElem?_take, List.getElem?_take]
  split
  · rw [Array.getElem?_toList, Array.getElem?_toList, g3 j, if_neg (by omega)]
  · rfl
theorem AtQ.deleted {w : World} {g c i : Nat} {us : List QV} (h : AtQ w g c us) (hi : i < us.length) : AtQ (w.setCells g (i * 4) ((flatQ us).drop ((i + 1) * 4))) g c (us.eraseIdx i) ∧ Only g (g + 1) w (w.setCells g (i * 4) ((flatQ us).drop ((i + 1) * 4))) := by
  obtain ⟨cur, hg, h1, h2, h3, h4⟩ := h
  have hfl := flatQ_length us
  have hdl : ((flatQ us).drop ((i + 1) * 4)).length = us.length * 4 - (i + 1) * 4 := by rw [List.length_drop, hfl]
  obtain ⟨cur', g1, g2, g3, g4⟩ := setCells_all g ((flatQ us).drop ((i + 1) * 4)) (i * 4) w cur _ hg (by omega)
  have hel : (us.eraseIdx i).length = us.length - 1 := List.length_eraseIdx_of_lt hi
  refine ⟨⟨cur', g1, by omega, h2, by omega, ?_⟩, g4⟩
  rw [hel, List.eraseIdx_eq_take_drop_succ, flatQ_append, flatQ_take, flatQ_drop]
  apply List.ext_getElem?
  intro j
  by_cases hj : j < (us.length - 1) * 4
  · rw [List.getElem?_take_of_lt hj, Array.getElem?_toList, g3 j]
    by_cases h5 : j < i * 4
    · rw [if_neg (by omega), List.getElem?_append_left (by rw [List.length_take, hfl]; omega), List.getElem?_take_of_lt h5, ← h4, List.getElem?_take_of_lt (by omega), Array.getElem?_toList]
    · rw [if_pos (by omega), List.getElem?_append_right (by rw [List.length_take, hfl]; omega), List.length_take, hfl]
      congr 1
      omega
  · rw [List.getElem?_eq_none (by simp; omega), List.getElem?_eq_none (by simp [hfl]; omega)]

/-- clear of one question. -/
theorem run_clear_q {w : World} {g k : Nat} {cur : Array Value} (hg : Blk w g 171 cur) (hk : k * 4 + 4 ≤ cur.size) (d : Nat) (ty : TypeId) :
    (Builtin.clear_ #[126] ty #[.slice (some ⟨g, k * 4, none⟩) 1 d]).run Tryz.prog w = .ok (.tuple #[]) (w.setCells g (k * 4) [.int .i64 0, .int .i64 0, .slice none 0 0, .slice none 0 0]) := by
  have hz : ∀ W, (zeroValue 171).run Tryz.prog W = .ok (.agg #[.int .i64 0, .int .i64 0, .slice none 0 0, .slice none 0 0]) W := Tryz.zeroValue171
  obtain ⟨zc, hzc⟩ : ∃ zc : List Value, zc = [.int .i64 0, .int .i64 0, .slice none 0 0, .slice none 0 0] := ⟨_, rfl⟩
  have hst := run_storeCells_cells (P := Tryz.prog) g (k * 4) zc 0 w (fun j hj => by
      have : j < 4 := by rw [hzc] at hj; exact hj
      rw [Blk.cell hg, Array.getElem?_eq_getElem (by omega)]
      rfl) (fun j _ => Blk.frozen hg _) (by rw [hzc]; intro v hv; simp at hv; rcases hv with rfl | rfl <;> rfl)
  rw [Nat.add_zero] at hst
  have hzz : (Builtin.zeroCells #[Value.int IntKind.i64 0, Value.int IntKind.i64 0, Value.slice none 0 0, Value.slice none 0 0] 1).toList = zc := by rw [hzc]; simp [Builtin.zeroCells, List.range_succ]
  rw [← hzc]
  simp only [Builtin.clear_]
  simp [run_underlying Tryz.underlying126, hz, Value.cells, hzz, hst]

set_option maxHeartbeats 4000000 in
set_option maxRecDepth 100000 in
theorem deleteQ_any (g c i m : Nat) (us : List QV) (w : World) (h : AtQ w g c us) (hm : us.length = m + 1) (hi : i ≤ m) (hn : m ≤ 1048576) (h1c : ∀ u ∈ flatQ us, u.oneCell' = true) :
    Calls Tryz.prog 172 #[.slice (some ⟨g, 0, none⟩) (m + 1 : Nat) c, .int .i64 i, .int .i64 ((i : Int) + 1)] w fun e w' =>
      e = .returned (.slice (some ⟨g, 0, none⟩) m c) ∧ AtQ w' g c (us.eraseIdx i) ∧ Only g (g + 1) w w' := by
  obtain ⟨i0, hi0, hz0, hz1, hz2⟩ := info_parts Tryz.infoQuestion
  have hcap : m + 1 ≤ c := by obtain ⟨_, _, h1, _⟩ := h; omega
  have hcm : c ≤ maxLen := by obtain ⟨_, _, _, h2, _⟩ := h; exact h2
  have hcm2 : c ≤ 9223372036854775807 := by unfold maxLen at hcm; omega
  obtain ⟨news, hnews⟩ : ∃ news, news = (flatQ us).drop ((i + 1) * 4) := ⟨_, rfl⟩
  have hfl := flatQ_length us
  have hnl : news.length = (m - i) * 4 := by rw [hnews, List.length_drop, hfl, hm]; omega
  -- where the moved questions stand
  obtain ⟨A, hA, hsrc⟩ : ∃ A : Addr, (if c = i + 1 then some (⟨g, 0, none⟩ : Addr) else some ⟨g, (i + 1) * 4, none⟩) = some A ∧ Hid (∀ t u, news[t]? = some u → w.drew.cell? (A.add t) = some u) := by
    by_cases e : c = i + 1
    · refine ⟨⟨g, 0, none⟩, by simp [e], fun t u hu => ?_⟩
      have h0 : news.length = 0 := by omega
      rw [List.length_eq_zero_iff.1 h0] at hu
      simp at hu
    · refine ⟨⟨g, (i + 1) * 4, none⟩, by simp [e], fun t u hu => ?_⟩
      have ht : t < news.length := (List.getElem?_eq_some_iff.1 hu).1
      rw [hnews, List.getElem?_drop] at hu
      rw [Go.WideShapes.add_plain]
      show w.cell? ⟨g, (i + 1) * 4 + t, none⟩ = _
      rw [h.cell (by omega), hu]
  have s2 : Hid (∀ u ∈ news, u.oneCell' = true) := fun u hu => h1c u (by rw [hnews] at hu; exact List.mem_of_mem_drop hu)
  have s3 : Hid (∀ t, t < news.length → (w.drew.cell? ⟨g, 0 + i * 4 + t, none⟩).isSome = true ∧ w.drew.frozen? ⟨g, 0 + i * 4 + t, none⟩ = false) := fun t ht => by
    rw [Nat.zero_add]
    refine ⟨?_, h.frozen _⟩
    show (w.cell? ⟨g, i * 4 + t, none⟩).isSome = true
    rw [h.cell (by omega), List.getElem?_eq_getElem (by rw [hfl]; omega)]
    rfl
  obtain ⟨W1, hW1⟩ : ∃ W1, W1 = w.drew.setCells g (0 + i * 4) news := ⟨_, rfl⟩
  have hd : AtQ W1 g c (us.eraseIdx i) ∧ Only g (g + 1) w W1 := by
    have h' : AtQ w.drew g c us := h
    have := h'.deleted (i := i) (by omega)
    rw [← hnews] at this
    rw [hW1, Nat.zero_add]
    exact ⟨this.1, (Only.of_below (bdrewN (Below.refl _ w) 1)).trans this.2⟩
  have hel : (us.eraseIdx i).length = m := by rw [List.length_eraseIdx_of_lt (by omega)]; omega
  have hcl : ∀ ty, (Builtin.clear_ #[126] ty #[.slice (some ⟨g, m * 4, none⟩) 1 (c - m)]).run Tryz.prog W1 = .ok (.tuple #[]) (W1.setCells g (m * 4) [.int .i64 0, .int .i64 0, .slice none 0 0, .slice none 0 0]) := fun ty => by
    obtain ⟨cur, hg, _, _, hs, _⟩ := hd.1
    exact run_clear_q hg (by omega) _ ty
  have HP := Lib.hid (hd.1.past (o := m * 4) (vs := [.int .i64 0, .int .i64 0, .slice none 0 0, .slice none 0 0]) (by rw [hel]; exact Nat.le_refl _) (by simp only [List.length_cons, List.length_nil]; omega))
  have HO := Lib.hid hd.2
  have hW : Hid (W1 = w.drew.setCells g (0 + i * 4) news) := hW1
  have hic : i ≤ c := by omega
  have hjc : i + 1 ≤ c := by omega
  have hip : (0 : Int) ≤ (i : Int) + 1 := by omega
  have hmp : (0 : Int) ≤ (m : Int) + 1 := by omega
  have hml : Hid (i + (m - i) = m) := by show _ = _; omega
  clear hW1 hd h hnews hfl hcm h1c hel hm
  go_enter Tryz.func172, Tryz.ntmps172
  go_wp2_with fail
  go_region_law (refine step_append_room rfl (.tmp 22) (.tmp 25) 126 rfl 171 i0 4 Tryz.underlying126 hi0 hz1 g 0 i c (by simp [Act.eval, Act.put]) A (m - i) (c - (i + 1)) news (by simp [Act.eval, Act.put]) hnl hsrc.out s2.out (by omega) s3.out ?_; rw [← hW.out, hml.out])
  have hcne : ¬ c = m := by omega
  have hmm : m ≤ m + 1 := by omega
  have hmi : (m : Int) ≤ (m : Int) + 1 := by omega
  go_wp2_with (simp only [hcl])
  go_ret
  exact ⟨rfl, HP.out.1, HO.out.trans HP.out.2⟩

end Go.Proofs.YtokmmloakahkhaaGreat
