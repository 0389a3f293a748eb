/-
  Texts that the claim's last one imports, laid together: part 5 of 7. No condition of its own.
-/
import Derived.Maps.AppendAt
import Derived.Deep.AppendLies
import Derived.Test.YtebincnejcmocaaGreatMSo1
import Derived.Test.YtebincnejcmocaaGreatMSo2
import Derived.Test.YtebincnejcmocaaGreatMSo3
import Derived.Test.YtebincnejcmocaaGreatMSo4
/-
  slices.BinarySearchFunc by the key; joinRows: each solution with each row that has the same in the shared variables.
-/
namespace Go.Proofs.YtebincnejcmocaaGreat
open Go.RowKit Go.Sort Go.Shelf

set_option maxHeartbeats 2000000 in
set_option maxRecDepth 100000 in
theorem searchF_words (v : Value) (R : List (List Int)) (s : List Int) (sb V : Nat) (w : World) (h : RdW w w.heap.size v R) (hok : ∀ b ∈ R, bindOk b = true) (hs : bindOk s = true) (hup : R.Pairwise fun a b => keyV V a ≤ keyV V b) (hn : R.length ≤ 1048576)
    (hc : w.cell? ⟨sb, 0, none⟩ = some (.int .u32 ((maskW V : Nat) : Int))) :
    Calls Tryz.prog 136 #[v, .int .u32 ((encB s : Nat) : Int), .func (.func 133) #[] #[.pointer (some ⟨sb, 0, none⟩)]] w fun e w' =>
      (∃ (i : Nat) (ok : Bool), e = .returned (.tuple #[.int .i64 i, .bool ok]) ∧ i ≤ R.length ∧ LessN (keyV V) R (keyV V s) i ∧ FromN (keyV V) R (keyV V s) i) ∧ w' = w := by
  have HU := Lib.hid hup
  have H := Lib.hid h
  have HB := Lib.hid (fun (x : List Int) (hx : x ∈ R) => byShared_any sb V x s (hok x hx) hs w hc)
  obtain ⟨A, c, rfl, hcc, _⟩ := h
  clear hup hok
  go_enter Tryz.func136, Tryz.ntmps136
  go_wp2_with fail
  go_loopg [9, 10] R.length (fun q vi vj wr => ∃ i j : Nat, vi = .int .i64 i ∧ vj = .int .i64 j ∧ i ≤ j ∧ j ≤ R.length ∧ j - i ≤ q ∧ wr = w ∧ Hid (LessN (keyV V) R (keyV V s) i ∧ FromN (keyV V) R (keyV V s) j))
  case atStart => exact ⟨0, R.length, rfl, rfl, Nat.zero_le _, Nat.le_refl _, Nat.sub_le _ _, rfl, fun k _ hk => absurd hk (by omega), fun k hk hle => absurd hk (by omega)⟩
  case round =>
    obtain ⟨i, j, rfl, rfl, hij, hj, hq, rfl, HI⟩ := hrel
    by_cases hlt : i < j
    · obtain ⟨p, hp⟩ : ∃ p, p = (i + j) / 2 := ⟨_, rfl⟩
      have hp1 : i ≤ p := by omega
      have hp2 : p < j := by omega
      have hpl : p < R.length := by omega
      have HM := Lib.hid (show ((i : Int) + (j : Int)) / 2 = (p : Int) by omega)
      obtain ⟨b, o, rfl, hbB, k1⟩ := H.out.get hpl
      have HC := HB.out R[p] (List.getElem_mem hpl)
      unfold wd at HC
      obtain ⟨K, hK⟩ : ∃ K, K = encB R[p] := ⟨_, rfl⟩
      obtain ⟨X, hX⟩ : ∃ X, X = keyV V R[p] := ⟨_, rfl⟩
      rw [← hK] at k1
      rw [← hK, ← hX] at HC
      have HX := Lib.hid hX
      clear hK hp hX
      by_cases hl : X < keyV V s
      · have hE : cmpKey X (keyV V s) = -1 := if_pos hl
        rw [hE] at HC
        have HC := Lib.hid HC
        have HN := Lib.hid (lessN_mid HU.out hpl (by rw [← HX.out]; exact hl))
        clear hl hE
        go_upto_region 5 with fail
        rw [HM.out]
        go_wp2_with (go_at_call 133; refine HC.out.mono ?_; rintro e w' ⟨rfl, rfl⟩)
        go_roundg (j - (p + 1))
        case measure => omega
        case rel => exact ⟨p + 1, j, by go_num, rfl, by omega, hj, Nat.le_refl _, rfl, HN.out, HI.out.2⟩
      · have hE : ∃ z : Int, cmpKey X (keyV V s) = z ∧ ¬ z < 0 := ⟨_, rfl, by unfold cmpKey; rw [if_neg hl]; split <;> omega⟩
        obtain ⟨z, hz, hz0⟩ := hE
        rw [hz] at HC
        have HC := Lib.hid HC
        have HN := Lib.hid (fromN_mid HU.out hpl (by rw [← HX.out]; exact hl))
        clear hl hz
        go_upto_region 5 with fail
        rw [HM.out]
        go_wp2_with (go_at_call 133; refine HC.out.mono ?_; rintro e w' ⟨rfl, rfl⟩)
        go_roundg (p - i)
        case measure => omega
        case rel => exact ⟨i, p, rfl, rfl, hp1, by omega, Nat.le_refl _, rfl, HI.out.1, HN.out⟩
    · obtain rfl : i = j := by omega
      by_cases hpl : i < R.length
      · obtain ⟨b, o, rfl, hbB, k1⟩ := H.out.get hpl
        have HC := HB.out R[i] (List.getElem_mem hpl)
        unfold wd at HC
        generalize encB R[i] = K at k1 HC
        generalize cmpKey _ _ = z at HC
        have HC := Lib.hid HC
        go_wp2_with (go_at_call 133; refine HC.out.mono ?_; rintro e w' ⟨rfl, rfl⟩)
        go_ret2
        exact ⟨⟨i, _, rfl, hj, HI.out.1, HI.out.2⟩, rfl⟩
      · go_wp2_with fail
        go_ret2
        exact ⟨⟨i, _, rfl, hj, HI.out.1, HI.out.2⟩, rfl⟩

/-- The relation of a loop that collects words. -/
structure ColB (w wr : World) (S : List (List Int)) (A : Option Addr) (c : Nat) : Prop where
  below : Below w.heap.size w wr
  own : OwnW wr w.heap.size wr.heap.size (.slice A S.length c) S
theorem ColB.nil {w wr : World} (hb : Below w.heap.size w wr) : ColB w wr [] none 0 := ⟨hb, World.ownsRow_nil _ _ _ _, fun g hg => by cases hg⟩
theorem ColB.push {w wr w2 w4 : World} {S : List (List Int)} {A : Option Addr} {c g cap : Nat} {b : List Int} {o : Obj} (h : ColB w wr S A c) (hb : Below wr.heap.size wr w2)
    (hg : (w2.alloc o).grownBy w4 (Value.slice A S.length c).ownBlock) (hown : w4.ownsRow w.heap.size 73 1 (.slice (some ⟨g, 0, none⟩) (S.length + 1) cap) (S.length + 1) (S.map wd ++ [wd b])) :
    ColB w w4 (S ++ [b]) (some ⟨g, 0, none⟩) cap := by
  have hl : (S ++ [b]).length = S.length + 1 := by simp
  refine ⟨((bthen h.below hb).alloc (bthen h.below hb).size _).grown hg (by have := (bthen h.below hb).size; simp; omega) (fun k hk => (h.own.1.lt k hk).1), ?_⟩
  rw [hl]
  exact ⟨by simpa [hl] using hown, fun b hb' => (hown.lt b hb').2⟩
theorem ColB.later {w wr w2 : World} {S : List (List Int)} {A : Option Addr} {c : Nat} (h : ColB w wr S A c) (hb : Below wr.heap.size wr w2) : ColB w w2 S A c :=
  ⟨bthen h.below hb, (h.own.below hb (Nat.le_refl _)).mono (Nat.le_refl _) hb.size⟩

/-- The rows that have the same as s in the shared variables. -/
def sameRun (V : Nat) (R : List (List Int)) (s : List Int) : List (List Int) := R.filter fun r => keyV V r == keyV V s
def joinL (V : Nat) (R : List (List Int)) (S : List (List Int)) : List (List Int) := S.flatMap fun s => (sameRun V R s).map fun r => over s r
theorem joinL_take {V : Nat} {R S : List (List Int)} {k : Nat} (h : k < S.length) : joinL V R (S.take (k + 1)) = joinL V R (S.take k) ++ (sameRun V R S[k]).map (over S[k]) := by
  unfold joinL
  rw [take_snoc S k h, List.flatMap_append]
  simp
theorem joinL_len (V : Nat) (R : List (List Int)) : ∀ S : List (List Int), (joinL V R S).length ≤ S.length * R.length
  | [] => by simp [joinL]
  | s :: S => by
    have ih := joinL_len V R S
    have h1 : ((sameRun V R s).map (over s)).length ≤ R.length := by rw [List.length_map]; exact List.length_filter_le _ _
    have e : joinL V R (s :: S) = (sameRun V R s).map (over s) ++ joinL V R S := by unfold joinL; rw [List.flatMap_cons]
    rw [e, List.length_append, List.length_cons, Nat.succ_mul]
    omega
/-- Where the run ends, it is all that have the same. -/
theorem run_all {V : Nat} {R : List (List Int)} {s : List Int} {p q : Nat} (hup : R.Pairwise fun a b => keyV V a ≤ keyV V b) (hpq : p ≤ q) (hq : q ≤ R.length) (hl : LessN (keyV V) R (keyV V s) p) (hf : FromN (keyV V) R (keyV V s) p)
    (hr : ∀ k (h : k < R.length), p ≤ k → k < q → keyV V R[k] = keyV V s) (he : ∀ h : q < R.length, keyV V R[q] ≠ keyV V s) : (R.drop p).take (q - p) = sameRun V R s := by
  have e : R = R.take p ++ ((R.drop p).take (q - p) ++ R.drop q) := by
    conv => lhs; rw [← List.take_append_drop p R]
    congr 1
    conv => lhs; rw [← List.take_append_drop (q - p) (R.drop p)]
    congr 1
    rw [List.drop_drop]
    congr 1
    omega
  unfold sameRun
  conv => rhs; rw [e, List.filter_append, List.filter_append]
  have h1 : (R.take p).filter (fun r => keyV V r == keyV V s) = [] := by
    refine List.filter_eq_nil_iff.2 fun x hx => ?_
    obtain ⟨k, hk, rfl⟩ := List.getElem_of_mem hx
    simp at hk
    have := hl k (by omega) (by omega)
    simp
    omega
  have h2 : (R.drop q).filter (fun r => keyV V r == keyV V s) = [] := by
    refine List.filter_eq_nil_iff.2 fun x hx => ?_
    obtain ⟨k, hk, rfl⟩ := List.getElem_of_mem hx
    simp at hk
    have hq' : q < R.length := by omega
    have g1 := he hq'
    have g2 := hf q hq' hpq
    have g3 : keyV V R[q] ≤ keyV V (R[q + k]'(by omega)) := by
      rcases Nat.eq_zero_or_pos k with rfl | hk0
      · exact Nat.le_refl _
      · exact List.pairwise_iff_getElem.1 hup q (q + k) hq' (by omega) (by omega)
    simp
    omega
  have h3 : ((R.drop p).take (q - p)).filter (fun r => keyV V r == keyV V s) = (R.drop p).take (q - p) := by
    refine List.filter_eq_self.2 fun x hx => ?_
    obtain ⟨k, hk, rfl⟩ := List.getElem_of_mem hx
    simp at hk
    have := hr (p + k) (by omega) (by omega) (by omega)
    simpa using this
  rw [h1, h2, h3]
  simp

end Go.Proofs.YtebincnejcmocaaGreat
/-
  denyRows, compareTerms: the solutions that a predicate keeps (slices.DeleteFunc).
-/
namespace Go.Proofs.YtebincnejcmocaaGreat
open Go.RowKit Go.Sort Go.Shelf

theorem Only.sortB (w : World) (g n : Nat) (d : Array Bnd) (os : Array Obj) : Only g (g + 1) w (sortWorld encBnd w g 0 n d os) := by
  have := Only.put w g n (arrW (d.toList.map (·.1))) os
  rw [← put_bnd] at this
  exact this

/-- slices.DeleteFunc of a row of words. -/
theorem deleteW_any (lo hi g : Nat) (lb : Array Value) (p : List Int → Bool) (v : Value) (S : List (List Int)) (w : World) (h : OwnW w lo hi v S) (hok : ∀ b ∈ S, bindOk b = true) (hne : S ≠ []) (hn : S.length ≤ 1048576)
    (eg : ∀ args w, (callFunc g args).run Tryz.prog w = .ok (.enter g args) w)
    (hp : ∀ (W : World) (b : List Int), bindOk b = true → Only lo hi w W → Calls Tryz.prog g (#[wd b] ++ lb) W fun e w' => e = .returned (.bool (p b)) ∧ ∃ q, w' = W.drewN q) :
    Calls Tryz.prog 139 #[v, .func (.func g) #[] lb] w fun e w' =>
      ∃ A c, e = .returned (.slice A (S.filter fun b => !p b).length c) ∧ OwnW w' lo hi (.slice A (S.filter fun b => !p b).length c) (S.filter fun b => !p b) ∧ Only lo hi w w' := by
  rcases h.at_ with ⟨rfl, rfl⟩ | ⟨gb, c, rfl, h1, h2, h3, h4, h5, h6⟩
  · exact absurd rfl hne
  · obtain ⟨D, rfl⟩ := bnds S hok
    have hsz : (D.map (·.1)).length = D.toArray.size := by simp
    have hget : ∀ j, j < D.toArray.size → (arrW (D.map (·.1)))[j]! = ((encB D.toArray[j]!.1 : Nat) : Int) := fun j hj => by
      have hjl : j < D.length := by simpa using hj
      rw [arrW_at _ (by simpa using hjl), getElem!_pos D.toArray j hj]
      simp
    have hH : Holds encBnd w gb 0 D.toArray := fun j hj => by
      refine ⟨?_, h4.frozen _⟩
      rw [h4.cell (by rw [arrW_size, hsz]; exact hj), hget j hj]
      rfl
    have hcon := AnyE.slices_DeleteFunc Tryz.deleteB encBnd (fun _ => rfl) (fun x => p x.1) g lb eg ⟨noneB, noneB_ok⟩ (fun w => by
        rw [show encBnd ⟨noneB, noneB_ok⟩ = .int .u32 0 by unfold encBnd; rw [encB_none]; rfl]
        exact Tryz.zeroValue73 w) gb 0 c D.toArray w (fun W x hb => hp W x.1 x.2 (Only.of_below hb)) (fun n os dk x _ => hp _ x.1 x.2 ((Only.sortB w gb n dk os).wide h1 h2)) hH (by simp at hn ⊢; omega) (by rw [← hsz]; exact h5)
    rw [hsz]
    refine Calls.mono hcon ?_
    rintro e w' ⟨rfl, q, rfl⟩
    have hfl : ((D.map (·.1)).filter fun b => !p b) = (D.filter fun x : Bnd => !p x.1).map (·.1) := by rw [List.filter_map]; rfl
    have hl : (D.toArray.toList.filter fun x : Bnd => !p x.1).length = ((D.map (·.1)).filter fun b => !p b).length := by rw [hfl]; simp
    rw [hl]
    obtain ⟨E, hE⟩ : ∃ E : Array Bnd, E = ((D.toArray.toList.filter fun x : Bnd => !p x.1) ++ List.replicate (D.toArray.size - ((D.map (·.1)).filter fun b => !p b).length) (⟨noneB, noneB_ok⟩ : Bnd)).toArray := ⟨_, rfl⟩
    have hle : ((D.map (·.1)).filter fun b => !p b).length ≤ D.length := Nat.le_trans (List.length_filter_le _ _) (by simp)
    have hEs : E.size = D.length := by rw [hE]; simp at hl hle ⊢; omega
    rw [← hE, put_bnd]
    have hu := h4.put q (arrW (E.toList.map (·.1))) (by rw [arrW_size, arrW_size]; simp [hEs]) #[]
    have ho := Only.put w gb q (arrW (E.toList.map (·.1))) #[]
    rw [grow_none] at hu ho
    refine ⟨_, c, rfl, OwnW.of (hu.take (by rw [arrW_size, arrW_size]; simp [hEs]; simpa using hle) fun j hj => ?_) h1 h2 (by have := h5; simp at this; omega) h6, ho.wide h1 h2⟩
    rw [arrW_size] at hj
    have hj2 : j < (E.toList.map (·.1)).length := by simp [hEs]; omega
    rw [arrW_at _ hj, arrW_at _ hj2]
    congr 2
    apply Option.some.inj
    rw [← List.getElem?_eq_getElem hj, ← List.getElem?_eq_getElem hj2, hE, hfl]
    simp only [List.map_append]
    rw [List.getElem?_append_left (by rw [hfl] at hj; simpa using hj)]

/-- Whether a row agrees with what some variables have. -/
def hitW (V : Nat) (T : List (List Int)) (b : List Int) : Bool := T.any fun t => encB t == keyV V b

set_option maxHeartbeats 1000000 in
set_option maxRecDepth 100000 in
theorem denyRows_any (lo hi V : Nat) (v0 v1 : Value) (S T : List (List Int)) (w : World) (h0 : OwnW w lo hi v0 S) (lo2 hi2 : Nat) (h1 : OwnW w lo2 hi2 v1 T) (hlo : hi ≤ lo2) (hhi : hi2 ≤ w.heap.size) (hhi0 : hi ≤ w.heap.size)
    (hS : ∀ b ∈ S, bindOk b = true) (hne : S ≠ []) (hT : T.Pairwise fun a b => encB a < encB b) (hnS : S.length ≤ 1048576) (hnT : T.length ≤ 1048576) :
    Calls Tryz.prog 126 #[v0, v1, .int .u32 ((maskW V : Nat) : Int)] w fun e w' =>
      ∃ A c, e = .returned (.slice A (S.filter fun b => !hitW V T b).length c) ∧ OwnW w' lo hi (.slice A (S.filter fun b => !hitW V T b).length c) (S.filter fun b => !hitW V T b) ∧ Only lo hi w w' := by
  obtain ⟨A1, c1, rfl⟩ := h1.form
  have eg : ∀ args w, (callFunc 140 args).run Tryz.prog w = .ok (.enter 140 args) w := enters_of Tryz.func140 (by kernel_rfl) rfl
  obtain ⟨w2, hw2⟩ : ∃ w2, w2 = (w.alloc (Obj.cells #[Value.slice A1 T.length c1] 59)).alloc (Obj.cells #[Value.int IntKind.u32 ((maskW V : Nat) : Int)] 73) := ⟨_, rfl⟩
  have B2 : Below w.heap.size w w2 := by rw [hw2]; exact below2 _ _ _
  have X1 : Blk w2 w.heap.size 59 #[.slice A1 T.length c1] := by rw [hw2]; exact (Blk.new _ _ _).alloc _
  have X2 : Blk w2 (w.heap.size + 1) 73 #[.int .u32 ((maskW V : Nat) : Int)] := by rw [hw2]; simpa using Blk.new (w.alloc (Obj.cells #[Value.slice A1 T.length c1] 59)) 73 #[.int .u32 ((maskW V : Nat) : Int)]
  have hp : ∀ (W : World) (b : List Int), bindOk b = true → Only lo hi w2 W → Calls Tryz.prog 140 (#[wd b] ++ #[.pointer (some ⟨w.heap.size, 0, none⟩), .pointer (some ⟨w.heap.size + 1, 0, none⟩)]) W fun e w' => e = .returned (.bool (hitW V T b)) ∧ ∃ q, w' = W.drewN q := by
    intro W b hb ho
    have c1c : W.cell? ⟨w.heap.size, 0, none⟩ = some (.slice A1 T.length c1) := (X1.only ho (.inr hhi0)).cell 0
    have c2c : W.cell? ⟨w.heap.size + 1, 0, none⟩ = some (.int .u32 ((maskW V : Nat) : Int)) := (X2.only ho (.inr (by omega))).cell 0
    have hr : RdW W hi2 (.slice A1 T.length c1) T := ((h1.below B2 hhi).only ho (.inr hlo)).rd
    have HSE := Lib.hid (searchW_any (.slice A1 T.length c1) T (keyV V b) hi2 (hitW V T b) rfl W hr hT hnT)
    have e1 : bits .and .u32 ((encB b : Nat) : Int) ((maskW V : Nat) : Int) = ((keyV V b : Nat) : Int) := by rw [and_word32 (encB_lt hb) (maskW_lt V), enc_restr hb]; rfl
    clear hr X1 X2
    show Calls Tryz.prog 140 #[wd b, .pointer (some ⟨w.heap.size, 0, none⟩), .pointer (some ⟨w.heap.size + 1, 0, none⟩)] W _
    unfold wd
    go_enter Tryz.func140, Tryz.ntmps140
    go_wp2_with (go_at_call 141; refine HSE.out.mono ?_; rintro e w' ⟨⟨i, rfl⟩, rfl⟩)
    go_ret
    exact ⟨rfl, 0, rfl⟩
  have HD := Lib.hid (deleteW_any lo hi 140 #[.pointer (some ⟨w.heap.size, 0, none⟩), .pointer (some ⟨w.heap.size + 1, 0, none⟩)] (hitW V T) v0 S w2 (h0.below B2 hhi0) hS hne hnS eg hp)
  have HB := Lib.hid B2
  rw [hw2] at HD
  have HW := Lib.hid hw2
  obtain ⟨A0, c0, rfl⟩ := h0.form
  clear h0 h1 hS hT hp X1 X2 B2 hw2 eg
  go_enter Tryz.func126, Tryz.ntmps126
  go_wp2_with (go_at_call 139; refine HD.out.mono ?_; rintro e w3 ⟨A, c, rfl, own, only⟩; rw [← HW.out] at only; have HO := Lib.hid (And.intro own only); clear own only)
  go_ret
  exact ⟨A, c, rfl, HO.out.1, (Only.of_below HB.out).trans HO.out.2⟩

set_option maxHeartbeats 2000000 in
set_option maxRecDepth 100000 in
theorem compareTerms_any (lo hi : Nat) (v0 v1 : Value) (S : List (List Int)) (l : LLit) (w : World) (h0 : OwnW w lo hi v0 S) (hhi : hi ≤ w.heap.size) (h1 : RdLit w lo v1 l) (hlo : lo ≤ w.heap.size) (hk : l.1 = 2 ∨ l.1 = 3) (ht : l.2.2.all termOk = true)
    (hS : ∀ b ∈ S, bindOk b = true) (hne : S ≠ []) (hnS : S.length ≤ 1048576) (hl : l.2.2.length ≤ 1048576) (R : List (List Int)) (hR : R = S.filter fun b => decide (l.2.2.length = 2) && cmpB l.1 (termVal b (l.2.2.getD 0 0)) (termVal b (l.2.2.getD 1 0))) :
    Calls Tryz.prog 127 #[v0, v1] w fun e w' =>
      ∃ A c, e = .returned (.slice A R.length c) ∧ OwnW w' lo hi (.slice A R.length c) R ∧ Only lo hi w w' := by
  obtain ⟨kd, pr, xs⟩ := l
  simp only at hk ht hl hR
  obtain ⟨av, rfl, A, c, rfl, hc, hx⟩ := h1
  obtain ⟨A0, c0, rfl⟩ := h0.form
  by_cases h2 : xs.length = 2
  · obtain ⟨t0, t1, rfl⟩ : ∃ t0 t1, xs = [t0, t1] := by
      match xs, h2 with
      | [t0, t1], _ => exact ⟨t0, t1, rfl⟩
    obtain ⟨b, o, rfl, hb, hxs⟩ := hx (by simp)
    have x0 : w.cell? ⟨b, o, none⟩ = some (.int .i64 t0) := hxs 0 (by simp)
    have x1 : w.cell? ⟨b, o + 1, none⟩ = some (.int .i64 t1) := hxs 1 (by simp)
    simp only [List.all_cons, List.all_nil, Bool.and_true, Bool.and_eq_true] at ht
    simp only [List.length_cons, List.length_nil, Nat.zero_add, Nat.reduceAdd, decide_true, Bool.true_and, List.getD_cons_zero, List.getD_cons_succ] at hR
    have eg : ∀ args w, (callFunc 142 args).run Tryz.prog w = .ok (.enter 142 args) w := enters_of Tryz.func142 (by kernel_rfl) rfl
    obtain ⟨w2, hw2⟩ : ∃ w2, w2 = (w.alloc (Obj.cells #[Value.int IntKind.i64 kd, Value.int IntKind.i64 pr, Value.slice (some ⟨b, o, none⟩) 2 c] 56)).alloc (Obj.cells #[Value.slice (some ⟨b, o, none⟩) 2 c] 42) := ⟨_, rfl⟩
    have B2 : Below w.heap.size w w2 := by rw [hw2]; exact below2 _ _ _
    have X1 : Blk w2 w.heap.size 56 #[.int .i64 kd, .int .i64 pr, .slice (some ⟨b, o, none⟩) 2 c] := by rw [hw2]; exact (Blk.new _ _ _).alloc _
    have X2 : Blk w2 (w.heap.size + 1) 42 #[.slice (some ⟨b, o, none⟩) 2 c] := by rw [hw2]; simpa using Blk.new (w.alloc (Obj.cells #[Value.int IntKind.i64 kd, Value.int IntKind.i64 pr, Value.slice (some ⟨b, o, none⟩) 2 c] 56)) 42 #[.slice (some ⟨b, o, none⟩) 2 c]
    have hp : ∀ (W : World) (x : List Int), bindOk x = true → Only lo hi w2 W → Calls Tryz.prog 142 (#[wd x] ++ #[.pointer (some ⟨w.heap.size, 0, none⟩), .pointer (some ⟨w.heap.size + 1, 0, none⟩)]) W fun e w' => e = .returned (.bool (!cmpB kd (termVal x t0) (termVal x t1))) ∧ ∃ q, w' = W.drewN q := by
      intro W x hx' ho
      have c1c : W.cell? ⟨w.heap.size, 0, none⟩ = some (.int .i64 kd) := (X1.only ho (.inr hhi)).cell 0
      have c2c : W.cell? ⟨w.heap.size + 1, 0, none⟩ = some (.slice (some ⟨b, o, none⟩) 2 c) := (X2.only ho (.inr (by omega))).cell 0
      have hbw : Below lo w W := (B2.mono hlo).trans (ho.below (Nat.le_refl _) (Nat.le_trans hlo B2.size))
      have d0 : W.cell? ⟨b, o, none⟩ = some (.int .i64 t0) := (hbw.cell (p := ⟨b, o, none⟩) hb).trans x0
      have d1 : W.cell? ⟨b, o + 1, none⟩ = some (.int .i64 t1) := (hbw.cell (p := ⟨b, o + 1, none⟩) hb).trans x1
      have HV0 := Lib.hid (fun W => value_any x hx' t0 ht.1 W)
      have HV1 := Lib.hid (fun W => value_any x hx' t1 ht.2 W)
      have HCM := Lib.hid (fun W => comparison_any kd (termVal x t0) (termVal x t1) hk W)
      clear hbw X1 X2 x0 x1 hx
      show Calls Tryz.prog 142 #[wd x, .pointer (some ⟨w.heap.size, 0, none⟩), .pointer (some ⟨w.heap.size + 1, 0, none⟩)] W _
      unfold wd
      generalize encB x = E at HV0 HV1 ⊢
      generalize termVal x t0 = T0 at HV0 HCM ⊢
      generalize termVal x t1 = T1 at HV1 HCM ⊢
      go_enter Tryz.func142, Tryz.ntmps142
      go_wp2_with fail
      go_quiet (first
        | (go_at_call 144; first | with_reducible exact quiet_left (HV0.out _) | with_reducible exact quiet_left (HV1.out _))
        | (go_at_call 143; exact quiet_left (HCM.out _)))
      go_wp2_with fail
      go_ret
      exact ⟨rfl, nq, rfl⟩
    have hd := deleteW_any lo hi 142 #[.pointer (some ⟨w.heap.size, 0, none⟩), .pointer (some ⟨w.heap.size + 1, 0, none⟩)] (fun x => !cmpB kd (termVal x t0) (termVal x t1)) (.slice A0 S.length c0) S w2 (h0.below B2 hhi) hS hne hnS eg hp
    simp only [Bool.not_not] at hd
    rw [← hR] at hd
    have HD := Lib.hid hd
    have HB := Lib.hid B2
    rw [hw2] at HD
    have HW := Lib.hid hw2
    have HR := Lib.hid hR
    clear h0 hS hp X1 X2 B2 hw2 eg hd hR hx x0 x1 hxs
    go_enter Tryz.func127, Tryz.ntmps127
    go_wp2_with (go_at_call 139; refine HD.out.mono ?_; rintro e w3 ⟨A, c, rfl, own, only⟩; rw [← HW.out] at only; have HO := Lib.hid (And.intro own only); clear own only)
    go_ret
    exact ⟨_, _, rfl, HO.out.1, (Only.of_below HB.out).trans HO.out.2⟩
  · have hRn : R = [] := by
      rw [hR]
      refine List.filter_eq_nil_iff.2 fun x _ => ?_
      simp [h2]
    subst hRn
    have h2z : ((xs.length : Int) != 2) = true := by simp; omega
    clear hR h0 hx hS
    go_enter Tryz.func127, Tryz.ntmps127
    go_wp2_with fail
    go_ret
    exact ⟨none, 0, rfl, ⟨World.ownsRow_nil _ _ _ _, fun g hg => by cases hg⟩, Only.of_below (below2 _ _ _)⟩

end Go.Proofs.YtebincnejcmocaaGreat
/-
  The walk of matched.
-/
namespace Go.Proofs.YtebincnejcmocaaGreat
open Go.RowKit

/-- What matched hands back: the word, and whether there is one. -/
def encO (o : Option (List Int)) : Nat := match o with | some b => encB b | none => 0

set_option maxHeartbeats 1000000 in
set_option maxRecDepth 100000 in
theorem matched_n (v v2 : Value) (a f : LFact) (bs : List Int) (z0 : Nat) (ok : Bool) (hz0 : z0 = encO (matchL a f bs)) (hok : ok = (matchL a f bs).isSome) (w : World) (hb : bindOk bs = true) (h : RdFact w w.heap.size v a) (h2 : RdFact w w.heap.size v2 f)
    (ht : a.2.all termOk = true) (hf : f.2.all constOk = true) (hr : a.2.length ≤ 1048576) (hr2 : f.2.length ≤ 1048576) :
    Calls Tryz.prog 137 #[.int .u32 (encB bs : Nat), v, v2] w fun e w' => e = .returned (.tuple #[.int .u32 (z0 : Nat), .bool ok]) ∧ Below w.heap.size w w' := by
  obtain ⟨pa, xs⟩ := a
  obtain ⟨pf, ys⟩ := f
  simp only at ht hf hr hr2
  have HO := Lib.hid (And.intro hz0 hok)
  clear hz0 hok
  obtain ⟨u, rfl, A, c, rfl, hc, hA⟩ := h
  obtain ⟨u, rfl, A2, c2, rfl, hc2, hA2⟩ := h2
  by_cases hp : pa = pf
  · have hpb : (pa != pf) = false := by simp [hp]
    by_cases hl : xs.length = ys.length
    · have hl1 : ((xs.length : Int) != (ys.length : Int)) = false := by simp [hl]
      have HL := Lib.hid hl
      have HP := Lib.hid hp
      have HM := Lib.hid (encB_lt hb)
      have HB := Lib.hid hb
      obtain ⟨m, hm⟩ : ∃ m, m = encB bs := ⟨_, rfl⟩
      rw [← hm]
      have HE := Lib.hid hm
      clear hl hp hm hb
      go_enter Tryz.func137, Tryz.ntmps137
      go_wp2_with (fail)
      go_loopw [0, 8, 9, 27] (fun m _ _ i wr => ∃ (k z : Nat) (cur : List Int), k ≤ xs.length ∧ i = .int .i64 k ∧ m = .int .u32 (z : Nat) ∧ z = encB cur ∧ bindOk cur = true ∧ matchTo bs xs ys k = some cur ∧ Below w.heap.size w wr ∧ Blk wr (w.heap.size + 1) 52 #[.int .i64 pf, .slice A2 ys.length c2]) (fun _ _ _ i _ => xs.length - (intOf i).toNat)
      case atStart => exact ⟨0, _, bs, Nat.zero_le _, rfl, rfl, HE.out, HB.out, rfl, below2 _ _ _, by simpa using Blk.new (w.alloc (Obj.cells #[Value.int IntKind.i64 pa, Value.slice A xs.length c] 54)) 52 #[.int .i64 pf, .slice A2 ys.length c2]⟩
      case round =>
        obtain ⟨k, z, cur, hk, rfl, rfl, hz, hcb, hmt, hbe, hblk⟩ := hrel
        by_cases hlt : k < xs.length
        · have hlt2 : k < ys.length := by have := HL.out; omega
          obtain ⟨b, o, rfl, hbB, hx⟩ := hA (by omega)
          obtain ⟨b2, o2, rfl, hbB2, hx2⟩ := hA2 (by omega)
          have hck : wr.cell? ⟨b, o + k, none⟩ = some (.int .i64 xs[k]) := (hbe.cell (p := ⟨b, o + k, none⟩) hbB).trans (hx k hlt)
          have hck2 : wr.cell? ⟨b2, o2 + k, none⟩ = some (.int .i64 ys[k]) := (hbe.cell (p := ⟨b2, o2 + k, none⟩) hbB2).trans (hx2 k hlt2)
          have hc1 : wr.cell? ⟨w.heap.size + 1, 1, none⟩ = some (.slice (some ⟨b2, o2, none⟩) ys.length c2) := hblk.cell 1
          have htk : termOk xs[k] = true := List.all_eq_true.1 ht _ (List.getElem_mem hlt)
          have hfk : 0 ≤ ys[k] ∧ ys[k] ≤ 5 := by simpa [constOk] using List.all_eq_true.1 hf _ (List.getElem_mem hlt2)
          have HV := Lib.hid (hz ▸ value_any cur hcb xs[k] htk)
          have hst := matchTo_step hmt hlt hlt2
          have HBK := Lib.hid hblk
          clear hx hx2 hA hA2 hblk
          by_cases e1 : termVal cur xs[k] = ys[k]
          · have HS := Lib.hid (show matchTo bs xs ys (k + 1) = some cur by rw [hst, stepM_same e1])
            have HZ := Lib.hid (And.intro hz hcb)
            have HT := Lib.hid e1
            clear hst hz hcb hmt e1 htk
            go_wp2_with (go_at_call 144; refine (HV.out _).mono ?_; rw [HT.out]; rintro e w' ⟨rfl, rfl⟩)
            go_roundw
            case rel => exact ⟨k + 1, z, cur, by omega, by go_num, rfl, HZ.out.1, HZ.out.2, HS.out, hbe, HBK.out⟩
            case measure => simp [intOf]; omega
          · have hd1 : (termVal cur xs[k] == ys[k]) = false := by simpa using e1
            by_cases e2 : termVal cur xs[k] = -1
            · obtain ⟨q1, q2, q3⟩ := termVal_free htk e2
              obtain ⟨j, hj4, hj⟩ : ∃ j : Nat, j < 4 ∧ -1 - xs[k] = (j : Int) := ⟨(-1 - xs[k]).toNat, by omega, by omega⟩
              have hjt : (-1 - xs[k]).toNat = j := by omega
              rw [hjt] at q3
              have HS := Lib.hid (show matchTo bs xs ys (k + 1) = some (cur.set j ys[k]) by rw [hst, stepM_new e2 (by omega), hjt])
              have HZ := Lib.hid (show z ||| shlB j ys[k] = encB (cur.set j ys[k]) by rw [hz, encB_set hcb hj4 q3 (by omega)])
              have HCB := Lib.hid (show bindOk (cur.set j ys[k]) = true from bindOk_set hcb (by omega) _)
              have hd1 : ((-1 : Int) == ys[k]) = false := by simp; omega
              have hzl : z < 65536 := by rw [hz]; exact encB_lt hcb
              have HT := Lib.hid e2
              have HN := Lib.hid (fun W => hj ▸ varNumber_any xs[k] q1 q2 W)
              have HW := Lib.hid (fun W => with_any z j ys[k] hzl hj4 (by omega) W)
              clear hst hz hcb hmt e1 e2 htk hj hjt q3
              go_wp2_with (go_at_call 144; refine (HV.out _).mono ?_; rw [HT.out]; rintro e w' ⟨rfl, rfl⟩)
              go_quiet (first | (go_at_call 102; exact quiet_left (HN.out _)) | (go_at_call 155; exact quiet_left (HW.out _)))
              go_wp2_with (fail)
              go_roundw
              case rel => exact ⟨k + 1, _, _, by omega, by go_num, rfl, HZ.out, HCB.out, HS.out, bdrewN hbe _, HBK.out.drewN _⟩
              case measure => simp [intOf]; omega
            · have hd2 : (termVal cur xs[k] == -1) = false := by simpa using e2
              have HN := Lib.hid (show matchL (pa, xs) (pf, ys) bs = none from matchL_stop HP.out HL.out hlt (by rw [hst, stepM_no e1 e2]))
              clear hst hz hcb hmt e1 e2 htk
              go_wp2_with (go_at_call 144; refine (HV.out _).mono ?_; rintro e w' ⟨rfl, rfl⟩)
              go_ret2
              rw [show ok = false by rw [HO.out.2, HN.out]; rfl, show z0 = 0 by rw [HO.out.1, HN.out]; rfl]
              exact ⟨rfl, hbe⟩
        · have hkn : k = xs.length := by omega
          have HN := Lib.hid (show matchL (pa, xs) (pf, ys) bs = some cur by rw [matchL_eq HP.out HL.out, ← hmt, hkn])
          have HZ := Lib.hid hz
          clear hkn hmt hz hA hA2 hblk
          go_wp2_with (fail)
          go_ret2
          rw [show ok = true by rw [HO.out.2, HN.out]; rfl, show z0 = z by rw [HO.out.1, HN.out, HZ.out]; rfl]
          exact ⟨rfl, hbe⟩
    · have hl1 : ((xs.length : Int) != (ys.length : Int)) = true := by simp; omega
      have HN := Lib.hid (show matchL (pa, xs) (pf, ys) bs = none from matchL_len hl)
      clear hA hA2 hl
      go_enter Tryz.func137, Tryz.ntmps137
      go_wp2_with (fail)
      go_ret2
      rw [show ok = false by rw [HO.out.2, HN.out]; rfl, show z0 = 0 by rw [HO.out.1, HN.out]; rfl]
      exact ⟨rfl, below2 _ _ _⟩
  · have hpb : (pa != pf) = true := by simp [hp]
    have HN := Lib.hid (show matchL (pa, xs) (pf, ys) bs = none from matchL_pred hp)
    clear hA hA2 hp
    go_enter Tryz.func137, Tryz.ntmps137
    go_wp2_with (fail)
    go_ret2
    rw [show ok = false by rw [HO.out.2, HN.out]; rfl, show z0 = 0 by rw [HO.out.1, HN.out]; rfl]
    exact ⟨rfl, below2 _ _ _⟩

end Go.Proofs.YtebincnejcmocaaGreat
/-
  atomRows: what variables have when an atom is one of the facts, each once, ascending.
-/
namespace Go.Proofs.YtebincnejcmocaaGreat
open Go.RowKit Go.Sort

/-- What variables have when the atom is one of the first k facts. -/
def rowsTo (a : LFact) (fs : List LFact) (k : Nat) : List (List Int) := (fs.take k).filterMap fun f => matchL a f noneB
theorem rowsTo_step {a : LFact} {fs : List LFact} {k : Nat} (h : k < fs.length) : rowsTo a fs (k + 1) = rowsTo a fs k ++ (matchL a fs[k] noneB).toList := by
  unfold rowsTo
  rw [take_snoc fs k h, List.filterMap_append]
  cases h2 : matchL a fs[k] noneB <;> simp [h2]
theorem rowsTo_len (a : LFact) (fs : List LFact) (k : Nat) : (rowsTo a fs k).length ≤ k := by
  unfold rowsTo
  exact Nat.le_trans (List.length_filterMap_le _ _) (by simp; omega)
theorem rowsTo_ok {a : LFact} {fs : List LFact} (hf : ∀ f ∈ fs, f.2.all constOk = true) (k : Nat) : ∀ b ∈ rowsTo a fs k, bindOk b = true := by
  intro b hb
  obtain ⟨f, hf', e⟩ := List.mem_filterMap.1 hb
  exact matchL_ok noneB_ok (hf f (List.mem_of_mem_take hf')) e

set_option maxHeartbeats 4000000 in
set_option maxRecDepth 100000 in
theorem atomRows_any (v v2 : Value) (fs : List LFact) (a : LFact) (w : World) (h : RdFacts w w.heap.size v fs) (h2 : RdFact w w.heap.size v2 a) (ht : a.2.all termOk = true) (hf : ∀ f ∈ fs, f.2.all constOk = true)
    (hn : fs.length ≤ 1048576) (hl : tot fs ≤ 1048576) (ha : a.2.length ≤ 1048576) :
    Calls Tryz.prog 125 #[v, v2] w fun e w' =>
      ∃ A c R, e = .returned (.slice A R.length c) ∧ OwnW w' w.heap.size w'.heap.size (.slice A R.length c) R ∧ Below w.heap.size w w' ∧ (R.Pairwise fun x y => encB x < encB y) ∧ ∀ b, b ∈ R ↔ ∃ f ∈ fs, matchL a f noneB = some b := by
  obtain ⟨i0, hi0, hz0, hz1, hz2⟩ := info_parts Tryz.infoWord
  have H := Lib.hid h
  have HF := Lib.hid hf
  obtain ⟨A, c, rfl, hc, _⟩ := h
  obtain ⟨av, rfl, h2⟩ := h2
  obtain ⟨A2, c2, rfl, hc2, hA2⟩ := h2
  have H2 := Lib.hid (show RdInts w w.heap.size (.slice A2 a.2.length c2) a.2 from ⟨A2, c2, rfl, hc2, hA2⟩)
  clear hf hA2
  go_enter Tryz.func125, Tryz.ntmps125
  go_wp2_with fail
  obtain ⟨w1, hw1⟩ : ∃ w1, w1 = w.alloc (Obj.cells #[Value.int IntKind.i64 a.1, Value.slice A2 a.2.length c2] 54) := ⟨_, rfl⟩
  have B1 : Below w.heap.size w w1 := by rw [hw1]; exact below1 _ _
  have X1 : Blk w1 w.heap.size 54 #[.int .i64 a.1, .slice A2 a.2.length c2] := by rw [hw1]; exact Blk.new _ _ _
  rw [← hw1]
  clear hw1
  have HX := Lib.hid (And.intro B1 X1)
  clear B1 X1
  go_loopg [5, 12] fs.length (fun q vo vi wr => ∃ (k : Nat) (A : Option Addr) (c : Nat), vi = .int .i64 k ∧ k ≤ fs.length ∧ q = fs.length - k ∧ vo = .slice A (rowsTo a fs k).length c ∧ ColB w1 wr (rowsTo a fs k) A c)
  case atStart => exact ⟨0, none, 0, rfl, Nat.zero_le _, rfl, rfl, ColB.nil (Below.refl _ _)⟩
  case round =>
    obtain ⟨k, A3, c3, rfl, hk, hq, rfl, hcol⟩ := hrel
    have HC := Lib.hid hcol
    have HBW := Lib.hid (bthen HX.out.1 hcol.below)
    have HX2 := Lib.hid (HX.out.2.below hcol.below HX.out.2.lt)
    clear hcol
    by_cases hlt : k < fs.length
    · obtain ⟨b, o, A4, c4, rfl, hbB, k1, k2, k3⟩ := (H.out.on HBW.out).get hlt
      have hln := len_le_tot fs k hlt
      have q0 : wr.cell? ⟨w.heap.size, 0, none⟩ = some (.int .i64 a.1) := HX2.out.cell 0
      have q1 : wr.cell? ⟨w.heap.size, 1, none⟩ = some (.slice A2 a.2.length c2) := HX2.out.cell 1
      have hwlt := HX2.out.lt
      have hfk := HF.out _ (List.getElem_mem hlt)
      have HK3 := Lib.hid k3
      have HST := Lib.hid (rowsTo_step (a := a) hlt)
      have HLN := Lib.hid (rowsTo_len a fs k)
      obtain ⟨w3, hw3⟩ : ∃ w3, w3 = wr.alloc (Obj.cells #[Value.int IntKind.i64 fs[k].1, Value.slice A4 fs[k].2.length c4] 52) := ⟨_, rfl⟩
      have B3 : Below wr.heap.size wr w3 := by rw [hw3]; exact below1 _ _
      have hM := matched_n (.agg #[.int .i64 a.1, .slice A2 a.2.length c2]) (.agg #[.int .i64 fs[k].1, .slice A4 fs[k].2.length c4]) a fs[k] noneB _ _ rfl rfl w3 noneB_ok
        ⟨_, rfl, H2.out.on (bthen HBW.out B3)⟩ ⟨_, rfl, k3.on B3⟩ ht hfk ha (by omega)
      rw [encB_none, show (((0 : Nat) : Nat) : Int) = 0 from rfl] at hM
      rw [hw3] at hM
      have HM := Lib.hid hM
      have HW3 := Lib.hid (And.intro hw3 B3)
      cases hm : matchL a fs[k] noneB with
      | none =>
        rw [hm] at HM HST
        clear k3 hM hw3 B3 hm hfk
        go_wp2_with (go_at_call 137; refine HM.out.mono ?_; rintro e w4 ⟨rfl, hb4⟩)
        rw [← HW3.out.1] at hb4
        have HCN := Lib.hid (HC.out.later (bthen HW3.out.2 hb4))
        have HE := Lib.hid (show rowsTo a fs (k + 1) = rowsTo a fs k by rw [HST.out]; simp)
        clear hb4
        go_roundg (fs.length - (k + 1))
        case measure => omega
        case rel => exact ⟨k + 1, _, _, by go_num, by omega, rfl, by rw [HE.out], by rw [HE.out]; exact HCN.out⟩
      | some r =>
        rw [hm] at HM HST
        have HE := Lib.hid (show rowsTo a fs (k + 1) = rowsTo a fs k ++ [r] by rw [HST.out]; rfl)
        clear k3 hM hw3 B3 hm hfk
        have hEO : encO (some r) = encB r := rfl
        rw [hEO] at HM
        clear hEO
        go_wp2_with (first
          | (go_at_call 137; refine HM.out.mono ?_; rintro e w4 ⟨rfl, hb4⟩; rw [← HW3.out.1] at hb4; have HCN := Lib.hid (HC.out.later (bthen HW3.out.2 hb4)); have HB4 := Lib.hid (bthen HW3.out.2 hb4); clear hb4)
          | (at_builtin; refine wpList_append_lies _ rfl (.tmp 23) (.tmp 25) 59 rfl w1.heap.size 73 i0 (.int .u32 0) 1 4 Tryz.underlying59 hi0 hz0 hz1 hz2 rfl (by decide) (.slice A3 (rowsTo a fs k).length c3) (rowsTo a fs k).length ((rowsTo a fs k).map wd) rfl ?c1 ⟨_, 0, none⟩ 1 1 [wd r] rfl rfl (news1s _ _ _ _ (by simp)) ?c2 (by omega) (by have := HLN.out; unfold maxLen; omega) (by have := HLN.out; omega) ?c3 _ rfl ?_))
        case c1 => exact HCN.out.own.1.alloc _
        case c2 => intro u hu; simp at hu; subst hu; rfl
        case c3 => have := HCN.out.below.size; simp; omega
        intro g cap w5 hown hg _ _
        have hcolN := HCN.out.push (Below.refl _ _) hg hown
        rw [← HE.out] at hcolN
        have hlen : (rowsTo a fs k).length + 1 = (rowsTo a fs (k + 1)).length := by rw [HE.out]; simp
        rw [hlen]
        have HCP := Lib.hid hcolN
        clear hcolN hlen hown hg
        go_wp2_with fail
        go_roundg (fs.length - (k + 1))
        case measure => omega
        case rel => exact ⟨k + 1, _, _, by go_num, by omega, rfl, rfl, HCP.out⟩
    · have HFIN := Lib.hid (show rowsTo a fs k = rowsTo a fs fs.length by rw [show k = fs.length by omega])
      have HLN := Lib.hid (rowsTo_len a fs k)
      have HOK := Lib.hid (rowsTo_ok (a := a) HF.out k)
      have hsz1 := HX.out.1.size
      have hszr := HC.out.below.size
      obtain ⟨Rk, hRk⟩ : ∃ Rk, Rk = rowsTo a fs k := ⟨_, rfl⟩
      rw [← hRk] at HC HFIN HLN HOK ⊢
      have HSO := Lib.hid (sortW_any w1.heap.size wr.heap.size (.slice A3 Rk.length c3) Rk wr HC.out.own (by have := HLN.out; omega))
      clear hRk hq
      go_wp2_with (first
        | (go_at_call 42; refine HSO.out.mono ?_; rintro e w4 ⟨rfl, S', hp, hup, own4, only4⟩;
           have HP := Lib.hid hp; have HO4 := Lib.hid only4; have HCC := Lib.hid (compactW_any w1.heap.size wr.heap.size (.slice A3 Rk.length c3) S' w4 own4 (fun b hb => HOK.out b (hp.mem_iff.1 hb)) hup (by have := HLN.out; have := hp.length_eq; omega)); clear hp hup own4 only4)
        | (go_at_call 138; refine HCC.out.mono ?_; rintro e w5 ⟨A6, c6, T, rfl, own5, only5, hT1, hT2, hT3⟩;
           have H5 := Lib.hid (And.intro own5 (And.intro only5 (And.intro hT1 hT2))); clear own5 only5 hT1 hT2 hT3))
      go_ret
      obtain ⟨own5, only5, hT1, hT2⟩ := H5.out
      have o45 := HO4.out.trans only5
      refine ⟨A6, c6, T, rfl, own5.mono (by omega) (by have := o45.size; omega), Only.then_ (bthen HX.out.1 HC.out.below) o45 (by omega), hT1, fun b => ?_⟩
      rw [hT2, HP.out.mem_iff, HFIN.out]
      unfold rowsTo
      rw [List.take_length, List.mem_filterMap]

end Go.Proofs.YtebincnejcmocaaGreat
/-
  Marks on lists of facts: the words, and the walks of markFactS, markFact, heldFactS.
-/
namespace Go.Proofs.YtebincnejcmocaaGreat
open Go.RowKit

/-- The facts that marks from k on leave. -/
def markF : Int → List LFact → List LFact
  | _, [] => []
  | k, f :: fs => (k, seqI (k + 1) f.2.length) :: markF (k + 1 + (f.2.length : Int)) fs
/-- The mark behind the last one. -/
def endF (k : Int) (fs : List LFact) : Int := k + (fs.length : Int) + (tot fs : Int)

theorem tot_cons (f : LFact) (fs : List LFact) : tot (f :: fs) = f.2.length + tot fs := by simp [tot]
theorem tot_append (xs ys : List LFact) : tot (xs ++ ys) = tot xs + tot ys := by simp [tot]
theorem markF_length : ∀ (k : Int) (fs : List LFact), (markF k fs).length = fs.length
  | _, [] => rfl
  | k, f :: fs => by simp [markF, markF_length _ fs]
theorem markF_tot : ∀ (k : Int) (fs : List LFact), tot (markF k fs) = tot fs
  | _, [] => rfl
  | k, f :: fs => by simp [markF, tot_cons, seqI_length, markF_tot _ fs]
theorem markF_snoc : ∀ (k : Int) (fs : List LFact) (f : LFact), markF k (fs ++ [f]) = markF k fs ++ [(endF k fs, seqI (endF k fs + 1) f.2.length)]
  | k, [], f => by simp [markF, endF, tot]
  | k, g :: fs, f => by
    have h := markF_snoc (k + 1 + (g.2.length : Int)) fs f
    have e : endF (k + 1 + (g.2.length : Int)) fs = endF k (g :: fs) := by simp [endF, tot_cons]; omega
    rw [e] at h
    simp [markF, h]
def markedF (fs : List LFact) (k : Int) (j : Nat) : List LFact := markF k (fs.take j) ++ fs.drop j
theorem markedF_length {fs : List LFact} {k : Int} {j : Nat} (h : j ≤ fs.length) : (markedF fs k j).length = fs.length := by simp [markedF, markF_length]; omega
theorem markedF_at {fs : List LFact} {k : Int} {j : Nat} (h : j < fs.length) (h' : j < (markedF fs k j).length) : (markedF fs k j)[j] = fs[j] := by
  have hl : (markF k (fs.take j)).length = j := by rw [markF_length]; simp; omega
  have e : (markedF fs k j)[j]? = some fs[j] := by
    unfold markedF
    rw [List.getElem?_append_right (by omega), hl]
    simp [h]
  rw [List.getElem?_eq_getElem h'] at e
  exact Option.some.inj e
theorem markedF_step {fs : List LFact} {k : Int} {j : Nat} (h : j < fs.length) : (markedF fs k j).set j (endF k (fs.take j), seqI (endF k (fs.take j) + 1) fs[j].2.length) = markedF fs k (j + 1) := by
  have hl : (markF k (fs.take j)).length = j := by rw [markF_length]; simp; omega
  unfold markedF
  rw [List.drop_eq_getElem_cons h, List.set_append_right _ _ (by omega), hl, Nat.sub_self, List.set_cons_zero, take_snoc fs j h, markF_snoc]
  simp
theorem markedF_zero (fs : List LFact) (k : Int) : markedF fs k 0 = fs := by simp [markedF, markF]
theorem markedF_all (fs : List LFact) (k : Int) : markedF fs k fs.length = markF k fs := by simp [markedF]
theorem markF_at {fs : List LFact} {k : Int} {j : Nat} (h : j < fs.length) (h' : j < (markF k fs).length) : (markF k fs)[j] = (endF k (fs.take j), seqI (endF k (fs.take j) + 1) fs[j].2.length) := by
  have e : fs = fs.take (j + 1) ++ fs.drop (j + 1) := (List.take_append_drop _ _).symm
  have hl : (markF k (fs.take j)).length = j := by rw [markF_length]; simp; omega
  have hp : ∀ (xs ys : List LFact) (k : Int), ∃ zs, markF k (xs ++ ys) = markF k xs ++ zs := by
    intro xs
    induction xs with
    | nil => intro ys k; exact ⟨_, rfl⟩
    | cons x xs ih =>
      intro ys k
      obtain ⟨zs, hz⟩ := ih ys (k + 1 + (x.2.length : Int))
      exact ⟨zs, by simp [markF, hz]⟩
  obtain ⟨zs, hz⟩ := hp (fs.take (j + 1)) (fs.drop (j + 1)) k
  rw [← e, take_snoc fs j h, markF_snoc] at hz
  have : (markF k fs)[j]? = some (endF k (fs.take j), seqI (endF k (fs.take j) + 1) fs[j].2.length) := by
    rw [hz, List.append_assoc, List.getElem?_append_right (by omega), hl]
    simp
  rw [List.getElem?_eq_getElem h'] at this
  exact Option.some.inj this
theorem endF_zero (k : Int) (fs : List LFact) : endF k (fs.take 0) = k := by simp [endF, tot]
theorem endF_step {fs : List LFact} {k : Int} {j : Nat} (h : j < fs.length) : endF k (fs.take (j + 1)) = endF k (fs.take j) + 1 + (fs[j].2.length : Int) := by
  have := tot_take fs j h
  simp only [endF, List.length_take, this]
  omega
theorem tot_take_le (fs : List LFact) (j : Nat) : tot (fs.take j) ≤ tot fs := by
  have := tot_append (fs.take j) (fs.drop j)
  rw [List.take_append_drop] at this
  omega

/-- A row of facts of the call's own, its rows of integers named. -/
structure OwnFA (w : World) (lo hi : Nat) (v : Value) (fs : List LFact) (av : List Value) : Prop where
  args : OwnArgs w lo hi av (fs.map (·.2))
  row : w.ownsRow lo 52 2 v fs.length (flat fs av)
  lt : ∀ g, v.ownBlock = some g → g < hi
theorem OwnFA.own {w : World} {lo hi : Nat} {v : Value} {fs : List LFact} {av : List Value} (h : OwnFA w lo hi v fs av) : OwnFacts w lo hi v fs := ⟨av, h.args, h.row, h.lt⟩

theorem flat_set : ∀ (fs : List LFact) (av : List Value) (j : Nat) (f : LFact), av.length = fs.length → flat (fs.set j f) av = (flat fs av).set (j * 2) (.int .i64 f.1)
  | [], [], _, _, _ => rfl
  | [], a :: av, _, _, h => by simp at h
  | g :: fs, [], _, _, h => by simp at h
  | g :: fs, a :: av, 0, f, _ => by simp [flat]
  | g :: fs, a :: av, j + 1, f, h => by
    have := flat_set fs av j f (by simpa using h)
    simp [flat, Nat.add_mul, this]

/-- The block of a row of integers is no block of a row of facts. -/
theorem types_ne {w : World} {lo hi lo' g : Nat} {n : Nat} {v a : Value} {zs : List Value} {xs : List Int} (hr : w.ownsRow lo' 52 2 v n zs) (hv : v.ownBlock = some g) (ha : OwnInts w lo hi a xs) : a.ownBlock ≠ some g := by
  rcases hr.2 with ⟨rfl, _⟩ | ⟨g1, c1, cur1, rfl, _, h1, _⟩
  · cases hv
  · have e : g1 = g := by simpa [Value.ownBlock] using hv
    subst e
    rcases ha.1.2 with ⟨rfl, _⟩ | ⟨g2, c2, cur2, rfl, _, h2, _⟩
    · simp [Value.ownBlock]
    · intro e
      have e : g2 = g1 := by simpa [Value.ownBlock] using e
      subst e
      rw [h1] at h2
      injection h2 with h2
      injection h2 with _ h2
      exact absurd h2 (by decide)

theorem OwnFA.step {w w3 : World} {lo hi g j c : Nat} {fs : List LFact} {av : List Value} {p : Int} {ys : List Int} (h : OwnFA w lo hi (.slice (some ⟨g, 0, none⟩) fs.length c) fs av) (hj : j < fs.length) (hja : j < av.length)
    (hI : OwnInts w3 lo hi av[j] ys) (hg : (w.setCell ⟨g, j * 2, none⟩ (.int .i64 p)).grownBy w3 av[j].ownBlock) : OwnFA w3 lo hi (.slice (some ⟨g, 0, none⟩) fs.length c) (fs.set j (p, ys)) av := by
  obtain ⟨ha, hr, hlt⟩ := h
  have hlen : av.length = fs.length := by simpa using ha.len
  have hapart : ∀ i i' (hi' : i < av.length) (hi'' : i' < av.length), i ≠ i' → ∀ b, av[i].ownBlock = some b → av[i'].ownBlock ≠ some b := by
    intro i i' h1 h2 hne b hb hb'
    have hp := List.pairwise_iff_getElem.1 ha.apart
    rcases Nat.lt_or_gt_of_ne hne with hl | hl
    · exact hp i i' h1 h2 hl b hb hb'
    · exact hp i' i h2 h1 hl b hb' hb
  have hown : ∀ i (h1 : i < (fs.map (·.2)).length) (h2 : i < av.length), OwnInts w lo hi av[i] (fs.map (·.2))[i] := ha.own
  refine ⟨⟨by simp [hlen], fun i h1 h2 => ?_, ha.apart⟩, ?_, hlt⟩
  · by_cases e : i = j
    · subst e
      simpa using hI
    · have h0 := hown i (by simpa using h1) h2
      have hz : ((fs.set j (p, ys)).map (·.2))[i] = (fs.map (·.2))[i]'(by simpa using h1) := by
        simp [Ne.symm e]
      rw [hz]
      refine h0.kept fun b hb => ?_
      have hbg := types_ne hr rfl h0
      have hne : b ≠ g := fun e => hbg (by rw [hb, e])
      have hbl := h0.lt hb
      rw [hg.block b (by simpa using hbl.2.2) (fun e2 => hapart i j h2 hja e b hb e2.symm)]
      exact Below.heap_setCell _ _ _ _ hne
  · obtain ⟨hfl, hr2⟩ := hr
    have hgj := types_ne ⟨hfl, hr2⟩ rfl (hown j (by simpa using hj) hja)
    rcases hr2 with ⟨e, _⟩ | ⟨g', cap, cur, e, hbg, hgg, hn, hm, hs, ht⟩
    · cases e
    · injection e with e1 e2 e3
      injection e1 with e1
      injection e1 with e1 _ _
      subst e1
      subst e3
      have hgs := (Array.getElem?_eq_some_iff.1 hgg).1
      refine ⟨by rw [flat_set _ _ _ _ hlen]; simpa using hfl, .inr ⟨g, c, cur.setIfInBounds (j * 2) (.int .i64 p), by simp, hbg, ?_, by simpa using hn, hm, by simpa using hs, ?_⟩⟩
      · rw [hg.block g (by simpa using hgs) (fun e2 => hgj e2.symm)]
        simp [World.setCell, Array.getElem?_modify, hgg]
      · rw [flat_set _ _ _ _ hlen, List.length_set, Array.toList_setIfInBounds, List.take_set, ht]

theorem OwnFA.form {w : World} {lo hi : Nat} {v : Value} {fs : List LFact} {av : List Value} (h : OwnFA w lo hi v fs av) : ∃ A c, v = .slice A fs.length c ∧ (0 < fs.length → ∃ g, A = some ⟨g, 0, none⟩ ∧ lo ≤ g ∧ g < hi) := by
  rcases h.row.2 with ⟨rfl, h0⟩ | ⟨g, cap, _, rfl, hb, _⟩
  · exact ⟨none, 0, by rw [h0], fun hn => by omega⟩
  · exact ⟨_, _, rfl, fun _ => ⟨g, rfl, hb, h.lt g rfl⟩⟩
theorem OwnFacts.form {w : World} {lo hi : Nat} {v : Value} {fs : List LFact} (h : OwnFacts w lo hi v fs) : ∃ A c, v = .slice A fs.length c := by
  obtain ⟨av, h1, h2, h3⟩ := h
  obtain ⟨A, c, e, _⟩ := (OwnFA.mk h1 h2 h3).form
  exact ⟨A, c, e⟩
/-- What the walk reads of fact j. -/
theorem OwnFA.get {w : World} {lo hi g c j : Nat} {fs : List LFact} {av : List Value} (h : OwnFA w lo hi (.slice (some ⟨g, 0, none⟩) fs.length c) fs av) (hj : j < fs.length) (hja : j < av.length) :
    w.cell? ⟨g, j * 2, none⟩ = some (.int .i64 fs[j].1) ∧ w.frozen? ⟨g, j * 2, none⟩ = false ∧ w.cell? ⟨g, j * 2 + 1, none⟩ = some av[j] := by
  have hl : av.length = fs.length := by simpa using h.args.len
  have hcells := @World.ownsRow.cells w lo 52 2 _ fs.length (flat fs av) h.row g rfl
  have h1 := hcells _ _ (flat_at fs av hl j hj hja).1
  have h2 := hcells _ _ (flat_at fs av hl j hj hja).2
  rw [Go.WideShapes.add_plain, Nat.zero_add] at h1 h2
  refine ⟨h1, ?_, h2⟩
  rcases h.row.2 with ⟨e, _⟩ | ⟨g', cap, cur, e, _, hgg, _⟩
  · cases e
  · injection e with e1 _ _
    injection e1 with e1
    injection e1 with e1 _ _
    subst e1
    simp [World.frozen?, hgg]

set_option maxHeartbeats 1000000 in
set_option maxRecDepth 100000 in
theorem markFactS_any (v : Value) (fs : List LFact) (k : Int) (lo hi : Nat) (w : World) (h : OwnFacts w lo hi v fs) (hk0 : 0 ≤ k) (hk : k ≤ 4294967296) (hn : fs.length ≤ 1073741824) (ht : tot fs ≤ 1073741824) :
    Calls Tryz.prog 14 #[v, .int .i64 k] w fun e w' => e = .returned (.int .i64 (endF k fs)) ∧ OwnFacts w' lo hi v (markF k fs) ∧ Only lo hi w w' := by
  obtain ⟨av, h1, h2, h3⟩ := h
  have h : OwnFA w lo hi v fs av := ⟨h1, h2, h3⟩
  clear h1 h2 h3
  obtain ⟨A, c, hv, hform⟩ := h.form
  subst hv
  have hla : av.length = fs.length := by simpa using h.args.len
  have HLA := Lib.hid hla
  clear hla
  have H := Lib.hid h
  clear h
  go_enter Tryz.func14, Tryz.ntmps14
  go_wp2_with (fail)
  go_loopw [1, 5] (fun m i wr => ∃ (j : Nat) (q : Int), j ≤ fs.length ∧ i = .int .i64 j ∧ m = .int .i64 q ∧ q = endF k (fs.take j) ∧ OwnFA wr lo hi (.slice A fs.length c) (markedF fs k j) av ∧ Only lo hi w wr) (fun _ i _ => fs.length - (intOf i).toNat)
  case atStart => exact ⟨0, k, Nat.zero_le _, rfl, rfl, by rw [endF_zero], by rw [markedF_zero]; exact H.out, Only.refl _ _ _⟩
  case round =>
    obtain ⟨j, q, hj, rfl, rfl, hq, ho, hon⟩ := hrel
    by_cases hlt : j < fs.length
    · obtain ⟨g, rfl, hg1, hg2⟩ := hform (by omega)
      have hml := markedF_length (k := k) (Nat.le_of_lt hlt)
      have hja : j < av.length := by rw [HLA.out]; exact hlt
      have ho' : OwnFA wr lo hi (.slice (some ⟨g, 0, none⟩) (markedF fs k j).length c) (markedF fs k j) av := by rw [hml]; exact ho
      obtain ⟨c1, f1, c2⟩ := ho'.get (j := j) (by omega) hja
      have hI0 := ho.args.own j (by rw [List.length_map]; omega) hja
      have hat := markedF_at (k := k) hlt (by omega)
      rw [List.getElem_map, hat] at hI0
      rw [hat] at c1
      obtain ⟨A3, c3, hav⟩ := hI0.form
      rw [hav] at c2
      have hI1 := hI0.kept (w' := wr.setCell ⟨g, j * 2, none⟩ (.int .i64 q)) (fun b hb => Below.heap_setCell _ _ _ _ (fun e => types_ne ho'.row rfl hI0 (by rw [hb, e])))
      rw [hav] at hI1
      have hqb : 0 ≤ q ∧ q ≤ 8589934592 := by
        have h1 := tot_take_le fs j
        have h2 : (fs.take j).length ≤ fs.length := by rw [List.length_take]; omega
        subst hq
        simp only [endF] at *
        omega
      obtain ⟨hq0, hq1⟩ := hqb
      have hln := len_le_tot fs j hlt
      have HI := Lib.hid hI1
      have HO := Lib.hid (And.intro ho' (And.intro hml (And.intro hav hq)))
      clear hI0 hI1 ho ho' hml hat hq
      go_wp2_with (fail)
      refine (markIntS_any _ fs[j].2 (q + 1) lo hi _ HI.out (by omega) (by omega)).mono ?_
      rintro e w3 ⟨rfl, ho3, hg3⟩
      obtain ⟨hOF, hml, hav, hq⟩ := HO.out
      have hst := hOF.step (j := j) (by omega) hja (by rw [hav]; exact ho3) (by rw [hav]; exact hg3)
      rw [hml, hq, markedF_step hlt] at hst
      have hE := endF_step (k := k) hlt
      have hon3 : Only lo hi w w3 := (hon.setCell (p := ⟨g, j * 2, none⟩) ⟨hg1, hg2⟩ _).trans (Only.of_grown hg3 (fun b hb => by have := HI.out.lt hb; omega))
      have HS := Lib.hid (And.intro hst (show q + 1 + (fs[j].2.length : Int) = endF k (fs.take (j + 1)) by rw [hE, hq]))
      clear hst hOF hml hav hq hE
      go_wp2_with (fail)
      go_roundw
      case rel => exact ⟨j + 1, _, by omega, by go_num, rfl, HS.out.2, HS.out.1, hon3⟩
      case measure => simp [intOf]; omega
    · have hkn : j = fs.length := by omega
      have HO := Lib.hid (show OwnFacts wr lo hi (.slice A fs.length c) (markF k fs) by rw [← markedF_all, ← hkn]; rw [← hkn] at ho; exact ho.own)
      have HK := Lib.hid (show q = endF k fs by rw [hq, hkn, List.take_length])
      clear hkn ho hq
      go_wp2_with (fail)
      go_ret
      exact ⟨ret_int HK.out, HO.out, hon⟩

theorem endF_bound {fs : List LFact} {k : Int} (j : Nat) (hk0 : 0 ≤ k) (hk : k ≤ 4294967296) (hn : fs.length ≤ 1073741824) (ht : tot fs ≤ 1073741824) : 0 ≤ endF k (fs.take j) ∧ endF k (fs.take j) ≤ 8589934592 := by
  have h1 := tot_take_le fs j
  have h2 : (fs.take j).length ≤ fs.length := by rw [List.length_take]; omega
  simp only [endF]
  omega

end Go.Proofs.YtebincnejcmocaaGreat
/-
  The relation of a loop that collects facts.
-/
namespace Go.Proofs.YtebincnejcmocaaGreat
open Go.RowKit

/-- One fact more, behind append. -/
theorem OwnFA.push {wr w2 w4 : World} {lo hi : Nat} {v v' a : Value} {gs : List LFact} {av : List Value} {f : LFact} {o : Obj} (h : OwnFA wr lo hi v gs av) (hhi : hi ≤ wr.heap.size) (hlo : lo ≤ hi) (hb : Below wr.heap.size wr w2)
    (ha : OwnInts w2 wr.heap.size w2.heap.size a f.2) (hg : (w2.alloc o).grownBy w4 v.ownBlock) (hown : w4.ownsRow lo 52 2 v' (gs.length + 1) (flat gs av ++ [.int .i64 f.1, a])) : OwnFacts w4 lo w4.heap.size v' (gs ++ [f]) := by
  have hg' := grown_from_alloc hg
  have hlen : av.length = gs.length := by simpa using h.args.len
  have hrow2 := ownsRow_below h.row h.lt hb hhi
  have hargs2 : OwnArgs w2 lo w2.heap.size (av ++ [a]) (gs.map (·.2) ++ [f.2]) := ((h.args.below hb hhi).mono (Nat.le_refl _) hhi).snoc ha (by omega) hb.size
  refine ⟨av ++ [a], ⟨by simp [hlen], fun i h1 h2 => ?_, hargs2.apart⟩, ?_, fun g hg2 => (hown.lt g hg2).2⟩
  · have h0 := hargs2.own i (by simpa using h1) h2
    have hz : ((gs ++ [f]).map (·.2))[i] = (gs.map (·.2) ++ [f.2])[i]'(by simpa using h1) := by simp
    rw [hz]
    refine (h0.kept fun b hbk => hg'.block b (h0.lt hbk).2.2 (fun e => types_ne hrow2 e.symm h0 hbk)).mono (Nat.le_refl _) ?_
    exact hg'.size
  · rw [flat_snoc _ _ hlen, List.length_append, List.length_singleton]
    exact hown

/-- The relation of a loop that collects facts. -/
structure ColRel (w wr : World) (gs : List LFact) (A : Option Addr) (c : Nat) (av : List Value) : Prop where
  below : Below w.heap.size w wr
  own : OwnFA wr w.heap.size wr.heap.size (.slice A gs.length c) gs av

theorem ColRel.nil (w : World) : ColRel w w [] none 0 [] := ⟨Below.refl _ _, ⟨.nil, World.ownsRow_nil _ _ _ _, fun g hg => by cases hg⟩⟩

theorem ColRel.empty (w : World) : ColRel w (w.alloc (.cells #[] 52)) [] (some ⟨w.heap.size, 0, none⟩) 0 [] :=
  ⟨below1 _ _, ⟨.nil, World.ownsRow_made w #[] 0 (Nat.le_refl _) (by decide) rfl, fun g hg => by simp [Value.ownBlock] at hg; subst hg; simp⟩⟩

theorem news2 (w : World) (x y : Value) (t : TypeId) : ∀ j u, [x, y][j]? = some u → (w.alloc (.cells #[x, y] t)).cell? ((⟨w.heap.size, 0, none⟩ : Addr).add j) = some u := World.news_of_block (cs := #[x, y]) (heap_alloc_new w _)

/-- .. and one fact more in its relation. -/
theorem ColRel.push {w wr w2 w4 : World} {gs gs' : List LFact} {A : Option Addr} {c g cap : Nat} {av : List Value} {f : LFact} {a : Value} {o : Obj} (h : ColRel w wr gs A c av) (e : gs' = gs ++ [f]) (hb : Below wr.heap.size wr w2)
    (ha : OwnInts w2 wr.heap.size w2.heap.size a f.2) (hg : (w2.alloc o).grownBy w4 (Value.slice A gs.length c).ownBlock) (hown : w4.ownsRow w.heap.size 52 2 (.slice (some ⟨g, 0, none⟩) (gs.length + 1) cap) (gs.length + 1) (flat gs av ++ [.int .i64 f.1, a])) :
    ∃ av', ColRel w w4 gs' (some ⟨g, 0, none⟩) cap av' ∧ gs.length + 1 = gs'.length := by
  subst e
  obtain ⟨av', h1, h2, h3⟩ := h.own.push (Nat.le_refl _) h.below.size hb ha hg hown
  have hl : gs.length + 1 = (gs ++ [f]).length := by simp
  refine ⟨av', ⟨((bthen h.below hb).alloc (bthen h.below hb).size _).grown hg (by have := (bthen h.below hb).size; simp; omega) (fun k hk => (h.own.row.lt k hk).1), ?_⟩, hl⟩
  rw [← hl]
  exact ⟨h1, h2, h3⟩

/-- A world that only grew keeps the relation. -/
theorem ColRel.on {w wr w2 : World} {gs : List LFact} {A : Option Addr} {c : Nat} {av : List Value} (h : ColRel w wr gs A c av) (hb : Below wr.heap.size wr w2) : ColRel w w2 gs A c av :=
  ⟨bthen h.below hb, ⟨(h.own.args.below hb (Nat.le_refl _)).mono (Nat.le_refl _) hb.size, ownsRow_below h.own.row h.own.lt hb (Nat.le_refl _), fun g hg => Nat.lt_of_lt_of_le (h.own.lt g hg) hb.size⟩⟩

end Go.Proofs.YtebincnejcmocaaGreat
/-
  The walk of the specification's FactsWith.
-/
namespace Go.Proofs.YtebincnejcmocaaGreat
open Go.RowKit

/-- append of one copied fact onto the row that a loop collects. -/
theorem wpList_push {ops : Array Oper} {rest : List Oper} {op : Oper} {a : Act} {Q : Exit → Act → World → Prop} (hgd : op.guard = none) (s x : Operand)
    (ho : op.op = .call { callee := .builtin .append, args := #[s, x], argTypes := #[28, 28] })
    {w wr w2 : World} {gs : List LFact} {A A4 : Option Addr} {c c4 : Nat} {av : List Value} {f : LFact} (h : ColRel w wr gs A c av) (hb : Below wr.heap.size wr w2) (ha : OwnInts w2 wr.heap.size w2.heap.size (.slice A4 f.2.length c4) f.2)
    {n : Nat} (hnl : n = gs.length) (hs : a.eval s = .slice A n c) (hx : a.eval x = .slice (some ⟨w2.heap.size, 0, none⟩) 1 1) (hn : gs.length ≤ 1073741824)
    (K : ∀ g cap w4 av', ColRel w w4 (gs ++ [f]) (some ⟨g, 0, none⟩) cap av' → w2.grownBy w4 (Value.slice A gs.length c).ownBlock → wpList Tryz.prog ops Q rest (a.put op.dst (.slice (some ⟨g, 0, none⟩) (n + 1) cap)) w4) :
    wpList Tryz.prog ops Q (op :: rest) a (w2.alloc (.cells #[.int .i64 f.1, .slice A4 f.2.length c4] 52)) := by
  subst hnl
  obtain ⟨i0, hi0, hz0, hz1, hz2⟩ := info_parts Tryz.infoFact
  refine wpList_append_lies _ hgd s x 28 ho w.heap.size 52 i0 (.agg #[.int .i64 0, .slice none 0 0]) 2 32 Tryz.underlying28 hi0 hz0 hz1 hz2 rfl (by decide) (.slice A gs.length c) gs.length (flat gs av) hs ?_ ⟨w2.heap.size, 0, none⟩ 1 1 [.int .i64 f.1, .slice A4 f.2.length c4] hx rfl (news2 _ _ _ _) ?_ (by omega) (by unfold maxLen; omega) (by omega) ?_ _ rfl ?_
  · exact (ownsRow_below h.own.row h.own.lt hb (Nat.le_refl _)).alloc _
  · intro u hu
    simp at hu
    rcases hu with rfl | rfl <;> rfl
  · have := h.below.size
    have := hb.size
    simp
    omega
  intro g cap w4 hown hg _ _
  obtain ⟨av', hcol, _⟩ := h.push rfl hb ha hg hown
  exact K g cap w4 av' hcol (grown_from_alloc hg)

def withStep (f : LFact) (s : List LFact × Bool) (g : LFact) : List LFact × Bool :=
  ((if s.2 = false ∧ factOrder f g ≤ 0 then s.1 ++ [f] else s.1) ++ (if factOrder f g = 0 then [] else [g]), s.2 || decide (factOrder f g ≤ 0))
def withTo (fs : List LFact) (f : LFact) (k : Nat) : List LFact × Bool := (fs.take k).foldl (withStep f) ([], false)
def factsWith (fs : List LFact) (f : LFact) : List LFact := if (withTo fs f fs.length).2 then (withTo fs f fs.length).1 else (withTo fs f fs.length).1 ++ [f]
theorem withTo_step {fs : List LFact} {f : LFact} {k : Nat} (h : k < fs.length) : withTo fs f (k + 1) = withStep f (withTo fs f k) fs[k] := by
  unfold withTo
  rw [take_snoc fs k h, List.foldl_append]
  rfl
theorem withTo_bound (fs : List LFact) (f : LFact) : ∀ k, k ≤ fs.length → (withTo fs f k).1.length ≤ k + (if (withTo fs f k).2 then 1 else 0) ∧ tot (withTo fs f k).1 ≤ tot (fs.take k) + (if (withTo fs f k).2 then f.2.length else 0)
  | 0, _ => by simp [withTo, tot]
  | k + 1, hk => by
    have ih := withTo_bound fs f k (by omega)
    rw [withTo_step (by omega), tot_take fs k (by omega)]
    obtain ⟨h1, h2⟩ := ih
    unfold withStep
    cases hp : (withTo fs f k).2 <;> by_cases h0 : factOrder f fs[k] = 0 <;> by_cases hle : factOrder f fs[k] ≤ 0 <;> simp [hp, h0, hle, tot_append, tot_cons] at h1 h2 ⊢ <;> simp [tot] at h2 ⊢ <;> omega

theorem factsWith_bound (fs : List LFact) (f : LFact) : (factsWith fs f).length ≤ fs.length + 1 ∧ tot (factsWith fs f) ≤ tot fs + f.2.length := by
  have h := withTo_bound fs f fs.length (Nat.le_refl _)
  rw [List.take_length] at h
  unfold factsWith
  cases hp : (withTo fs f fs.length).2 <;> simp [hp, tot_append, tot_cons] at h ⊢ <;> simp [tot] at h ⊢ <;> omega

end Go.Proofs.YtebincnejcmocaaGreat
/-
  Facts in order, plain mathematics: the order, lists that ascend, FactsWith on them, and that their members determine them.
-/
namespace Go.Proofs.YtebincnejcmocaaGreat

theorem cmpI_neg {a b : Int} : cmpI a b < 0 ↔ a < b := by
  unfold cmpI
  split
  · simp; assumption
  · split <;> simp <;> omega
theorem cmpI_pos {a b : Int} : 0 < cmpI a b ↔ b < a := by
  unfold cmpI
  split
  · simp; omega
  · split <;> simp <;> omega
theorem cmpL_eq : ∀ {xs ys : List Int}, cmpL xs ys = 0 → xs = ys
  | [], [], _ => rfl
  | [], _ :: _, h => by simp [cmpL] at h
  | _ :: _, [], h => by simp [cmpL] at h
  | x :: xs, y :: ys, h => by
    unfold cmpL at h
    split at h
    · rename_i e
      rw [e, cmpL_eq h]
    · exact absurd (cmpI_zero h) (by assumption)
theorem cmpL_refl : ∀ xs : List Int, cmpL xs xs = 0
  | [] => rfl
  | x :: xs => by simp [cmpL, cmpL_refl xs]
theorem cmpL_flip : ∀ {xs ys : List Int}, cmpL xs ys < 0 ↔ 0 < cmpL ys xs
  | [], [] => by simp [cmpL]
  | [], _ :: _ => by simp [cmpL]
  | _ :: _, [] => by simp [cmpL]
  | x :: xs, y :: ys => by
    unfold cmpL
    by_cases e : x = y
    · subst e
      simpa using cmpL_flip
    · rw [if_neg e, if_neg (fun h => e h.symm), cmpI_neg, cmpI_pos]
theorem cmpL_less : ∀ {xs ys zs : List Int}, cmpL xs ys < 0 → cmpL ys zs < 0 → cmpL xs zs < 0
  | [], [], _, h, _ => by simp [cmpL] at h
  | [], _ :: _, [], _, h => by simp [cmpL] at h
  | [], _ :: _, _ :: _, _, _ => by simp [cmpL]
  | _ :: _, [], _, h, _ => by simp [cmpL] at h
  | _ :: _, _ :: _, [], _, h => by simp [cmpL] at h
  | x :: xs, y :: ys, z :: zs, h1, h2 => by
    unfold cmpL at h1 h2 ⊢
    by_cases e1 : x = y
    · subst e1
      by_cases e2 : x = z
      · simp only [e2, if_true] at h1 h2 ⊢
        exact cmpL_less h1 h2
      · simpa [e2] using h2
    · by_cases e2 : y = z
      · subst e2
        simpa [e1] using h1
      · rw [if_neg e1] at h1
        rw [if_neg e2] at h2
        rw [cmpI_neg] at h1 h2
        rw [if_neg (by omega), cmpI_neg]
        omega

theorem order_eq {f g : LFact} (h : factOrder f g = 0) : f = g := by
  unfold factOrder at h
  split at h
  · exact Prod.ext (by assumption) (cmpL_eq h)
  · exact absurd (cmpI_zero h) (by assumption)
theorem order_refl (f : LFact) : factOrder f f = 0 := by simp [factOrder, cmpL_refl]
theorem order_flip {f g : LFact} : factOrder f g < 0 ↔ 0 < factOrder g f := by
  unfold factOrder
  by_cases e : f.1 = g.1
  · rw [if_pos e, if_pos e.symm]
    exact cmpL_flip
  · rw [if_neg e, if_neg (fun h => e h.symm), cmpI_neg, cmpI_pos]
theorem order_less {f g h : LFact} (h1 : factOrder f g < 0) (h2 : factOrder g h < 0) : factOrder f h < 0 := by
  unfold factOrder at h1 h2 ⊢
  by_cases e1 : f.1 = g.1
  · by_cases e2 : g.1 = h.1
    · rw [if_pos e1] at h1
      rw [if_pos e2] at h2
      rw [if_pos (e1.trans e2)]
      exact cmpL_less h1 h2
    · rw [if_neg e2] at h2
      rw [if_neg (fun e => e2 (e1.symm.trans e)), e1]
      exact h2
  · by_cases e2 : g.1 = h.1
    · rw [if_neg e1] at h1
      rw [if_neg (fun e => e1 (e.trans e2.symm)), ← e2]
      exact h1
    · rw [if_neg e1, cmpI_neg] at h1
      rw [if_neg e2, cmpI_neg] at h2
      rw [if_neg (by omega), cmpI_neg]
      omega
theorem order_cases (f g : LFact) : factOrder f g < 0 ∨ f = g ∨ factOrder g f < 0 := by
  rcases Int.lt_trichotomy (factOrder f g) 0 with h | h | h
  · exact .inl h
  · exact .inr (.inl (order_eq h))
  · exact .inr (.inr (order_flip.2 h))

/-- The list ascends, each fact once. -/
def Asc (l : List LFact) : Prop := l.Pairwise fun f g => factOrder f g < 0

/-- Lists that ascend and have the same members are the same. -/
theorem Asc.unique : ∀ {l m : List LFact}, Asc l → Asc m → (∀ f, f ∈ l ↔ f ∈ m) → l = m
  | [], [], _, _, _ => rfl
  | [], g :: m, _, _, h => absurd ((h g).2 (List.mem_cons_self ..)) (by simp)
  | f :: l, [], _, _, h => absurd ((h f).1 (List.mem_cons_self ..)) (by simp)
  | f :: l, g :: m, hl, hm, h => by
    have hl' := List.pairwise_cons.1 hl
    have hm' := List.pairwise_cons.1 hm
    have e : f = g := by
      rcases List.mem_cons.1 ((h f).1 (List.mem_cons_self ..)) with e | e
      · exact e
      rcases List.mem_cons.1 ((h g).2 (List.mem_cons_self ..)) with e' | e'
      · exact e'.symm
      have h1 := hm'.1 f e
      have h2 := hl'.1 g e'
      have := order_less h1 h2
      rw [order_refl] at this
      omega
    subst e
    refine congrArg (f :: ·) (Asc.unique hl'.2 hm'.2 fun x => ⟨fun hx => ?_, fun hx => ?_⟩)
    · rcases List.mem_cons.1 ((h x).1 (List.mem_cons_of_mem _ hx)) with e | e
      · subst e
        have := hl'.1 x hx
        rw [order_refl] at this
        omega
      · exact e
    · rcases List.mem_cons.1 ((h x).2 (List.mem_cons_of_mem _ hx)) with e | e
      · subst e
        have := hm'.1 x hx
        rw [order_refl] at this
        omega
      · exact e

/-- Insertion. -/
def ins (f : LFact) : List LFact → List LFact
  | [] => [f]
  | g :: l => if factOrder f g < 0 then f :: g :: l else if factOrder f g = 0 then f :: l else g :: ins f l

theorem ins_mem (f : LFact) : ∀ (l : List LFact) (x : LFact), x ∈ ins f l ↔ x = f ∨ x ∈ l
  | [], x => by simp [ins]
  | g :: l, x => by
    unfold ins
    split
    · simp
    · split
      · have e := order_eq (by assumption : factOrder f g = 0)
        subst e
        simp
      · simp [ins_mem f l x]
        constructor
        · rintro (h | h | h) <;> simp [h]
        · rintro (h | h | h) <;> simp [h]
theorem Asc.ins {f : LFact} : ∀ {l : List LFact}, Asc l → Asc (ins f l)
  | [], _ => by simp [Go.Proofs.YtebincnejcmocaaGreat.ins, Asc]
  | g :: l, h => by
    have h' := List.pairwise_cons.1 h
    unfold Go.Proofs.YtebincnejcmocaaGreat.ins
    split
    · rename_i hlt
      refine List.pairwise_cons.2 ⟨fun x hx => ?_, h⟩
      rcases List.mem_cons.1 hx with e | e
      · rw [e]; exact hlt
      · exact order_less hlt (h'.1 x e)
    · split
      · have e := order_eq (by assumption : factOrder f g = 0)
        subst e
        exact h
      · refine List.pairwise_cons.2 ⟨fun x hx => ?_, Asc.ins h'.2⟩
        rcases (ins_mem f l x).1 hx with e | e
        · subst e
          rcases order_cases x g with h1 | h1 | h1
          · exact absurd h1 (by assumption)
          · subst h1
            exact absurd (order_refl x) (by assumption)
          · exact h1
        · exact h'.1 x e

/-- FactsWith's fold, from a state where the fact is placed already and the rest ascends behind it. -/
theorem withStep_placed (f : LFact) : ∀ (l : List LFact) (out : List LFact), (∀ g ∈ l, factOrder f g ≠ 0) → l.foldl (withStep f) (out, true) = (out ++ l, true)
  | [], out, _ => by simp
  | g :: l, out, h => by
    have h0 := h g (List.mem_cons_self ..)
    simp only [List.foldl_cons, withStep]
    simp [h0]
    rw [withStep_placed f l (out ++ [g]) fun x hx => h x (List.mem_cons_of_mem _ hx)]
    simp

def endW (f : LFact) (s : List LFact × Bool) : List LFact := if s.2 then s.1 else s.1 ++ [f]
theorem withStep_fold (f : LFact) : ∀ (l : List LFact) (out : List LFact), Asc l → endW f (l.foldl (withStep f) (out, false)) = out ++ ins f l
  | [], out, _ => by simp [ins, endW]
  | g :: l, out, h => by
    have h' := List.pairwise_cons.1 h
    simp only [List.foldl_cons]
    rcases Int.lt_trichotomy (factOrder f g) 0 with h1 | h1 | h1
    · have e : withStep f (out, false) g = (out ++ [f] ++ [g], true) := by
        simp [withStep, show factOrder f g ≤ 0 by omega, show factOrder f g ≠ 0 by omega]
      rw [e, withStep_placed f l _ fun x hx => by have := order_less h1 (h'.1 x hx); omega]
      simp [ins, h1, endW]
    · have e : withStep f (out, false) g = (out ++ [f], true) := by
        simp [withStep, h1]
      have e2 := order_eq h1
      subst e2
      rw [e, withStep_placed f l _ fun x hx => by have := h'.1 x hx; omega]
      simp [ins, order_refl, endW]
    · have e : withStep f (out, false) g = (out ++ [g], false) := by
        simp [withStep, show ¬ factOrder f g ≤ 0 by omega, show factOrder f g ≠ 0 by omega]
      rw [e, withStep_fold f l _ h'.2]
      simp [ins, show ¬ factOrder f g < 0 by omega, show factOrder f g ≠ 0 by omega]

/-- FactsWith on a list that ascends is insertion. -/
theorem Asc.with_ {l : List LFact} (h : Asc l) (f : LFact) : factsWith l f = Go.Proofs.YtebincnejcmocaaGreat.ins f l := by
  have := withStep_fold f l [] h
  unfold endW at this
  unfold factsWith withTo
  rw [List.take_length]
  simpa using this

/-- Facts laid into a list, one after another. -/
def setOf (l : List LFact) : List LFact := l.foldl factsWith []
theorem foldWith : ∀ (l : List LFact) (out : List LFact), Asc out → Asc (l.foldl factsWith out) ∧ ∀ x, x ∈ l.foldl factsWith out ↔ x ∈ out ∨ x ∈ l
  | [], out, h => by simpa using h
  | f :: l, out, h => by
    have h1 : Asc (factsWith out f) := by rw [h.with_ f]; exact h.ins
    obtain ⟨h2, h3⟩ := foldWith l _ h1
    refine ⟨h2, fun x => ?_⟩
    rw [List.foldl_cons, h3 x, h.with_ f, ins_mem]
    simp only [List.mem_cons]
    constructor
    · rintro ((h | h) | h) <;> simp [h]
    · rintro (h | h | h) <;> simp [h]
theorem setOf_asc (l : List LFact) : Asc (setOf l) := (foldWith l [] List.Pairwise.nil).1
theorem setOf_mem (l : List LFact) (x : LFact) : x ∈ setOf l ↔ x ∈ l := by
  rw [setOf, (foldWith l [] List.Pairwise.nil).2 x]
  simp

/-- The list ascends, a fact perhaps more than once. -/
def Up (l : List LFact) : Prop := l.Pairwise fun f g => factOrder f g ≤ 0
/-- Of equal neighbours the last one. -/
def compactL : List LFact → List LFact
  | [] => []
  | [f] => [f]
  | f :: g :: l => if factOrder f g = 0 then compactL (g :: l) else f :: compactL (g :: l)
theorem compactL_mem : ∀ (l : List LFact) (x : LFact), x ∈ compactL l ↔ x ∈ l
  | [], x => by simp [compactL]
  | [f], x => by simp [compactL]
  | f :: g :: l, x => by
    unfold compactL
    split
    · have e := order_eq (by assumption : factOrder f g = 0)
      subst e
      rw [compactL_mem (f :: l) x]
      simp
    · rw [List.mem_cons, compactL_mem (g :: l) x]
      simp
theorem Up.asc : ∀ {l : List LFact}, Up l → Asc (compactL l)
  | [], _ => List.Pairwise.nil
  | [f], _ => by simp [compactL, Asc]
  | f :: g :: l, h => by
    have h' := List.pairwise_cons.1 h
    unfold compactL
    split
    · exact Up.asc h'.2
    · refine List.pairwise_cons.2 ⟨fun x hx => ?_, Up.asc h'.2⟩
      rw [compactL_mem] at hx
      have hfg : factOrder f g < 0 := by
        have := h'.1 g (List.mem_cons_self ..)
        omega
      rcases List.mem_cons.1 hx with e | e
      · rw [e]; exact hfg
      · have h2 := (List.pairwise_cons.1 h'.2).1 x e
        rcases Int.lt_trichotomy (factOrder g x) 0 with h3 | h3 | h3
        · exact order_less hfg h3
        · rw [← order_eq h3]; exact hfg
        · omega

/-- Sorted and compacted, and laid one after another: the same. -/
theorem compact_setOf {s l : List LFact} (h : Up s) (hm : ∀ x, x ∈ s ↔ x ∈ l) : compactL s = setOf l :=
  h.asc.unique (setOf_asc l) fun x => by rw [compactL_mem, setOf_mem, hm]
theorem compact_filter {s l : List LFact} (h : Up s) (hm : ∀ x, x ∈ s ↔ x ∈ l) (p : LFact → Bool) : (compactL s).filter p = setOf (l.filter p) :=
  Asc.unique (h.asc.filter p) (setOf_asc _) fun x => by rw [List.mem_filter, compactL_mem, setOf_mem, List.mem_filter, hm]

end Go.Proofs.YtebincnejcmocaaGreat
/-
  Solving literal by literal, plain mathematics: what makes all asked literals hold, each once.
-/
namespace Go.Proofs.YtebincnejcmocaaGreat
open Go.RowKit

/-- A literal, and the facts of which it is asked. -/
abbrev LQ := LLit × List LFact
def holdsQ (q : LQ) (b : List Int) : Bool := litHolds q.2 q.1 b

theorem factsHas_in (ys : List LFact) (f : LFact) : factsHas ys f = decide (f ∈ ys) := by
  unfold factsHas
  by_cases h : f ∈ ys
  · rw [decide_eq_true h]
    exact List.any_eq_true.2 ⟨f, h, by rw [order_refl]; rfl⟩
  · rw [decide_eq_false h]
    refine List.any_eq_false.2 fun g hg e => h ?_
    have e0 : factOrder g f = 0 := by simpa using e
    rw [← order_eq e0]
    exact hg

/-- An atom whose variables all have something is a fact. -/
theorem headOk_dom {a : LFact} {b : List Int} {K : Nat} (hb : bindOk b = true) (ha : a.2.all termOk = true) (hd : DomB b K) (hs : ∀ v, v < 4 → (maskOf a.2).testBit v = true → K.testBit v = true) : headOk a b = true := by
  refine headOk_yes hb ha (List.all_eq_true.2 fun x hx => ?_)
  obtain ⟨t, ht, rfl⟩ := List.mem_map.1 hx
  have htk : termOk t = true := List.all_eq_true.1 ha t ht
  have hbd := termVal_bounds hb htk
  rcases term_cases htk with h | ⟨v, hv, rfl⟩
  · rw [termVal_const h.1]
    simp [constOk]
    exact h
  · have := (hd v hv).2 (hs v hv ((maskOf_bit hv a.2).2 ht))
    rw [termVal_v] at hbd ⊢
    unfold constOk
    exact decide_eq_true (by omega)
/-- What a literal says hangs on its variables alone. -/
theorem map_same {xs : List Int} {b c : List Int} (ht : xs.all termOk = true) (e : ∀ v, v < 4 → (maskOf xs).testBit v = true → b.getD v (-1) = c.getD v (-1)) : xs.map (termVal b) = xs.map (termVal c) :=
  List.map_congr_left fun t h => termVal_same (List.all_eq_true.1 ht t h) fun v hv et => e v hv ((maskOf_bit hv xs).2 (et ▸ h))
theorem getD_same {xs : List Int} {b c : List Int} (h : xs.map (termVal b) = xs.map (termVal c)) (hl : xs.length = 2) (i : Nat) (hi : i < 2) : termVal b (xs.getD i 0) = termVal c (xs.getD i 0) := by
  have hi' : i < xs.length := by omega
  have h1 : (xs.map (termVal b))[i]? = (xs.map (termVal c))[i]? := by rw [h]
  simp only [List.getElem?_map, List.getElem?_eq_getElem hi', Option.map_some, Option.some.injEq] at h1
  simpa [List.getD_eq_getElem?_getD, List.getElem?_eq_getElem hi'] using h1
theorem holdsQ_same {q : LQ} {b c : List Int} (hb : bindOk b = true) (hc : bindOk c = true) (ht : q.1.2.2.all termOk = true) (e : ∀ v, v < 4 → (maskOf q.1.2.2).testBit v = true → b.getD v (-1) = c.getD v (-1)) : holdsQ q b = holdsQ q c := by
  have hm := map_same ht e
  unfold holdsQ litHolds
  split
  · by_cases hl : q.1.2.2.length = 2
    · rw [getD_same hm hl 0 (by omega), getD_same hm hl 1 (by omega)]
    · rw [decide_eq_false hl, Bool.false_and, Bool.false_and]
  · have h1 : headOk q.1.2 b = headOk q.1.2 c := by unfold headOk; rw [hm, hb, hc]
    have h2 : headOf q.1.2 b = headOf q.1.2 c := by unfold headOf; rw [h1, hm]
    rw [h1, h2]
theorem holds_yes {q : LQ} {b : List Int} (hk : q.1.1 = 0) (ho : headOk q.1.2 b = true) : holdsQ q b = true ↔ (q.1.2.1, q.1.2.2.map (termVal b)) ∈ q.2 := by
  unfold holdsQ litHolds
  rw [if_neg (by omega), ho, headOf_yes ho, factsHas_in, hk]
  simp
theorem holds_no {q : LQ} {b : List Int} (hk : q.1.1 = 1) (ho : headOk q.1.2 b = true) : holdsQ q b = true ↔ (q.1.2.1, q.1.2.2.map (termVal b)) ∉ q.2 := by
  unfold holdsQ litHolds
  rw [if_neg (by omega), ho, headOf_yes ho, factsHas_in, hk]
  simp

/-- What makes all literals hold, of the variables K, each once. -/
structure Sols (K : Nat) (Q : List LQ) (S : List (List Int)) : Prop where
  nodup : S.Nodup
  mem : ∀ b, b ∈ S ↔ bindOk b = true ∧ DomB b K ∧ ∀ q ∈ Q, holdsQ q b = true
  vars : ∀ q ∈ Q, ∀ v, v < 4 → (maskOf q.1.2.2).testBit v = true → K.testBit v = true
  terms : ∀ q ∈ Q, q.1.2.2.all termOk = true

theorem sols_start : Sols 0 [] [noneB] where
  nodup := by simp
  mem b := by
    rw [List.mem_singleton]
    constructor
    · rintro rfl
      refine ⟨noneB_ok, fun v hv => ?_, fun q hq => by cases hq⟩
      match v, hv with
      | 0, _ => simp [noneB]
      | 1, _ => simp [noneB]
      | 2, _ => simp [noneB]
      | 3, _ => simp [noneB]
    · rintro ⟨hb, hd, _⟩
      refine bind_ext hb noneB_ok fun v hv => ?_
      have := hd v hv
      have hbv : b.getD v (-1) = -1 := by
        rcases Decidable.em (b.getD v (-1) = -1) with h2 | h2
        · exact h2
        · exact absurd (this.1 h2) (by simp)
      rw [hbv]
      match v, hv with
      | 0, _ => rfl
      | 1, _ => rfl
      | 2, _ => rfl
      | 3, _ => rfl
  vars q hq := by cases hq
  terms q hq := by cases hq

section
variable {K M V : Nat} {s r b : List Int}
theorem over_s (hb : bindOk s = true) (hr : bindOk r = true) (hd : DomB s K) : restr K (over s r) = s := by
  refine bind_ext (restr_ok (over_ok hb hr) K) hb fun v hv => ?_
  rw [restr_at hv, over_at hv]
  unfold over1
  by_cases e : K.testBit v = true
  · rw [if_pos e, if_neg ((hd v hv).2 e)]
  · rw [if_neg e]
    rcases Decidable.em (s.getD v (-1) = -1) with h2 | h2
    · exact h2.symm
    · exact absurd ((hd v hv).1 h2) e
/-- The same in what both know. -/
def Agree (s r : List Int) : Prop := ∀ u, u < 4 → s.getD u (-1) = -1 ∨ r.getD u (-1) = -1 ∨ s.getD u (-1) = r.getD u (-1)
theorem over_r (hb : bindOk s = true) (hr : bindOk r = true) (hd : DomB r M) (ha : Agree s r) : restr M (over s r) = r := by
  refine bind_ext (restr_ok (over_ok hb hr) M) hr fun v hv => ?_
  rw [restr_at hv, over_at hv]
  unfold over1
  by_cases e : M.testBit v = true
  · rw [if_pos e]
    have := (hd v hv).2 e
    rcases ha v hv with h | h | h
    · rw [if_pos h]
    · exact absurd h this
    · rw [← h]
      split <;> simp_all
  · rw [if_neg e]
    rcases Decidable.em (r.getD v (-1) = -1) with h2 | h2
    · exact h2.symm
    · exact absurd ((hd v hv).1 h2) e
theorem over_dom (hs : DomB s K) (hr : DomB r M) : DomB (over s r) (K ||| M) := fun v hv => by
  rw [over_at hv, Nat.testBit_or, Bool.or_eq_true, ← hs v hv, ← hr v hv]
  unfold over1
  by_cases e : s.getD v (-1) = -1
  · rw [if_pos e]
    simp only [List.getD_eq_getElem?_getD] at e ⊢
    simp [e]
  · rw [if_neg e]
    exact ⟨fun _ => .inl e, fun _ => e⟩
theorem over_back (hb : bindOk b = true) (hd : DomB b (K ||| M)) : over (restr K b) (restr M b) = b := by
  refine bind_ext (over_ok (restr_ok hb K) (restr_ok hb M)) hb fun v hv => ?_
  rw [over_at hv, restr_at hv, restr_at hv]
  unfold over1
  have h := hd v hv
  rw [Nat.testBit_or, Bool.or_eq_true] at h
  by_cases e : K.testBit v = true
  · rw [if_pos e]
    by_cases e2 : M.testBit v = true
    · rw [if_pos e2]; split <;> simp_all
    · rw [if_neg e2]; split <;> simp_all
  · rw [if_neg e, if_pos rfl]
    by_cases e2 : M.testBit v = true
    · rw [if_pos e2]
    · rw [if_neg e2]
      rcases Decidable.em (b.getD v (-1) = -1) with h2 | h2
      · exact h2.symm
      · rcases h.1 h2 with h3 | h3
        · exact absurd h3 e
        · exact absurd h3 e2
/-- Two that have the same in the shared variables agree. -/
theorem agree_of (hb : bindOk s = true) (hr : bindOk r = true) (hs : DomB s K) (hd : DomB r M) (hk : keyV (M &&& K) r = keyV (M &&& K) s) : Agree s r := fun u hu => by
  have he : restr (M &&& K) r = restr (M &&& K) s := encB_inj (restr_ok hr _) (restr_ok hb _) hk
  by_cases h1 : s.getD u (-1) = -1
  · exact .inl h1
  · by_cases h2 : r.getD u (-1) = -1
    · exact .inr (.inl h2)
    · have h3 := (hs u hu).1 h1
      have h4 := (hd u hu).1 h2
      have h5 : (M &&& K).testBit u = true := by rw [Nat.testBit_and, h3, h4]; rfl
      have h6 := congrArg (fun x => x.getD u (-1)) he
      simp only [restr_at hu, h5, if_true] at h6
      exact .inr (.inr h6.symm)
end

theorem mem_joinL {V : Nat} {R S : List (List Int)} {b : List Int} : b ∈ joinL V R S ↔ ∃ s ∈ S, ∃ r ∈ R, keyV V r = keyV V s ∧ over s r = b := by
  unfold joinL sameRun
  simp only [List.mem_flatMap, List.mem_map, List.mem_filter, beq_iff_eq]
  constructor
  · rintro ⟨s, hs, r, ⟨hr, hk⟩, e⟩
    exact ⟨s, hs, r, hr, hk, e⟩
  · rintro ⟨s, hs, r, hr, hk, e⟩
    exact ⟨s, hs, r, ⟨hr, hk⟩, e⟩

/-- The rows of an atom: what its variables have so that it is one of the facts. -/
def RowsOf (a : LFact) (fs : List LFact) (R : List (List Int)) : Prop := R.Nodup ∧ ∀ b, b ∈ R ↔ bindOk b = true ∧ DomB b (maskOf a.2) ∧ (a.1, a.2.map (termVal b)) ∈ fs
theorem rowsOf_of {a : LFact} {fs : List LFact} {R : List (List Int)} (ha : a.2.all termOk = true) (hf : ∀ f ∈ fs, f.2.all constOk = true) (hup : R.Pairwise fun x y => encB x < encB y) (hm : ∀ b, b ∈ R ↔ ∃ f ∈ fs, matchL a f noneB = some b) : RowsOf a fs R := by
  refine ⟨hup.imp fun h e => by subst e; omega, fun b => ?_⟩
  rw [hm b]
  constructor
  · rintro ⟨f, hf', e⟩
    obtain ⟨h1, h2, h3⟩ := (matchL_iff ha (hf f hf') b).1 e
    exact ⟨h1, h2, h3 ▸ hf'⟩
  · rintro ⟨h1, h2, h3⟩
    exact ⟨_, h3, (matchL_iff ha (hf _ h3) b).2 ⟨h1, h2, rfl⟩⟩
theorem RowsOf.perm {a : LFact} {fs : List LFact} {R R' : List (List Int)} (h : RowsOf a fs R) (hp : R'.Perm R) : RowsOf a fs R' := ⟨hp.nodup_iff.2 h.1, fun b => by rw [hp.mem_iff, h.2 b]⟩

theorem Sols.yes {K : Nat} {Q : List LQ} {S R : List (List Int)} {q : LQ} (h : Sols K Q S) (hk : q.1.1 = 0) (ht : q.1.2.2.all termOk = true) (hR : RowsOf q.1.2 q.2 R) :
    Sols (K ||| maskOf q.1.2.2) (q :: Q) (joinL (maskOf q.1.2.2 &&& K) R S) := by
  obtain ⟨M, hM⟩ : ∃ M, M = maskOf q.1.2.2 := ⟨_, rfl⟩
  have hR2 := hR.2
  rw [← hM] at hR2 ⊢
  have hsu : ∀ v, v < 4 → (maskOf q.1.2.2).testBit v = true → (K ||| M).testBit v = true := fun v hv h => by rw [Nat.testBit_or, hM, h, Bool.or_true]
  have hQu : ∀ q' ∈ Q, ∀ v, v < 4 → (maskOf q'.1.2.2).testBit v = true → (K ||| M).testBit v = true := fun q' hq v hv e => by rw [Nat.testBit_or, h.vars q' hq v hv e, Bool.true_or]
  refine ⟨?_, fun b => ?_, fun q' hq v hv e => ?_, fun q' hq => ?_⟩
  · unfold joinL List.Nodup
    rw [List.pairwise_flatMap]
    constructor
    · intro s hs
      obtain ⟨hbs, hds, _⟩ := (h.mem s).1 hs
      rw [List.pairwise_map]
      have hrun : (sameRun (M &&& K) R s).Nodup := List.Nodup.sublist List.filter_sublist hR.1
      refine List.Pairwise.imp_of_mem (fun {r1 r2} h1 h2 hne e => hne ?_) hrun
      obtain ⟨h1a, h1b⟩ := List.mem_filter.1 h1
      obtain ⟨h2a, h2b⟩ := List.mem_filter.1 h2
      obtain ⟨b1, d1, _⟩ := (hR2 r1).1 h1a
      obtain ⟨b2, d2, _⟩ := (hR2 r2).1 h2a
      rw [← over_r hbs b1 d1 (agree_of hbs b1 hds d1 (by simpa using h1b)), ← over_r hbs b2 d2 (agree_of hbs b2 hds d2 (by simpa using h2b)), e]
    · refine List.Pairwise.imp_of_mem (fun {s1 s2} h1 h2 hne x hx y hy e => hne ?_) h.nodup
      obtain ⟨r1, hr1, rfl⟩ := List.mem_map.1 hx
      obtain ⟨r2, hr2, rfl⟩ := List.mem_map.1 hy
      obtain ⟨b1, d1, _⟩ := (h.mem s1).1 h1
      obtain ⟨b2, d2, _⟩ := (h.mem s2).1 h2
      obtain ⟨c1, _, _⟩ := (hR2 r1).1 (List.mem_filter.1 hr1).1
      obtain ⟨c2, _, _⟩ := (hR2 r2).1 (List.mem_filter.1 hr2).1
      rw [← over_s b1 c1 d1, ← over_s b2 c2 d2, e]
  · rw [mem_joinL]
    constructor
    · rintro ⟨s, hs, r, hr, hkey, rfl⟩
      obtain ⟨hbs, hds, hqs⟩ := (h.mem s).1 hs
      obtain ⟨hbr, hdr, hfr⟩ := (hR2 r).1 hr
      have hag := agree_of hbs hbr hds hdr hkey
      have hbo := over_ok hbs hbr
      have hdo := over_dom hds hdr
      refine ⟨hbo, hdo, fun q' hq => ?_⟩
      rcases List.mem_cons.1 hq with rfl | hq
      · rw [holds_yes hk (headOk_dom hbo ht hdo hsu)]
        have e : q'.1.2.2.map (termVal (over s r)) = q'.1.2.2.map (termVal r) := map_same ht fun v hv hm => by
          have := congrArg (fun x => x.getD v (-1)) (over_r hbs hbr hdr hag)
          simp only [restr_at hv] at this
          rw [hM, if_pos hm] at this
          exact this
        rw [e]
        exact hfr
      · rw [holdsQ_same hbo hbs (h.terms q' hq) fun v hv hm => ?_]
        · exact hqs q' hq
        · have := congrArg (fun x => x.getD v (-1)) (over_s hbs hbr hds)
          simp only [restr_at hv] at this
          rw [if_pos (h.vars q' hq v hv hm)] at this
          exact this
    · rintro ⟨hb, hd, hq⟩
      have hdK : DomB (restr K b) K := restr_dom hd fun v _ e => by rw [Nat.testBit_or, e, Bool.true_or]
      have hdM : DomB (restr M b) M := restr_dom hd fun v _ e => by rw [Nat.testBit_or, e, Bool.or_true]
      refine ⟨restr K b, (h.mem _).2 ⟨restr_ok hb K, hdK, fun q' hq' => ?_⟩, restr M b, (hR2 _).2 ⟨restr_ok hb M, hdM, ?_⟩, ?_, over_back hb hd⟩
      · rw [holdsQ_same (restr_ok hb K) hb (h.terms q' hq') fun v hv hm => by rw [restr_at hv, if_pos (h.vars q' hq' v hv hm)]]
        exact hq q' (List.mem_cons_of_mem _ hq')
      · have e : q.1.2.2.map (termVal (restr M b)) = q.1.2.2.map (termVal b) := map_same ht fun v hv hm => by rw [restr_at hv, hM, if_pos hm]
        rw [e]
        exact (holds_yes hk (headOk_dom hb ht hd hsu)).1 (hq q List.mem_cons_self)
      · unfold keyV
        congr 1
        refine bind_ext (restr_ok (restr_ok hb M) _) (restr_ok (restr_ok hb K) _) fun v hv => ?_
        rw [restr_at hv, restr_at hv, restr_at hv, restr_at hv]
        by_cases e : (M &&& K).testBit v = true
        · rw [if_pos e, if_pos e]
          rw [Nat.testBit_and, Bool.and_eq_true] at e
          rw [if_pos e.1, if_pos e.2]
        · rw [if_neg e, if_neg e]
  · rcases List.mem_cons.1 hq with rfl | hq
    · exact hsu v hv e
    · exact hQu q' hq v hv e
  · rcases List.mem_cons.1 hq with rfl | hq
    · exact ht
    · exact h.terms q' hq

/-- A literal whose variables are all known: those solutions stay for which it holds. -/
theorem Sols.keep {K : Nat} {Q : List LQ} {S : List (List Int)} {q : LQ} (h : Sols K Q S) (ht : q.1.2.2.all termOk = true) (hv : ∀ v, v < 4 → (maskOf q.1.2.2).testBit v = true → K.testBit v = true)
    (p : List Int → Bool) (hp : ∀ b ∈ S, p b = holdsQ q b) : Sols K (q :: Q) (S.filter p) where
  nodup := List.Nodup.sublist List.filter_sublist h.nodup
  mem b := by
    rw [List.mem_filter]
    constructor
    · rintro ⟨hb, hpb⟩
      obtain ⟨h1, h2, h3⟩ := (h.mem b).1 hb
      refine ⟨h1, h2, fun q' hq => ?_⟩
      rcases List.mem_cons.1 hq with rfl | hq
      · rw [← hp b hb]; exact hpb
      · exact h3 q' hq
    · rintro ⟨h1, h2, h3⟩
      have hb := (h.mem b).2 ⟨h1, h2, fun q' hq => h3 q' (List.mem_cons_of_mem _ hq)⟩
      exact ⟨hb, by rw [hp b hb]; exact h3 q List.mem_cons_self⟩
  vars q' hq v hv' e := by
    rcases List.mem_cons.1 hq with rfl | hq
    · exact hv v hv' e
    · exact h.vars q' hq v hv' e
  terms q' hq := by
    rcases List.mem_cons.1 hq with rfl | hq
    · exact ht
    · exact h.terms q' hq

/-- A LitNo: no row agrees. -/
theorem deny_is {K : Nat} {Q : List LQ} {S R : List (List Int)} {q : LQ} (h : Sols K Q S) (hk : q.1.1 = 1) (ht : q.1.2.2.all termOk = true) (hv : ∀ v, v < 4 → (maskOf q.1.2.2).testBit v = true → K.testBit v = true)
    (hR : RowsOf q.1.2 q.2 R) : ∀ b ∈ S, (!hitW (maskOf q.1.2.2) R b) = holdsQ q b := by
  intro b hb
  obtain ⟨h1, h2, _⟩ := (h.mem b).1 hb
  have hho := holds_no hk (headOk_dom h1 ht h2 hv)
  have hhit : hitW (maskOf q.1.2.2) R b = true ↔ (q.1.2.1, q.1.2.2.map (termVal b)) ∈ q.2 := by
    have e : q.1.2.2.map (termVal (restr (maskOf q.1.2.2) b)) = q.1.2.2.map (termVal b) := map_same ht fun v hv hm => by rw [restr_at hv, if_pos hm]
    unfold hitW
    rw [List.any_eq_true]
    constructor
    · rintro ⟨t, ht', he⟩
      have he2 : encB t = encB (restr (maskOf q.1.2.2) b) := by simpa [keyV] using he
      obtain ⟨g1, g2, g3⟩ := (hR.2 t).1 ht'
      rw [encB_inj g1 (restr_ok h1 _) he2, e] at g3
      exact g3
    · intro hin
      exact ⟨restr (maskOf q.1.2.2) b, (hR.2 _).2 ⟨restr_ok h1 _, restr_dom h2 hv, by rw [e]; exact hin⟩, by simp [keyV]⟩
  cases hq : holdsQ q b
  · have : ¬ (q.1.2.1, q.1.2.2.map (termVal b)) ∉ q.2 := fun hc => by rw [hho.2 hc] at hq; cases hq
    rw [hhit.2 (Decidable.not_not.1 this)]
    rfl
  · have := hho.1 hq
    cases hh : hitW (maskOf q.1.2.2) R b
    · rfl
    · exact absurd (hhit.1 hh) this

/-- Numbers without doubles below n are at most n. -/
theorem nodup_len : ∀ (n : Nat) (l : List Nat), l.Nodup → (∀ x ∈ l, x < n) → l.length ≤ n
  | 0, l, _, h => by
    rcases l with _ | ⟨x, l⟩
    · simp
    · exact absurd (h x List.mem_cons_self) (by omega)
  | n + 1, l, hn, h => by
    have ih := nodup_len n (l.erase n) (hn.erase n) fun x hx => by
      have h1 := h x (List.mem_of_mem_erase hx)
      have h2 : x ≠ n := fun e => by
        subst e
        exact hn.not_mem_erase hx
      omega
    by_cases hm : n ∈ l
    · rw [List.length_erase_of_mem hm] at ih
      omega
    · rw [List.erase_of_not_mem hm] at ih
      omega
theorem binds_len {S : List (List Int)} (hn : S.Nodup) (h : ∀ b ∈ S, bindOk b = true) : S.length ≤ 65536 := by
  have := nodup_len 65536 (S.map encB) (by
    unfold List.Nodup
    rw [List.pairwise_map]
    exact List.Pairwise.imp_of_mem (fun {a b} ha hb hne e => hne (encB_inj (h a ha) (h b hb) e)) hn) fun x hx => by
    obtain ⟨b, hb, rfl⟩ := List.mem_map.1 hx
    exact encB_lt (h b hb)
  simpa using this

end Go.Proofs.YtebincnejcmocaaGreat
/-
  The specification's solving, plain mathematics: what the atoms that are to hold bring, one after another.
-/
namespace Go.Proofs.YtebincnejcmocaaGreat
open Go.RowKit

theorem or_orV (K m : Nat) (t : Int) : K ||| orV m t = orV (K ||| m) t := by
  unfold orV
  split
  · rw [Nat.or_assoc]
  · rfl
theorem maskOf_nil : maskOf [] = 0 := by simp [maskOf, maskFrom]

/-- Matching from what some variables have. -/
theorem matchTo_from {xs ys b : List Int} {K : Nat} (hb : bindOk b = true) (hdb : DomB b K) (hl : xs.length = ys.length) (hx : xs.all termOk = true) (hy : ys.all constOk = true) : ∀ (k : Nat) (_hk : k ≤ xs.length) (c : List Int), matchTo b xs ys k = some c ↔
    (bindOk c = true ∧ DomB c (K ||| maskOf (xs.take k)) ∧ restr K c = b ∧ ∀ i (h : i < xs.length) (h2 : i < ys.length), i < k → termVal c xs[i] = ys[i])
  | 0, hk, c => by
    rw [List.take_zero, maskOf_nil, Nat.or_zero]
    constructor
    · intro h
      injection h with h
      subst h
      exact ⟨hb, hdb, restr_all hb hdb, fun i _ _ h => absurd h (by omega)⟩
    · rintro ⟨hc, hd, hr, _⟩
      show some b = some c
      rw [← hr, restr_all hc hd]
  | k + 1, hk, c => by
    have hkx : k < xs.length := by omega
    have hky : k < ys.length := by omega
    have ih := matchTo_from hb hdb hl hx hy k (by omega)
    have hM : K ||| maskOf (xs.take (k + 1)) = orV (K ||| maskOf (xs.take k)) xs[k] := by rw [maskOf_take hkx, or_orV]
    have hxk : termOk xs[k] = true := List.all_eq_true.1 hx _ (List.getElem_mem hkx)
    have hyk : 0 ≤ ys[k] ∧ ys[k] ≤ 5 := by simpa [constOk] using List.all_eq_true.1 hy _ (List.getElem_mem hky)
    obtain ⟨M, hMM⟩ : ∃ M, M = K ||| maskOf (xs.take k) := ⟨_, rfl⟩
    rw [← hMM] at hM ih
    rw [hM]
    have hKM : ∀ v, K.testBit v = true → M.testBit v = true := fun v h => by rw [hMM, Nat.testBit_or, h, Bool.true_or]
    have hin : ∀ (i : Nat) (h : i < xs.length) (v : Nat), i < k → v < 4 → xs[i] = -1 - (v : Int) → M.testBit v = true := fun i h v hik hv e => by
      rw [hMM, Nat.testBit_or, Bool.or_eq_true]
      right
      rw [maskOf_bit hv, ← e]
      exact List.mem_take_iff_getElem.2 ⟨i, by omega, rfl⟩
    constructor
    · intro h
      cases h0 : matchTo b xs ys k with
      | none => rw [matchTo_none h0 (k + 1) (by omega)] at h; cases h
      | some b0 =>
        rw [matchTo_step h0 hkx hky] at h
        obtain ⟨hb0, hd0, hr0, hv0⟩ := (ih b0).1 h0
        unfold stepM at h
        split at h
        · rename_i e
          injection h with h
          subst h
          refine ⟨hb0, ?_, hr0, fun i h1 h2 hik => ?_⟩
          · rcases term_cases hxk with h0 | ⟨v, hv, hxv⟩
            · rw [orV_const h0.1]
              exact hd0
            · rw [hxv, orV_var hv]
              intro u hu
              rw [or_bit, hd0 u hu]
              constructor
              · exact fun h => .inl h
              · rintro (h | rfl)
                · exact h
                · refine (hd0 v hv).1 ?_
                  rw [hxv, termVal_v] at e
                  omega
          · by_cases ei : i = k
            · subst ei
              exact e
            · exact hv0 i h1 h2 (by omega)
        · split at h
          · rename_i e1 e2
            injection h with h
            rcases term_cases hxk with h0 | ⟨v, hv, hxv⟩
            · rw [termVal_const h0.1] at e2
              omega
            · rw [hxv, termVal_v] at e2
              have hj : (-1 - xs[k]).toNat = v := by omega
              rw [hj] at h
              have hl4 := bindOk_len hb0
              have hset : ∀ u, u < 4 → c.getD u (-1) = if u = v then ys[k] else b0.getD u (-1) := fun u hu => by
                rw [← h]
                simp only [List.getD_eq_getElem?_getD, List.getElem?_set]
                by_cases euv : v = u
                · subst euv
                  simp [hl4, hv]
                · rw [if_neg euv, if_neg (fun e => euv e.symm)]
              have hcok : bindOk c = true := by rw [← h]; exact bindOk_set hb0 (by omega) _
              refine ⟨hcok, fun u hu => ?_, ?_, fun i h1 h2 hik => ?_⟩
              · rw [hxv, orV_var hv, or_bit, hset u hu]
                by_cases euv : u = v
                · subst euv
                  simp
                  omega
                · rw [if_neg euv, hd0 u hu]
                  constructor
                  · exact fun h => .inl h
                  · rintro (h | h)
                    · exact h
                    · exact absurd h.symm euv
              · rw [← hr0]
                refine bind_ext (restr_ok hcok K) (restr_ok hb0 K) fun u hu => ?_
                rw [restr_at hu, restr_at hu]
                by_cases hKu : K.testBit u = true
                · rw [if_pos hKu, if_pos hKu, hset u hu, if_neg]
                  rintro rfl
                  exact (hd0 u hu).2 (hKM u hKu) e2
                · rw [if_neg hKu, if_neg hKu]
              · by_cases ei : i = k
                · subst ei
                  rw [hxv, termVal_v, hset v hv, if_pos rfl]
                · have hik' : i < k := by omega
                  rw [← hv0 i h1 h2 hik']
                  refine termVal_same (List.all_eq_true.1 hx _ (List.getElem_mem h1)) fun u hu eu => ?_
                  rw [hset u hu, if_neg]
                  rintro rfl
                  have := (hd0 u hu).2 (hin i h1 u hik' hu eu)
                  exact this e2
          · cases h
    · rintro ⟨hc, hd, hrc, hv⟩
      have hMK : ∀ v, v < 4 → M.testBit v = true → (orV M xs[k]).testBit v = true := fun v hv h => by
        rcases term_cases hxk with h0 | ⟨u, hu, hxu⟩
        · rw [orV_const h0.1]; exact h
        · rw [hxu, orV_var hu, or_bit]; exact .inl h
      have h0 : matchTo b xs ys k = some (restr M c) := by
        refine (ih _).2 ⟨restr_ok hc M, restr_dom hd hMK, ?_, fun i h1 h2 hik => ?_⟩
        · rw [← hrc]
          refine bind_ext (restr_ok (restr_ok hc M) K) (restr_ok hc K) fun u hu => ?_
          rw [restr_at hu, restr_at hu, restr_at hu]
          by_cases hKu : K.testBit u = true
          · rw [if_pos hKu, if_pos hKu, if_pos (hKM u hKu)]
          · rw [if_neg hKu, if_neg hKu]
        · rw [← hv i h1 h2 (by omega)]
          refine termVal_same (List.all_eq_true.1 hx _ (List.getElem_mem h1)) fun u hu eu => ?_
          rw [restr_at hu, if_pos (hin i h1 u hik hu eu)]
      rw [matchTo_step h0 hkx hky]
      have hvk := hv k hkx hky (by omega)
      rcases term_cases hxk with h0c | ⟨v, hv4, hxv⟩
      · rw [orV_const h0c.1] at hd
        rw [restr_all hc hd]
        exact stepM_same hvk
      · rw [hxv, orV_var hv4] at hd
        rw [hxv, termVal_v] at hvk
        rw [hxv]
        by_cases hMv : M.testBit v = true
        · have hd2 : DomB c M := fun u hu => by
            rw [hd u hu, or_bit]
            constructor
            · rintro (h | rfl)
              · exact h
              · exact hMv
            · exact fun h => .inl h
          rw [restr_all hc hd2]
          exact stepM_same (by rw [termVal_v]; exact hvk)
        · have hr : termVal (restr M c) (-1 - (v : Int)) = -1 := by rw [termVal_v, restr_at hv4, if_neg hMv]
          rw [stepM_new hr (by omega), show (-1 - (-1 - (v : Int))).toNat = v by omega]
          congr 1
          refine bind_ext (bindOk_set (restr_ok hc M) (by omega) _) hc fun u hu => ?_
          have hl4 := bindOk_len (restr_ok hc M)
          simp only [List.getD_eq_getElem?_getD, List.getElem?_set]
          by_cases euv : v = u
          · subst euv
            simp only [List.getD_eq_getElem?_getD] at hvk
            simp [hl4, hv4, hvk]
          · rw [if_neg euv, ← List.getD_eq_getElem?_getD, ← List.getD_eq_getElem?_getD, restr_at hu]
            by_cases hMu : M.testBit u = true
            · rw [if_pos hMu]
            · rw [if_neg hMu]
              rcases Decidable.em (c.getD u (-1) = -1) with h2 | h2
              · exact h2.symm
              · have := (hd u hu).1 h2
                rw [or_bit] at this
                rcases this with h | h
                · exact absurd h hMu
                · exact absurd h euv

theorem matchL_from {a f : LFact} {b : List Int} {K : Nat} (hb : bindOk b = true) (hdb : DomB b K) (ha : a.2.all termOk = true) (hf : f.2.all constOk = true) (c : List Int) :
    matchL a f b = some c ↔ bindOk c = true ∧ DomB c (K ||| maskOf a.2) ∧ restr K c = b ∧ f = (a.1, a.2.map (termVal c)) := by
  by_cases h1 : a.1 = f.1
  · by_cases h2 : a.2.length = f.2.length
    · rw [matchL_eq h1 h2, matchTo_from hb hdb h2 ha hf a.2.length (Nat.le_refl _) c, List.take_length]
      refine and_congr_right fun _ => and_congr_right fun _ => and_congr_right fun _ => ?_
      constructor
      · intro h
        refine Prod.ext h1.symm (List.ext_getElem (by simp [h2]) fun i i1 i2 => ?_)
        simp at i2
        simpa using (h i i2 i1 i2).symm
      · intro h i i1 i2 _
        have e : f.2 = a.2.map (termVal c) := by rw [h]
        have := List.getElem_of_eq e i2
        simpa using this.symm
    · rw [matchL_len h2]
      constructor
      · intro h; cases h
      · rintro ⟨_, _, _, e⟩
        exact absurd (by rw [e]; simp) h2
  · rw [matchL_pred h1]
    constructor
    · intro h; cases h
    · rintro ⟨_, _, _, e⟩
      exact absurd (by rw [e]) h1

/-- What lists become with an atom. -/
def nextL (a : LFact) (fs : List LFact) (B : List (List Int)) : List (List Int) := B.flatMap fun b => fs.filterMap fun f => matchL a f b

theorem Sols.next {K : Nat} {Q : List LQ} {B : List (List Int)} {q : LQ} (h : Sols K Q B) (hk : q.1.1 = 0) (ht : q.1.2.2.all termOk = true) (hf : ∀ f ∈ q.2, f.2.all constOk = true) (hn : q.2.Nodup) :
    Sols (K ||| maskOf q.1.2.2) (q :: Q) (nextL q.1.2 q.2 B) := by
  have hsu : ∀ v, v < 4 → (maskOf q.1.2.2).testBit v = true → (K ||| maskOf q.1.2.2).testBit v = true := fun v hv h => by rw [Nat.testBit_or, h, Bool.or_true]
  have hQu : ∀ q' ∈ Q, ∀ v, v < 4 → (maskOf q'.1.2.2).testBit v = true → (K ||| maskOf q.1.2.2).testBit v = true := fun q' hq v hv e => by rw [Nat.testBit_or, h.vars q' hq v hv e, Bool.true_or]
  have hm : ∀ b ∈ B, ∀ f ∈ q.2, ∀ c, matchL q.1.2 f b = some c ↔ bindOk c = true ∧ DomB c (K ||| maskOf q.1.2.2) ∧ restr K c = b ∧ f = (q.1.2.1, q.1.2.2.map (termVal c)) := fun b hb f hfq c =>
    matchL_from ((h.mem b).1 hb).1 ((h.mem b).1 hb).2.1 ht (hf f hfq) c
  refine ⟨?_, fun c => ?_, fun q' hq v hv e => ?_, fun q' hq => ?_⟩
  · unfold nextL List.Nodup
    rw [List.pairwise_flatMap]
    constructor
    · intro b hb
      rw [List.pairwise_filterMap]
      refine List.Pairwise.imp_of_mem (fun {f1 f2} h1 h2 hne c1 e1 c2 e2 e => hne ?_) hn
      subst e
      rw [((hm b hb f1 h1 c1).1 e1).2.2.2, ((hm b hb f2 h2 c1).1 e2).2.2.2]
    · refine List.Pairwise.imp_of_mem (fun {s1 s2} h1 h2 hne x hx y hy e => hne ?_) h.nodup
      obtain ⟨f1, hf1, e1⟩ := List.mem_filterMap.1 hx
      obtain ⟨f2, hf2, e2⟩ := List.mem_filterMap.1 hy
      subst e
      rw [← ((hm s1 h1 f1 hf1 x).1 e1).2.2.1, ← ((hm s2 h2 f2 hf2 x).1 e2).2.2.1]
  · unfold nextL
    rw [List.mem_flatMap]
    constructor
    · rintro ⟨b, hb, hc⟩
      obtain ⟨f, hfq, e⟩ := List.mem_filterMap.1 hc
      obtain ⟨c1, c2, c3, c4⟩ := (hm b hb f hfq c).1 e
      refine ⟨c1, c2, fun q' hq => ?_⟩
      rcases List.mem_cons.1 hq with rfl | hq
      · rw [holds_yes hk (headOk_dom c1 ht c2 hsu), ← c4]
        exact hfq
      · obtain ⟨b1, b2, b3⟩ := (h.mem b).1 hb
        rw [holdsQ_same c1 b1 (h.terms q' hq) fun v hv hmv => ?_]
        · exact b3 q' hq
        · rw [← c3, restr_at hv, if_pos (h.vars q' hq v hv hmv)]
    · rintro ⟨c1, c2, c3⟩
      have hb : restr K c ∈ B := (h.mem _).2 ⟨restr_ok c1 K, restr_dom c2 fun v _ e => by rw [Nat.testBit_or, e, Bool.true_or], fun q' hq => by
        rw [holdsQ_same (restr_ok c1 K) c1 (h.terms q' hq) fun v hv hmv => by rw [restr_at hv, if_pos (h.vars q' hq v hv hmv)]]
        exact c3 q' (List.mem_cons_of_mem _ hq)⟩
      have hin := (holds_yes hk (headOk_dom c1 ht c2 hsu)).1 (c3 q List.mem_cons_self)
      exact ⟨restr K c, hb, List.mem_filterMap.2 ⟨_, hin, (hm _ hb _ hin c).2 ⟨c1, c2, rfl, rfl⟩⟩⟩
  · rcases List.mem_cons.1 hq with rfl | hq
    · exact hsu v hv e
    · exact hQu q' hq v hv e
  · rcases List.mem_cons.1 hq with rfl | hq
    · exact ht
    · exact h.terms q' hq

/-- What the atoms that are to hold, of the first k literals, bring. -/
def bindsTo (fs : List LFact) (ls : List LLit) : Nat → List (List Int)
  | 0 => [noneB]
  | k + 1 => if (ls.getD k (0, 0, [])).1 = 0 then nextL (ls.getD k (0, 0, [])).2 fs (bindsTo fs ls k) else bindsTo fs ls k
theorem bindsTo_yes {fs : List LFact} {ls : List LLit} {k : Nat} (h : k < ls.length) (e : ls[k].1 = 0) : bindsTo fs ls (k + 1) = nextL ls[k].2 fs (bindsTo fs ls k) := by
  have hd : ls.getD k (0, 0, []) = ls[k] := by simp [h]
  show (if _ then _ else _) = _
  rw [hd, if_pos e]
theorem bindsTo_no {fs : List LFact} {ls : List LLit} {k : Nat} (h : k < ls.length) (e : ls[k].1 ≠ 0) : bindsTo fs ls (k + 1) = bindsTo fs ls k := by
  have hd : ls.getD k (0, 0, []) = ls[k] := by simp [h]
  show (if _ then _ else _) = _
  rw [hd, if_neg e]
/-- The literals, of the first k, that are tried. -/
def restTo (ls : List LLit) (k : Nat) : List LLit := (ls.take k).filter fun l => l.1 != 0
theorem restTo_yes {ls : List LLit} {k : Nat} (h : k < ls.length) (e : ls[k].1 = 0) : restTo ls (k + 1) = restTo ls k := by
  unfold restTo
  rw [take_snoc ls k h, List.filter_append]
  simp [e]
theorem restTo_no {ls : List LLit} {k : Nat} (h : k < ls.length) (e : ls[k].1 ≠ 0) : restTo ls (k + 1) = restTo ls k ++ [ls[k]] := by
  unfold restTo
  rw [take_snoc ls k h, List.filter_append]
  simp [e]
theorem restTo_length (ls : List LLit) (k : Nat) : (restTo ls k).length ≤ k := by
  unfold restTo
  exact Nat.le_trans (List.length_filter_le _ _) (by simp; omega)

/-- The solutions of the atoms that are to hold. -/
theorem bindsTo_sols {fs : List LFact} {ls : List LLit} (hf : ∀ f ∈ fs, f.2.all constOk = true) (hn : fs.Nodup) (ht : ∀ l ∈ ls, l.2.2.all termOk = true) : ∀ k, k ≤ ls.length →
    ∃ (K : Nat) (Q : List LQ), K < 16 ∧ Sols K Q (bindsTo fs ls k) ∧ (∀ q, q ∈ Q ↔ q.2 = fs ∧ q.1.1 = 0 ∧ q.1 ∈ ls.take k) ∧ ∀ v, v < 4 → (K.testBit v = true ↔ ∃ l ∈ ls.take k, l.1 = 0 ∧ (maskOf l.2.2).testBit v = true)
  | 0, _ => ⟨0, [], by omega, sols_start, fun q => by simp, fun v _ => by simp⟩
  | k + 1, hk => by
    have hlt : k < ls.length := by omega
    obtain ⟨K, Q, hK, hS, hQ, hv⟩ := bindsTo_sols hf hn ht k (by omega)
    have htk : ls.take (k + 1) = ls.take k ++ [ls[k]] := take_snoc ls k hlt
    by_cases e : ls[k].1 = 0
    · refine ⟨K ||| maskOf ls[k].2.2, (ls[k], fs) :: Q, Nat.or_lt_two_pow (n := 4) hK (maskOf_lt _), ?_, fun q => ?_, fun v hv4 => ?_⟩
      · rw [bindsTo_yes hlt e]
        exact hS.next (q := (ls[k], fs)) e (ht _ (List.getElem_mem hlt)) hf hn
      · rw [List.mem_cons, hQ, htk, List.mem_append, List.mem_singleton]
        constructor
        · rintro (rfl | ⟨h1, h2, h3⟩)
          · exact ⟨rfl, e, .inr rfl⟩
          · exact ⟨h1, h2, .inl h3⟩
        · rintro ⟨h1, h2, h3 | h3⟩
          · exact .inr ⟨h1, h2, h3⟩
          · exact .inl (Prod.ext h3 h1)
      · rw [Nat.testBit_or, Bool.or_eq_true, hv v hv4, htk]
        constructor
        · rintro (⟨l, hl, h1, h2⟩ | h)
          · exact ⟨l, List.mem_append_left _ hl, h1, h2⟩
          · exact ⟨ls[k], List.mem_append_right _ (List.mem_singleton.2 rfl), e, h⟩
        · rintro ⟨l, hl, h1, h2⟩
          rcases List.mem_append.1 hl with hl | hl
          · exact .inl ⟨l, hl, h1, h2⟩
          · rw [List.mem_singleton] at hl
            subst hl
            exact .inr h2
    · refine ⟨K, Q, hK, by rw [bindsTo_no hlt e]; exact hS, fun q => ?_, fun v hv4 => ?_⟩
      · rw [hQ, htk, List.mem_append, List.mem_singleton]
        constructor
        · rintro ⟨h1, h2, h3⟩
          exact ⟨h1, h2, .inl h3⟩
        · rintro ⟨h1, h2, h3 | h3⟩
          · exact ⟨h1, h2, h3⟩
          · exact absurd (h3 ▸ h2) e
      · rw [hv v hv4, htk]
        constructor
        · rintro ⟨l, hl, h⟩
          exact ⟨l, List.mem_append_left _ hl, h⟩
        · rintro ⟨l, hl, h1, h2⟩
          rcases List.mem_append.1 hl with hl | hl
          · exact ⟨l, hl, h1, h2⟩
          · rw [List.mem_singleton] at hl
            exact absurd (hl ▸ h1) e
theorem bindsTo_ok {fs : List LFact} {ls : List LLit} (hf : ∀ f ∈ fs, f.2.all constOk = true) (hn : fs.Nodup) (ht : ∀ l ∈ ls, l.2.2.all termOk = true) {k : Nat} (hk : k ≤ ls.length) : (∀ b ∈ bindsTo fs ls k, bindOk b = true) ∧ (bindsTo fs ls k).length ≤ 65536 := by
  obtain ⟨K, Q, _, hS, _, _⟩ := bindsTo_sols hf hn ht k hk
  have h1 : ∀ b ∈ bindsTo fs ls k, bindOk b = true := fun b hb => ((hS.mem b).1 hb).1
  exact ⟨h1, binds_len hS.nodup h1⟩

/-- A row into rows, once. -/
def atB : List (List Int) → List Int → Nat
  | [], _ => 0
  | s :: S, b => if cmpL b s < 0 then 0 else atB S b + 1
theorem atB_spec : ∀ (S : List (List Int)) (b : List Int), atB S b ≤ S.length ∧ (∀ j (h : j < S.length), j < atB S b → ¬ cmpL b S[j] < 0) ∧ (atB S b = S.length ∨ ∃ h : atB S b < S.length, cmpL b S[atB S b] < 0)
  | [], _ => ⟨Nat.le_refl _, fun j h => absurd h (by simp), .inl rfl⟩
  | s :: S, b => by
    obtain ⟨h1, h2, h3⟩ := atB_spec S b
    by_cases e : cmpL b s < 0
    · have ea : atB (s :: S) b = 0 := if_pos e
      rw [ea]
      exact ⟨Nat.zero_le _, fun j _ h => absurd h (by omega), .inr ⟨by simp, by simpa using e⟩⟩
    · have ea : atB (s :: S) b = atB S b + 1 := if_neg e
      simp only [ea]
      refine ⟨by simpa using h1, fun j hj hlt => ?_, ?_⟩
      · rcases j with _ | j
        · exact e
        · exact h2 j (by simpa using hj) (by omega)
      · rcases h3 with h3 | ⟨h, h3⟩
        · exact .inl (by simpa using h3)
        · exact .inr ⟨by simpa using h, by simpa using h3⟩
def putB (S : List (List Int)) (b : List Int) : List (List Int) := if b ∈ S then S else S.take (atB S b) ++ b :: S.drop (atB S b)
def UpB (S : List (List Int)) : Prop := S.Pairwise fun x y => cmpL x y < 0
theorem UpB.put {S : List (List Int)} (h : UpB S) (b : List Int) : UpB (putB S b) ∧ ∀ x, x ∈ putB S b ↔ x = b ∨ x ∈ S := by
  unfold putB
  split
  · rename_i hm
    refine ⟨h, fun x => ⟨fun h => .inr h, fun h' => ?_⟩⟩
    rcases h' with rfl | h'
    · exact hm
    · exact h'
  · rename_i hm
    obtain ⟨a1, a2, a3⟩ := atB_spec S b
    constructor
    · have h1 : ∀ s ∈ S.take (atB S b), cmpL s b < 0 := fun s hs => by
        obtain ⟨j, hj, rfl⟩ := List.mem_take_iff_getElem.1 hs
        have h3 := a2 j (by omega) (by omega)
        have h4 : cmpL b (S[j]'(by omega)) ≠ 0 := fun e => hm (by rw [cmpL_eq e]; exact List.getElem_mem _)
        exact cmpL_flip.2 (by omega)
      have h2 : ∀ s ∈ S.drop (atB S b), cmpL b s < 0 := fun s hs => by
        obtain ⟨i, hi, rfl⟩ := List.getElem_of_mem hs
        rw [List.length_drop] at hi
        rw [List.getElem_drop]
        rcases a3 with a3 | ⟨a4, a3⟩
        · omega
        · rcases i with _ | i
          · exact a3
          · exact cmpL_less a3 (List.pairwise_iff_getElem.1 h _ _ a4 (by omega) (by omega))
      show List.Pairwise _ _
      rw [List.pairwise_append]
      refine ⟨List.Pairwise.sublist (List.take_sublist _ _) h, List.pairwise_cons.2 ⟨h2, List.Pairwise.sublist (List.drop_sublist _ _) h⟩, fun x hx y hy => ?_⟩
      rcases List.mem_cons.1 hy with rfl | hy
      · exact h1 x hx
      · exact cmpL_less (h1 x hx) (h2 y hy)
    · intro x
      rw [List.mem_append, List.mem_cons]
      have e : x ∈ S ↔ x ∈ S.take (atB S b) ∨ x ∈ S.drop (atB S b) := by rw [← List.mem_append, List.take_append_drop]
      rw [e]
      constructor
      · rintro (h | h | h)
        · exact .inr (.inl h)
        · exact .inl h
        · exact .inr (.inr h)
      · rintro (h | h | h)
        · exact .inr (.inl h)
        · exact .inl h
        · exact .inr (.inr h)
theorem UpB.unique : ∀ {l m : List (List Int)}, UpB l → UpB m → (∀ f, f ∈ l ↔ f ∈ m) → l = m
  | [], [], _, _, _ => rfl
  | [], y :: m, _, _, h => absurd ((h y).2 List.mem_cons_self) (by simp)
  | x :: l, [], _, _, h => absurd ((h x).1 List.mem_cons_self) (by simp)
  | x :: l, y :: m, hl, hm, h => by
    obtain ⟨h1, h2⟩ := List.pairwise_cons.1 hl
    obtain ⟨h3, h4⟩ := List.pairwise_cons.1 hm
    have irr : ∀ z : List Int, ¬ cmpL z z < 0 := fun z => by rw [cmpL_refl]; omega
    have hxy : x = y := by
      rcases List.mem_cons.1 ((h x).1 List.mem_cons_self) with e | e
      · exact e
      · rcases List.mem_cons.1 ((h y).2 List.mem_cons_self) with e2 | e2
        · exact e2.symm
        · exact absurd (cmpL_less (h1 y e2) (h3 x e)) (irr x)
    subst hxy
    rw [UpB.unique h2 h4 fun f => ?_]
    constructor
    · intro hf
      rcases List.mem_cons.1 ((h f).1 (List.mem_cons_of_mem _ hf)) with e | e
      · subst e
        exact absurd (h1 f hf) (irr f)
      · exact e
    · intro hf
      rcases List.mem_cons.1 ((h f).2 (List.mem_cons_of_mem _ hf)) with e | e
      · subst e
        exact absurd (h3 f hf) (irr f)
      · exact e

/-- Of the first k lists those that are tried well, each once, in order. -/
def triedTo (fs : List LFact) (rest : List LLit) (B : List (List Int)) : Nat → List (List Int)
  | 0 => []
  | k + 1 => if rest.all (fun l => litHolds fs l (B.getD k [])) then putB (triedTo fs rest B k) (B.getD k []) else triedTo fs rest B k
theorem triedTo_yes {fs : List LFact} {rest : List LLit} {B : List (List Int)} {k : Nat} (h : k < B.length) (e : (rest.all fun l => litHolds fs l B[k]) = true) : triedTo fs rest B (k + 1) = putB (triedTo fs rest B k) B[k] := by
  have hd : B.getD k [] = B[k] := by simp [h]
  show (if _ then _ else _) = _
  rw [hd, if_pos e]
theorem triedTo_no {fs : List LFact} {rest : List LLit} {B : List (List Int)} {k : Nat} (h : k < B.length) (e : (rest.all fun l => litHolds fs l B[k]) = false) : triedTo fs rest B (k + 1) = triedTo fs rest B k := by
  have hd : B.getD k [] = B[k] := by simp [h]
  show (if _ then _ else _) = _
  rw [hd, if_neg (by rw [e]; simp)]
theorem triedTo_is (fs : List LFact) (rest : List LLit) (B : List (List Int)) : ∀ k, k ≤ B.length → UpB (triedTo fs rest B k) ∧ ∀ x, x ∈ triedTo fs rest B k ↔ x ∈ B.take k ∧ (rest.all fun l => litHolds fs l x) = true
  | 0, _ => ⟨List.Pairwise.nil, fun x => by simp [triedTo]⟩
  | k + 1, hk => by
    obtain ⟨h1, h2⟩ := triedTo_is fs rest B k (by omega)
    have hlt : k < B.length := by omega
    have htk : ∀ x, x ∈ B.take (k + 1) ↔ x ∈ B.take k ∨ x = B[k] := fun x => by rw [take_snoc B k hlt, List.mem_append, List.mem_singleton]
    cases e : rest.all fun l => litHolds fs l B[k]
    · rw [triedTo_no hlt e]
      refine ⟨h1, fun x => ?_⟩
      rw [h2, htk]
      constructor
      · rintro ⟨a, b⟩
        exact ⟨.inl a, b⟩
      · rintro ⟨a | a, b⟩
        · exact ⟨a, b⟩
        · rw [a, e] at b
          cases b
    · rw [triedTo_yes hlt e]
      obtain ⟨h3, h4⟩ := h1.put B[k]
      refine ⟨h3, fun x => ?_⟩
      rw [h4, h2, htk]
      constructor
      · rintro (rfl | ⟨a, b⟩)
        · exact ⟨.inr rfl, e⟩
        · exact ⟨.inl a, b⟩
      · rintro ⟨a | a, b⟩
        · exact .inr ⟨a, b⟩
        · exact .inl a
theorem triedTo_sub {fs : List LFact} {rest : List LLit} {B : List (List Int)} {k : Nat} (hk : k ≤ B.length) : ∀ x ∈ triedTo fs rest B k, x ∈ B := fun x hx => List.mem_of_mem_take (((triedTo_is fs rest B k hk).2 x).1 hx).1
theorem UpB.nodup {S : List (List Int)} (h : UpB S) : S.Nodup := h.imp fun h e => by
  subst e
  rw [cmpL_refl] at h
  omega

/-- The solutions of a body. -/
def solsOf (fs : List LFact) (ls : List LLit) : List (List Int) := triedTo fs (restTo ls ls.length) (bindsTo fs ls ls.length) (bindsTo fs ls ls.length).length

end Go.Proofs.YtebincnejcmocaaGreat
