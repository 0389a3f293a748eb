/-
  Texts that the claim's last one imports, laid together: part 11 of 12. No condition of its own.
-/
import Derived.Maps.AppendAt
import Derived.Deep.AppendLies
import Derived.Shelf.Spec.TrailingZeros
import Derived.Laws.Bits64b
import Derived.Test.YtniedmhkajnfjaaGreatMRf1
import Derived.Test.YtniedmhkajnfjaaGreatMRf2
import Derived.Test.YtniedmhkajnfjaaGreatMRf4
import Derived.Test.YtniedmhkajnfjaaGreatMRf5
import Derived.Test.YtniedmhkajnfjaaGreatMRf6
import Derived.Test.YtniedmhkajnfjaaGreatMRf7
import Derived.Test.YtniedmhkajnfjaaGreatMRf8
import Derived.Test.YtniedmhkajnfjaaGreatMRf9
import Derived.Test.YtniedmhkajnfjaaGreatMRf10
/-
  append of a row of words that is read, nil and empty let in, onto a row of the call's own.
-/
namespace Go.Proofs.YtniedmhkajnfjaaGreat
open Go.RowKit

theorem run_append_w {P : Program} (w : World) (base : Nat) (t ty e : TypeId) (i : TypeInfo) (z : Value) (bytes : Nat) (ht : P.underlying t = some (.slice e)) (hi : P.info? e = some i) (hz : i.zero = some z)
    (hsize : i.size = 1) (hby : i.bytes = bytes) (hzs : z.cells.size = 1)
    (v : Value) (n : Nat) (xs : List Value) (hown : w.ownsRow base e 1 v n xs) (B : Nat) (x : Value) (ys : List (List Int)) (hr : RdW w B x ys)
    (h63 : n + ys.length ≤ maxLen) (hbytes : (n + ys.length) * bytes ≤ 140737488355328) (hbase : base ≤ w.heap.size) :
    ∃ A' c' w', (Builtin.append_ #[t, t] ty #[v, x]).run P w = .ok (.slice A' (n + ys.length) c') w' ∧ w'.ownsRow base e 1 (.slice A' (n + ys.length) c') (n + ys.length) (xs ++ ys.map wd) ∧ w.grownBy w' v.ownBlock ∧
      ((Value.slice A' (n + ys.length) c').ownBlock = v.ownBlock ∨ (Value.slice A' (n + ys.length) c').ownBlock = some w.heap.size) := by
  have hform : ∀ {w' : World} {v' : Value} {m : Nat} {zs : List Value}, w'.ownsRow base e 1 v' m zs → ∃ A c, v' = .slice A m c := by
    intro w' v' m zs h
    rcases h.2 with ⟨rfl, h0⟩ | ⟨g, cap, _, rfl, _⟩
    · exact ⟨none, 0, by rw [h0]⟩
    · exact ⟨_, _, rfl⟩
  obtain ⟨A, c, rfl, hc, hcell⟩ := hr
  rcases A with _ | ad
  · have h0 : ys.length = 0 := by
      rcases Nat.eq_zero_or_pos ys.length with h0 | h0
      · exact h0
      · obtain ⟨b, o, e, _⟩ := hcell h0
        cases e
    have hys : ys = [] := List.eq_nil_of_length_eq_zero h0
    subst hys
    obtain ⟨A', c', hv⟩ := hform hown
    refine ⟨A', c', w, ?_, by simpa [← hv] using hown, World.grownBy.refl w _, .inl (by rw [hv]; rfl)⟩
    simp only [List.length_nil, Nat.add_zero]
    rw [← hv]
    exact run_append_nilsrc w base t ty e i 1 ht hi v n xs hown c
  · have hnews : ∀ j u, (ys.map wd)[j]? = some u → w.cell? (ad.add j) = some u := by
      intro j u hu
      have hj : j < ys.length := by
        rcases Nat.lt_or_ge j ys.length with h | h
        · exact h
        · rw [List.getElem?_eq_none (by simpa using h)] at hu; cases hu
      obtain ⟨b, o, e, _, hx⟩ := hcell (by omega)
      injection e with e
      subst e
      rw [Go.WideShapes.add_plain, hx j hj]
      rw [List.getElem?_map, List.getElem?_eq_getElem hj] at hu
      exact hu
    obtain ⟨v', w', hrun, h2, h3, _, h5⟩ := run_append_own_at (P := P) w base t ty e i z 1 bytes ht hi hz hsize hby hzs (by decide) v n xs hown ad ys.length c (ys.map wd) (by simp) hnews
      (fun u hu => by simp at hu; obtain ⟨q, _, rfl⟩ := hu; rfl) h63 hbytes hbase
    obtain ⟨A', c', hv⟩ := hform h2
    subst hv
    exact ⟨A', c', w', hrun, h2, h3, h5⟩

theorem wpList_append_w {P : Program} {w : World} {ops : Array Oper} {rest : List Oper} {o : Oper} {a : Act} {Q : Exit → Act → World → Prop} (hgd : o.guard = none) (s x : Operand) (t : TypeId)
    (ho : o.op = .call { callee := .builtin .append, args := #[s, x], argTypes := #[t, t] })
    (base : Nat) (e : TypeId) (i : TypeInfo) (z : Value) (bytes : Nat) (ht : P.underlying t = some (.slice e)) (hi : P.info? e = some i) (hz : i.zero = some z)
    (hsize : i.size = 1) (hby : i.bytes = bytes) (hzs : z.cells.size = 1)
    (v : Value) (n : Nat) (xs : List Value) (hs : a.eval s = v) (hown : w.ownsRow base e 1 v n xs) (B : Nat) (xv : Value) (ys : List (List Int)) (hx : a.eval x = xv) (hr : RdW w B xv ys)
    (h63 : n + ys.length ≤ maxLen) (hbytes : (n + ys.length) * bytes ≤ 140737488355328) (hbase : base ≤ w.heap.size)
    (h : ∀ A' c' w', w'.ownsRow base e 1 (.slice A' (n + ys.length) c') (n + ys.length) (xs ++ ys.map wd) → w.grownBy w' v.ownBlock →
      ((Value.slice A' (n + ys.length) c').ownBlock = v.ownBlock ∨ (Value.slice A' (n + ys.length) c').ownBlock = some w.heap.size) → wpList P ops Q rest (a.put o.dst (.slice A' (n + ys.length) c')) w') : wpList P ops Q (o :: rest) a w := by
  refine wpList_plain hgd fun _ hK => ?_
  obtain ⟨A', c', w', hrun, h2, h3, h4⟩ := run_append_w (P := P) w base t o.type e i z bytes ht hi hz hsize hby hzs v n xs hown B xv ys hr h63 hbytes hbase
  unfold Oper.wp execOp
  simp only [ho, resolve, invoke, builtin, Sem.run_bind, Sem.run_pure, Result.andThen_ok, List.map_toArray, List.map_cons, List.map_nil, hs, hx, hrun]
  exact hK _ _ (h A' c' w' h2 h3 h4)

end Go.Proofs.YtniedmhkajnfjaaGreat
/-
  solveFresh: what makes a body hold with some atom among new facts.
-/
namespace Go.Proofs.YtniedmhkajnfjaaGreat
open Go.RowKit

theorem freshTo_step {ls : List LLit} {ag : List LAge} {k : Nat} {S S1 : List (List Int)} (h0 : (litD ls k).1 = 0) (h : ∀ b, b ∈ S ↔ FreshSolTo ls ag k b) (h1 : ∀ b, b ∈ S1 ↔ bindOk b = true ∧ DomL ls b ∧ FreshAt ls ag k b) (b : List Int) : b ∈ S ++ S1 ↔ FreshSolTo ls ag (k + 1) b := by
  rw [List.mem_append, h b, h1 b]
  unfold FreshSolTo
  constructor
  · rintro (⟨a1, a2, i, hi, a3⟩ | ⟨a1, a2, a3⟩)
    · exact ⟨a1, a2, i, by omega, a3⟩
    · exact ⟨a1, a2, k, by omega, h0, a3⟩
  · rintro ⟨a1, a2, i, hi, a3, a4⟩
    by_cases e : i = k
    · subst e
      exact .inr ⟨a1, a2, a4⟩
    · exact .inl ⟨a1, a2, i, by omega, a3, a4⟩
theorem freshTo_skip {ls : List LLit} {ag : List LAge} {k : Nat} (h0 : ¬ ((litD ls k).1 = 0 ∧ 0 < (ageD ag k).2.2.length)) (b : List Int) : FreshSolTo ls ag k b ↔ FreshSolTo ls ag (k + 1) b := by
  unfold FreshSolTo
  constructor
  · rintro ⟨a1, a2, i, hi, a3⟩
    exact ⟨a1, a2, i, by omega, a3⟩
  · rintro ⟨a1, a2, i, hi, a3, a4⟩
    refine ⟨a1, a2, i, ?_, a3, a4⟩
    rcases Nat.lt_or_ge i k with h | h
    · exact h
    · obtain rfl : i = k := by omega
      have h5 := ((hold_yes a3).1 a4.1).2
      exact absurd ⟨a3, List.length_pos_of_mem h5⟩ h0

set_option maxHeartbeats 4000000 in
set_option maxRecDepth 100000 in
theorem solveFresh_any (ga ca : Nat) (ls : List LLit) (ag : List LAge) (us : List AV) (v : Value) (w : World) (h : RdLits w w.heap.size v ls) (h2 : AtA w ga ca us) (h3 : RdAges w w.heap.size us ag) (hal : ag.length = ls.length) (hs : SafeB ls) (htl : totL ls ≤ 1048576) (hok : ∀ a ∈ ag, AgeOk a) :
    Calls Tryz.prog 45 #[v, .slice (some ⟨ga, 0, none⟩) ls.length ca] w fun e' w' =>
      ∃ (A : Option Addr) (c : Nat) (S : List (List Int)), e' = .returned (.slice A S.length c) ∧ OwnW w' w.heap.size w'.heap.size (.slice A S.length c) S ∧ Below w.heap.size w w' ∧ (∀ b, b ∈ S ↔ FreshSol ls ag b) ∧ S.length ≤ 262144 ∧ ((∀ j f, f ∈ (ageD ag j).2.1 → f ∉ (ageD ag j).2.2) → S.Nodup) := by
  obtain ⟨i0, hi0, hz0, hz1, hz2⟩ := info_parts Tryz.infoWord
  have hn := hs.few
  have HL := Lib.hid h
  have HA := Lib.hid h2
  have HR := Lib.hid h3
  have HAL := Lib.hid (And.intro hal h3.1)
  have HS := Lib.hid hs
  have HOK := Lib.hid hok
  obtain ⟨A, c, rfl, hc, _⟩ := h
  clear h2 h3 hal hs hok
  go_enter Tryz.func45, Tryz.ntmps45
  go_wp2_with fail
  go_loopw [5, 10] (fun q x wr => ∃ (k : Nat) (A' : Option Addr) (c' : Nat) (S : List (List Int)), k ≤ ls.length ∧ x = .int .i64 k ∧ q = .slice A' S.length c' ∧ OwnW wr w.heap.size wr.heap.size (.slice A' S.length c') S ∧ Below w.heap.size w wr ∧ (∀ b, b ∈ S ↔ FreshSolTo ls ag k b) ∧ S.length ≤ k * 65536 ∧ ((∀ j f, f ∈ (ageD ag j).2.1 → f ∉ (ageD ag j).2.2) → S.Nodup)) (fun _ x _ => ls.length - (intOf x).toNat)
  case atStart => exact ⟨0, none, 0, [], Nat.zero_le _, rfl, rfl, ⟨World.ownsRow_nil _ _ _ _, fun g hg => by cases hg⟩, Below.refl _ _, fun b => by simp [FreshSolTo], by simp, fun _ => List.nodup_nil⟩
  case round =>
    obtain ⟨k, A', c', S, hk, rfl, rfl, how, hbe, hmem, hlen, hnd⟩ := hrel
    have HO := Lib.hid how
    have HBE := Lib.hid hbe
    have HM := Lib.hid hmem
    have HND := Lib.hid hnd
    clear how hmem hnd
    by_cases hlt : k < ls.length
    · obtain ⟨b, o3, u0, u1, u2, rfl, hbB, k0, k1, k2, rfl, rfl, p3⟩ := (HL.out.below hbe (Nat.le_refl _)).get hlt
      obtain ⟨A4, c4, rfl, hc4, _⟩ := id p3
      obtain ⟨l, hle⟩ : ∃ l, l = litD ls k := ⟨_, rfl⟩
      have hli : l = ls[k] := by rw [hle, litD_lt hlt]
      rw [← hli] at k0 k1 k2 hc4
      have huk : k < us.length := by rw [HAL.out.2, HAL.out.1]; exact hlt
      have hak : k < ag.length := by rw [HAL.out.1]; exact hlt
      have hga : ga < w.heap.size := HA.out.lt
      have k3 := (hbe.cell (p := ⟨ga, k * 3 + 2, none⟩) hga).trans (HA.out.cells huk).2.2
      have hf3 := (HR.out.2 k huk hak).2.2
      rw [← ageD_lt hak] at hf3
      obtain ⟨A5, c5, e5, _, _⟩ := hf3
      rw [e5] at k3
      obtain ⟨n5, hn5⟩ : ∃ n5, n5 = (ageD ag k).2.2.length := ⟨_, rfl⟩
      rw [← hn5] at k3
      have HN5 := Lib.hid hn5
      have HLE := Lib.hid hle
      have k3' := (below1 wr (Obj.cells #[Value.int IntKind.i64 l.1, Value.int IntKind.i64 l.2.1, Value.slice A4 l.2.2.length c4] 78)).cell (p := ⟨ga, k * 3 + 2, none⟩) (by have := hbe.size; show ga < _; omega)
      rw [k3] at k3'
      clear hle hli p3 hbe e5 hn5
      by_cases hcond : l.1 = 0 ∧ 0 < n5
      · obtain ⟨hc1, hc2⟩ := hcond
        have hd1 : (l.1 == 0) = true := by simpa using hc1
        have hd2 : decide (0 < n5) = true := decide_eq_true hc2
        have HC1 := Lib.hid hc1
        clear hc1
        obtain ⟨w2, hw2⟩ : ∃ w2, w2 = wr.alloc (Obj.cells #[Value.int IntKind.i64 l.1, Value.int IntKind.i64 l.2.1, Value.slice A4 l.2.2.length c4] 78) := ⟨_, rfl⟩
        have HB2 := Lib.hid (show Below wr.heap.size wr w2 by rw [hw2]; exact below1 _ _)
        have HW2 := Lib.hid hw2
        clear hw2
        have CF := Lib.hid (freshQuestions_any ga ca k ls ag us (.slice (some ⟨b, o3, none⟩) ls.length c) w2 ((HL.out.on HBE.out).on HB2.out) ((HA.out.below HBE.out hga).below HB2.out (by have := HBE.out.size; omega)) ((HR.out.below HBE.out (Nat.le_refl _)).below HB2.out HBE.out.size |>.more (by have := HBE.out.size; have := HB2.out.size; omega)) HAL.out.1 hlt hn)
        go_upto_region 6 with fail
        rw [← HW2.out]
        go_wp2_with (first
          | (go_at_call 81; refine CF.out.mono ?_; rintro e3 w3 ⟨g2, c2, us2, rfl, hg2, at3, rd3, b3⟩
             have CS := solve_any g2 c2 w2.heap.size us2 (freshTo ls ag k ls.length) w3 at3 rd3 hg2 (by have := (freshTo_len ls ag k ls.length).1; omega) (freshQ_ok hlt HAL.out.1 HS.out htl HOK.out) (freshQ_safe hlt HS.out)
             rw [(freshTo_len ls ag k ls.length).2.1 hlt] at CS
             have HCS := Lib.hid CS
             have H3 := Lib.hid (And.intro hg2 b3)
             clear CS hg2 at3 rd3 b3)
          | (go_at_call 80; refine HCS.out.mono ?_; rintro e4 w4 ⟨A6, c6, S1, rfl, own4, on4, is4⟩
             have H4 := Lib.hid (And.intro own4 (And.intro on4 is4))
             clear own4 on4 is4
             have hs3 := H3.out.2.size
             have hs2 := HB2.out.size
             have hs4 := H4.out.2.1.size
             have hg2 := H3.out.1
             have hl4 : S1.length ≤ 65536 := binds_len H4.out.2.2.1 H4.out.2.2.ok
             have hsr := HBE.out.size
             have B4 : Below wr.heap.size wr w4 := (bthen HB2.out H3.out.2).trans (H4.out.2.1.below (by omega) (by omega))
             have HB4 := Lib.hid B4
             clear B4)
          | (at_builtin; refine wpList_append_w rfl (.tmp 27) (.tmp 32) 84 rfl w.heap.size 90 i0 (.int .u32 0) 4 Tryz.underlying84 hi0 hz0 hz1 hz2 rfl (.slice A' S.length c') S.length (S.map wd) rfl (HO.out.below HB4.out (Nat.le_refl _)).1 w4.heap.size (.slice A6 S1.length c6) S1 rfl H4.out.1.rd (by unfold maxLen; omega) (by omega) (by omega) ?_))
        intro A7 c7 w5 hown hgr hat
        obtain ⟨_, hmm⟩ := freshQ_is hlt H4.out.2.2
        have HF := Lib.hid (show OwnW w5 w.heap.size w5.heap.size (.slice A7 (S ++ S1).length c7) (S ++ S1) ∧ Below w.heap.size w w5 ∧ (∀ b, b ∈ S ++ S1 ↔ FreshSolTo ls ag (k + 1) b) ∧ (S ++ S1).length ≤ (k + 1) * 65536 ∧ ((∀ j f, f ∈ (ageD ag j).2.1 → f ∉ (ageD ag j).2.2) → (S ++ S1).Nodup) from by
          refine ⟨⟨?_, fun g hg => ?_⟩, ?_, freshTo_step (by rw [← HLE.out]; exact HC1.out) HM.out hmm, by simp; omega, fun hd => ?_⟩
          · rw [List.length_append, List.map_append]
            exact hown
          · rw [List.length_append] at hg
            exact (hown.lt g hg).2
          · refine (HBE.out.trans (HB4.out.mono hsr)).grown hgr (by omega) fun k hk => ?_
            exact ((HO.out.1).lt k hk).1
          · rw [List.nodup_append]
            refine ⟨HND.out hd, H4.out.2.2.1, fun x hx y hy e => ?_⟩
            subst e
            obtain ⟨_, _, i, hi, h0, hf⟩ := (HM.out x).1 hx
            exact fresh_apart (show i < ls.length by omega) hi h0 (hd i) hf ((hmm x).1 hy).2.2)
        have hlen2 : S.length + S1.length = (S ++ S1).length := by simp
        rw [hlen2]
        have HF2 := Lib.hid (And.intro hlen2 HF.out)
        clear hlen2 hown hgr hat hmm
        go_wp2_with fail
        go_roundw
        case rel => exact ⟨k + 1, A7, c7, S ++ S1, by omega, by go_num, rfl, HF.out.1, HF.out.2.1, HF.out.2.2.1, HF.out.2.2.2.1, HF.out.2.2.2.2⟩
        case measure => simp [intOf]; omega
      · have HNC := Lib.hid (show ∀ b, FreshSolTo ls ag k b ↔ FreshSolTo ls ag (k + 1) b from freshTo_skip (by rw [← HLE.out, ← HN5.out]; exact hcond))
        have hd : ((l.1 == 0) = true ∧ decide (0 < n5) = false) ∨ (l.1 == 0) = false := by
          by_cases e : l.1 = 0
          · exact .inl ⟨by simpa using e, by
              exact decide_eq_false fun h => hcond ⟨e, h⟩⟩
          · exact .inr (by simpa using e)
        clear hcond
        rcases hd with ⟨hd1, hd2⟩ | hd1
        all_goals
          go_wp2_with fail
          go_roundw
          case rel => exact ⟨k + 1, A', c', S, by omega, by go_num, rfl, (HO.out.below (below1 _ _) (Nat.le_refl _)).mono (Nat.le_refl _) (below1 _ _).size, bthen HBE.out (below1 _ _), fun b => (HM.out b).trans (HNC.out b), Nat.le_trans hlen (Nat.mul_le_mul_right _ (Nat.le_succ k)), HND.out⟩
          case measure => simp [intOf]; omega
    · obtain rfl : k = ls.length := by omega
      clear hbe
      go_wp2_with fail
      go_ret
      exact ⟨A', c', S, rfl, HO.out, HBE.out, HM.out, by omega, HND.out⟩

end Go.Proofs.YtniedmhkajnfjaaGreat
/-
  A round is ended.
-/
namespace Go.Proofs.YtniedmhkajnfjaaGreat
open Go.RowKit

theorem updIf (a b : Nat → Nat) (k : Nat) : updF (fun q => if q < k then a q else b q) k (a k) = fun q => if q < k + 1 then a q else b q := by
  funext q
  by_cases e : q = k
  · subst e
    rw [updF_same, if_pos (Nat.lt_succ_self _)]
  · rw [updF_ne _ _ e]
    by_cases h : q < k
    · rw [if_pos h, if_pos (by omega)]
    · rw [if_neg h, if_neg (by omega)]
theorem GrRaw.same {w : World} {g : Nat} {XL : List FV} {E : List Nat} {XP : Nat → List FV} {O La O' La' : Nat → Nat} {T : List Nat} {R : Nat → Value} (h : GrRaw w g XL E XP O La T R) (h1 : ∀ p, p < 24 → O p = O' p) (h2 : ∀ p, p < 24 → La p = La' p) : GrRaw w g XL E XP O' La' T R := by
  obtain ⟨cs, g1, g2⟩ := h.blk
  exact ⟨⟨cs, g1, g2.size, g2.list, g2.ends, g2.tab, g2.pred, fun p hp => by rw [← h1 p hp]; exact g2.old p hp, fun p hp => by rw [← h2 p hp]; exact g2.lat p hp⟩, h.tl, h.tb, h.list, h.ends, h.pred, h.apart, h.argsL, h.argsP⟩
theorem Tryz.infoInt1 : (Tryz.prog.info? 3).map (fun i => (i.zero, i.size, i.bytes)) = some (some (.int .i64 0), 1, 8) := by kernel_rfl

set_option maxHeartbeats 4000000 in
set_option maxRecDepth 100000 in
theorem endRound_any (g : Nat) (X : List FV) (E : List Nat) (o e : Nat) (R : Nat → Value) (w : World) (h : GrAt w g X E o e R) (hn : X.length ≤ 1048576) (hE : E.length ≤ 1048576) :
    Calls Tryz.prog 96 #[.pointer (some ⟨g, 0, none⟩)] w fun e' w' =>
      e' = .returned (.tuple #[]) ∧ ∃ R', GrAt w' g X (E ++ [X.length]) e X.length R' ∧ KeepR g w R w' R' := by
  obtain ⟨i0, hi0, hz0, hz1, hz2⟩ := info_parts Tryz.infoInt1
  have HAT := Lib.hid h
  have hgl := h.lt
  clear h
  go_enter Tryz.func96, Tryz.ntmps96
  go_upto_region 0 with fail
  refine wp_region_rel (fun W => W.cell? ⟨g, 0, none⟩ = some (R 0) ∧ W.cell? ⟨g, 1, none⟩ = some (R 1)) 14 15 (by kernel_rfl) rfl ?_
  obtain ⟨wy, hwy⟩ : ∃ wy, wy = w.drew := ⟨_, rfl⟩
  have HG := Lib.hid (show GrAt wy g X E o e R by rw [hwy]; exact HAT.out.drew)
  have HK := Lib.hid (show KeepR g w R wy R by rw [hwy]; exact (KeepR.refl g w R).drew)
  rw [← hwy]
  clear hwy
  obtain ⟨A0, c0, hv0⟩ := HG.out.raw.formL
  obtain ⟨A1, c1, hv1⟩ := HG.out.raw.formE
  obtain ⟨SS, hSS⟩ : ∃ SS : World → Prop, SS = (fun W => W.cell? ⟨g, 0, none⟩ = some (R 0) ∧ W.cell? ⟨g, 1, none⟩ = some (R 1)) := ⟨_, rfl⟩
  rw [← hSS]
  have HB := Lib.hid (show ∀ W, SS W → (W.cell? ⟨g, 0, none⟩ = some (.slice A0 X.length c0) ∧ W.cell? ⟨g, 1, none⟩ = some (.slice A1 E.length c1)) from by rw [hSS, hv0, hv1]; exact fun W hW => hW)
  have HS := Lib.hid (show ∀ W : World, (∀ b, b < wy.heap.size → (R 1).ownBlock ≠ some b → W.heap[b]? = wy.heap[b]?) → SS W from by
    rw [hSS]
    intro W hW
    have hg0 : W.heap[g]? = wy.heap[g]? := hW g HG.out.lt fun e => by have := HG.out.raw.rowLt (show 1 < 26 by omega) e; omega
    exact ⟨(World.cell?_of_block hg0).trans HG.out.raw.cellList, (World.cell?_of_block hg0).trans HG.out.raw.cellEnds⟩)
  have HFR := Lib.hid (show ∀ W : World, (∀ b, b < wy.heap.size → (R 1).ownBlock ≠ some b → W.heap[b]? = wy.heap[b]?) → W.frozen? ⟨g, 1, none⟩ = false from fun W hW => by
    have hg0 : W.heap[g]? = wy.heap[g]? := hW g HG.out.lt fun e => by have := HG.out.raw.rowLt (show 1 < 26 by omega) e; omega
    exact (World.frozen?_of_block hg0).trans (HG.out.raw.free 1))
  have SB : SS wy := HS.out wy fun _ _ _ => rfl
  have HV1 := Lib.hid hv1
  clear hSS hv0 hv1
  refine wpAnyR_pure (i := 0) (oi := _) ?va0 rfl rfl (by kernel_rfl) (by decide) (fun _ _ _ h => h) rfl ?hya0 (fun _ => SB) ?resta0
  case hya0 => (intro W; go_simp; (try with_reducible rfl))
  try simp only [List.setIfInBounds_toArray, List.set_cons_zero, List.set_cons_succ]
  refine wpAnyR_pure (i := 1) (oi := _) ?va1 rfl rfl (by kernel_rfl) (by decide) (fun _ _ _ h => h) rfl ?hya1 (fun _ => SB) ?resta1
  case hya1 => (intro W; go_simp; (try with_reducible rfl))
  try simp only [List.setIfInBounds_toArray, List.set_cons_zero, List.set_cons_succ]
  refine wpAnyR_pure (i := 2) (oi := _) ?va2 rfl rfl (by kernel_rfl) (by decide) (fun _ _ _ h => h) rfl ?hya2 (fun _ => SB) ?resta2
  case hya2 => (intro W; go_simp; (try with_reducible rfl))
  try simp only [List.setIfInBounds_toArray, List.set_cons_zero, List.set_cons_succ]
  refine wpAnyR_pure (i := 3) (oi := _) ?va3 rfl rfl (by kernel_rfl) (by decide) (fun _ _ _ h => h) rfl ?hya3 (fun _ => SB) ?resta3
  case hya3 => (intro W; go_simp; (try with_reducible rfl))
  try simp only [List.setIfInBounds_toArray, List.set_cons_zero, List.set_cons_succ]
  refine wpAnyR_take (i := 4) (oi := _) ?va4 rfl rfl (by kernel_rfl) (fun _ _ _ h => h) rfl ?hya4 SB ?resta4
  case hya4 => (intro W hW; obtain ⟨E0, E1⟩ := HB.out W hW; go_simp; (try with_reducible rfl))
  try simp only [List.setIfInBounds_toArray, List.set_cons_zero, List.set_cons_succ]
  refine wpAnyR_pure (i := 5) (oi := _) ?va5 rfl rfl (by kernel_rfl) (by decide) (fun _ _ _ h => h) rfl ?hya5 (fun _ => SB) ?resta5
  case hya5 => (intro W; go_simp; (try with_reducible rfl))
  try simp only [List.setIfInBounds_toArray, List.set_cons_zero, List.set_cons_succ]
  refine wpAnyR_pure (i := 6) (oi := _) ?va6 rfl rfl (by kernel_rfl) (by decide) (fun _ _ _ h => h) rfl ?hya6 (fun _ => SB) ?resta6
  case hya6 => (intro W; go_simp; (try with_reducible rfl))
  try simp only [List.setIfInBounds_toArray, List.set_cons_zero, List.set_cons_succ]
  refine wpAnyR_pure (i := 7) (oi := _) ?va7 rfl rfl (by kernel_rfl) (by decide) (fun _ _ _ h => h) rfl ?hya7 (fun _ => SB) ?resta7
  case hya7 => (intro W; go_simp; (try with_reducible rfl))
  try simp only [List.setIfInBounds_toArray, List.set_cons_zero, List.set_cons_succ]
  refine wpAnyR_take (i := 8) (oi := _) ?va8 rfl rfl (by kernel_rfl) (fun _ _ _ h => h) rfl ?hya8 SB ?resta8
  case hya8 => (intro W hW; obtain ⟨E0, E1⟩ := HB.out W hW; go_simp; (try with_reducible rfl))
  try simp only [List.setIfInBounds_toArray, List.set_cons_zero, List.set_cons_succ]
  refine wpAnyR_pure (i := 9) (oi := _) ?va9 rfl rfl (by kernel_rfl) (by decide) (fun _ _ _ h => h) rfl ?hya9 (fun _ => SB) ?resta9
  case hya9 => (intro W; go_simp; (try with_reducible rfl))
  try simp only [List.setIfInBounds_toArray, List.set_cons_zero, List.set_cons_succ]
  refine wpAnyR_one (i := 10) (by kernel_rfl) rfl (fun K hK => ?_)
  try rw [if_pos (show Region.wanted _ _ = true from rfl)]
  go_simp
  have S6 : SS _ := HS.out (wy.alloc (Obj.cells #[Value.int IntKind.i64 (X.length : Int)] 3)) fun b hb _ => Below.heap_alloc _ _ _ hb
  refine hK.out _ _ (fun _ => S6) ?_
  clear hK K
  try simp only [List.setIfInBounds_toArray, List.set_cons_zero, List.set_cons_succ, Act.put]
  refine wpAnyR_one (i := 11) (by kernel_rfl) rfl (fun K hK => ?_)
  refine step_append_lies _ rfl (.tmp 8) (.tmp 14) 22 rfl (g + 1) 3 i0 (.int .i64 0) 1 8 Tryz.underlying22 hi0 hz0 hz1 hz2 rfl (by decide) (.slice A1 E.length c1) E.length (E.map inN) rfl ?c1 ⟨wy.heap.size, 0, none⟩ 1 1 [.int .i64 (X.length : Int)] rfl rfl ?c4 ?c2 (by omega) (by unfold maxLen; omega) (by omega) ?c3 _ rfl ?c5
  case c1 => exact (HV1.out ▸ HG.out.raw.ends).alloc _
  case c4 => exact cell_one_new _ _ _
  case c2 => intro u hu; simp at hu; subst hu; rfl
  case c3 => have := HG.out.lt; simp; omega
  case c5 =>
  intro g2 cap w5 hown hgr hat _
  have HGW := Lib.hid (show Grew wy g R 1 1 (.slice (some ⟨g2, 0, none⟩) (E.length + 1) cap) w5 from by
    have hgr' := grown_from_alloc hgr
    refine ⟨by rw [HV1.out]; exact hgr', fun b hb => ?_⟩
    have e : g2 = b := by simpa [Value.ownBlock] using hb
    subst e
    rw [HV1.out]
    rcases hat with hat | hat
    · exact .inl hat
    · exact .inr (by rw [hat]; simp))
  have HOW := Lib.hid hown
  have S5 : SS w5 := HS.out w5 fun b hb hne => HGW.out.grown.block b hb fun e => hne e.symm
  have f5 : w5.frozen? ⟨g, 1, none⟩ = false := HFR.out w5 fun b hb hne => HGW.out.grown.block b hb fun e => hne e.symm
  have c5 : w5.cell? ⟨g, 1, none⟩ = some (.slice A1 E.length c1) := (HB.out w5 S5).2
  clear hown hgr hat
  refine hK.out _ _ (fun _ => S5) ?_
  clear hK K
  try simp only [List.setIfInBounds_toArray, List.set_cons_zero, List.set_cons_succ, Act.put]
  refine wpAnyR_pure (i := 12) (oi := _) ?va12 rfl rfl (by kernel_rfl) (by decide) (fun _ _ _ h => h) rfl ?hya12 (fun _ => S5) ?resta12
  case hya12 => (intro W; go_simp; (try with_reducible rfl))
  try simp only [List.setIfInBounds_toArray, List.set_cons_zero, List.set_cons_succ]
  refine wpAnyR_pure (i := 13) (oi := _) ?va13 rfl rfl (by kernel_rfl) (by decide) (fun _ _ _ h => h) rfl ?hya13 (fun _ => S5) ?resta13
  case hya13 => (intro W; go_simp; (try with_reducible rfl))
  try simp only [List.setIfInBounds_toArray, List.set_cons_zero, List.set_cons_succ]
  refine wpAnyR_one (i := 14) (by kernel_rfl) rfl (fun K hK => ?_)
  go_simp
  refine hK.out _ _ (fun hf => absurd hf (by decide)) ?_
  clear hK K
  refine wpAnyR_done (by kernel_rfl) ?_
  obtain ⟨R1, hR1⟩ : ∃ R1, R1 = updF R 1 (.slice (some ⟨g2, 0, none⟩) (E.length + 1) cap) := ⟨_, rfl⟩
  obtain ⟨w6, hw6⟩ : ∃ w6, w6 = w5.setCell ⟨g, 1, none⟩ (.slice (some ⟨g2, 0, none⟩) (E.length + 1) cap) := ⟨_, rfl⟩
  have H6 := Lib.hid (show GrRaw w6 g X (E ++ [X.length]) (ofX X) (cntX X o) (cntX X e) (tabWith zeroT (factsX X)) R1 ∧ KeepR g w R w6 R1 from by
    rw [hw6, hR1]
    have := HG.out.raw.growEnds HGW.out HOW.out
    exact ⟨this.1, HK.out.trans this.2⟩)
  rw [← hw6]
  clear hw6 hR1 S5 f5 c5 SB S6
  go_wp2_with fail
  go_loopw [18] (fun i wr => ∃ k : Nat, k ≤ 24 ∧ i = .int .i64 k ∧ GrRaw wr g X (E ++ [X.length]) (ofX X) (fun q => if q < k then cntX X e q else cntX X o q) (fun q => if q < k then cntX X X.length q else cntX X e q) (tabWith zeroT (factsX X)) R1 ∧ KeepR g w R wr R1) (fun i _ => 24 - (intOf i).toNat)
  case atStart => exact ⟨0, Nat.zero_le _, rfl, by simpa using H6.out.1, H6.out.2⟩
  case round =>
    obtain ⟨k, hk, rfl, hraw, hkp⟩ := hrel
    have HR := Lib.hid hraw
    have HKP := Lib.hid hkp
    clear hraw hkp
    by_cases hlt : k < 24
    · have hki : (k : Int) < 24 := by omega
      go_upto_region 5 with fail
      refine wp_region_rel (fun W => W.cell? ⟨g, 26 + k * 3, none⟩ = some (R1 (2 + k)) ∧ W.cell? ⟨g, 26 + k * 3 + 2, none⟩ = some (inN (cntX X e k))) 16 17 (by kernel_rfl) rfl ?_
      obtain ⟨wz, hwz⟩ : ∃ wz, wz = wr.drew := ⟨_, rfl⟩
      have HG2 := Lib.hid (show GrRaw wz g X (E ++ [X.length]) (ofX X) (fun q => if q < k then cntX X e q else cntX X o q) (fun q => if q < k then cntX X X.length q else cntX X e q) (tabWith zeroT (factsX X)) R1 by rw [hwz]; exact HR.out.drew)
      have HK2 := Lib.hid (show KeepR g w R wz R1 by rw [hwz]; exact HKP.out.drew)
      rw [← hwz]
      clear hwz
      obtain ⟨A2, c2, hv2⟩ := HG2.out.formP hlt
      obtain ⟨S2, hS2⟩ : ∃ S2 : World → Prop, S2 = (fun W => W.cell? ⟨g, 26 + k * 3, none⟩ = some (R1 (2 + k)) ∧ W.cell? ⟨g, 26 + k * 3 + 2, none⟩ = some (inN (cntX X e k))) := ⟨_, rfl⟩
      rw [← hS2]
      clear HB
      have HB := Lib.hid (show ∀ W, S2 W → (W.cell? ⟨g, 26 + k * 3, none⟩ = some (.slice A2 (ofX X k).length c2) ∧ W.cell? ⟨g, 26 + k * 3 + 2, none⟩ = some (.int .i64 ((cntX X e k : Nat) : Int))) from by rw [hS2, hv2]; exact fun W hW => hW)
      have SB : S2 wz := by
        rw [hS2]
        refine ⟨HG2.out.cellPred hlt, ?_⟩
        have := HG2.out.cellLat hlt
        rw [if_neg (Nat.lt_irrefl k)] at this
        exact this
      have hx1 : wz.cell? ⟨g, 26 + k * 3 + 1, none⟩ = some (inN (cntX X o k)) := by
        have := HG2.out.cellOld hlt
        rw [if_neg (Nat.lt_irrefl k)] at this
        exact this
      have hf1 : wz.frozen? ⟨g, 26 + k * 3 + 1, none⟩ = false := HG2.out.free _
      have hx2 := (HB.out wz SB).2
      have hf2 : wz.frozen? ⟨g, 26 + k * 3 + 2, none⟩ = false := HG2.out.free _
      have HS2 := Lib.hid (show S2 (wz.setCell ⟨g, 26 + k * 3 + 1, none⟩ (.int .i64 ((cntX X e k : Nat) : Int))) from by
        have := HG2.out.setOld hlt (cntX X e k)
        rw [hS2]
        refine ⟨this.cellPred hlt, ?_⟩
        have := this.cellLat hlt
        rw [if_neg (Nat.lt_irrefl k)] at this
        exact this)
      clear hS2 hv2
      unfold inN at hx1
      refine wpAnyR_pure (i := 0) (oi := _) ?vb0 rfl rfl (by kernel_rfl) (by decide) (fun _ _ _ h => h) rfl ?hyb0 (fun _ => SB) ?restb0
      case hyb0 => (intro W; go_simp; (try with_reducible rfl))
      try simp only [List.setIfInBounds_toArray, List.set_cons_zero, List.set_cons_succ]
      refine wpAnyR_pure (i := 1) (oi := _) ?vb1 rfl rfl (by kernel_rfl) (by decide) (fun _ _ _ h => h) rfl ?hyb1 (fun _ => SB) ?restb1
      case hyb1 => (intro W; go_simp; (try with_reducible rfl))
      try simp only [List.setIfInBounds_toArray, List.set_cons_zero, List.set_cons_succ]
      refine wpAnyR_pure (i := 2) (oi := _) ?vb2 rfl rfl (by kernel_rfl) (by decide) (fun _ _ _ h => h) rfl ?hyb2 (fun _ => SB) ?restb2
      case hyb2 => (intro W; go_simp; (try with_reducible rfl))
      try simp only [List.setIfInBounds_toArray, List.set_cons_zero, List.set_cons_succ]
      refine wpAnyR_pure (i := 3) (oi := _) ?vb3 rfl rfl (by kernel_rfl) (by decide) (fun _ _ _ h => h) rfl ?hyb3 (fun _ => SB) ?restb3
      case hyb3 => (intro W; go_simp; (try with_reducible rfl))
      try simp only [List.setIfInBounds_toArray, List.set_cons_zero, List.set_cons_succ]
      refine wpAnyR_pure (i := 4) (oi := _) ?vb4 rfl rfl (by kernel_rfl) (by decide) (fun _ _ _ h => h) rfl ?hyb4 (fun _ => SB) ?restb4
      case hyb4 => (intro W; go_simp; (try with_reducible rfl))
      try simp only [List.setIfInBounds_toArray, List.set_cons_zero, List.set_cons_succ]
      refine wpAnyR_take (i := 5) (oi := _) ?vb5 rfl rfl (by kernel_rfl) (fun _ _ _ h => h) rfl ?hyb5 SB ?restb5
      case hyb5 => (intro W hW; obtain ⟨E0, E1⟩ := HB.out W hW; go_simp; (try with_reducible rfl))
      try simp only [List.setIfInBounds_toArray, List.set_cons_zero, List.set_cons_succ]
      refine wpAnyR_pure (i := 6) (oi := _) ?vb6 rfl rfl (by kernel_rfl) (by decide) (fun _ _ _ h => h) rfl ?hyb6 (fun _ => SB) ?restb6
      case hyb6 => (intro W; go_simp; (try with_reducible rfl))
      try simp only [List.setIfInBounds_toArray, List.set_cons_zero, List.set_cons_succ]
      refine wpAnyR_pure (i := 7) (oi := _) ?vb7 rfl rfl (by kernel_rfl) (by decide) (fun _ _ _ h => h) rfl ?hyb7 (fun _ => SB) ?restb7
      case hyb7 => (intro W; go_simp; (try with_reducible rfl))
      try simp only [List.setIfInBounds_toArray, List.set_cons_zero, List.set_cons_succ]
      refine wpAnyR_pure (i := 8) (oi := _) ?vb8 rfl rfl (by kernel_rfl) (by decide) (fun _ _ _ h => h) rfl ?hyb8 (fun _ => SB) ?restb8
      case hyb8 => (intro W; go_simp; (try with_reducible rfl))
      try simp only [List.setIfInBounds_toArray, List.set_cons_zero, List.set_cons_succ]
      refine wpAnyR_take (i := 9) (oi := _) ?vb9 rfl rfl (by kernel_rfl) (fun _ _ _ h => h) rfl ?hyb9 SB ?restb9
      case hyb9 => (intro W hW; obtain ⟨E0, E1⟩ := HB.out W hW; go_simp; (try with_reducible rfl))
      try simp only [List.setIfInBounds_toArray, List.set_cons_zero, List.set_cons_succ]
      refine wpAnyR_pure (i := 10) (oi := _) ?vb10 rfl rfl (by kernel_rfl) (by decide) (fun _ _ _ h => h) rfl ?hyb10 (fun _ => SB) ?restb10
      case hyb10 => (intro W; go_simp; (try with_reducible rfl))
      try simp only [List.setIfInBounds_toArray, List.set_cons_zero, List.set_cons_succ]
      refine wpAnyR_pure (i := 11) (oi := _) ?vb11 rfl rfl (by kernel_rfl) (by decide) (fun _ _ _ h => h) rfl ?hyb11 (fun _ => SB) ?restb11
      case hyb11 => (intro W; go_simp; (try with_reducible rfl))
      try simp only [List.setIfInBounds_toArray, List.set_cons_zero, List.set_cons_succ]
      refine wpAnyR_pure (i := 12) (oi := _) ?vb12 rfl rfl (by kernel_rfl) (by decide) (fun _ _ _ h => h) rfl ?hyb12 (fun _ => SB) ?restb12
      case hyb12 => (intro W; go_simp; (try with_reducible rfl))
      try simp only [List.setIfInBounds_toArray, List.set_cons_zero, List.set_cons_succ]
      refine wpAnyR_one (i := 13) (by kernel_rfl) rfl (fun K hK => ?_)
      try rw [if_pos (show Region.wanted _ _ = true from rfl)]
      go_simp
      have S3 := HS2.out
      refine hK.out _ _ (fun _ => S3) ?_
      clear hK K
      try simp only [List.setIfInBounds_toArray, List.set_cons_zero, List.set_cons_succ, Act.put]
      refine wpAnyR_pure (i := 14) (oi := _) ?vb14 rfl rfl (by kernel_rfl) (by decide) (fun _ _ _ h => h) rfl ?hyb14 (fun _ => S3) ?restb14
      case hyb14 => (intro W; go_simp; (try with_reducible rfl))
      try simp only [List.setIfInBounds_toArray, List.set_cons_zero, List.set_cons_succ]
      refine wpAnyR_pure (i := 15) (oi := _) ?vb15 rfl rfl (by kernel_rfl) (by decide) (fun _ _ _ h => h) rfl ?hyb15 (fun _ => S3) ?restb15
      case hyb15 => (intro W; go_simp; (try with_reducible rfl))
      try simp only [List.setIfInBounds_toArray, List.set_cons_zero, List.set_cons_succ]
      refine wpAnyR_one (i := 16) (by kernel_rfl) rfl (fun K hK => ?_)
      go_simp
      refine hK.out _ _ (fun hf => absurd hf (by decide)) ?_
      clear hK K
      refine wpAnyR_done (by kernel_rfl) ?_
      have HN := Lib.hid (show ∀ W, W = (wz.setCell ⟨g, 26 + k * 3 + 1, none⟩ (.int .i64 ((cntX X e k : Nat) : Int))).setCell ⟨g, 26 + k * 3 + 2, none⟩ (.int .i64 (((ofX X k).length : Nat) : Int)) → GrRaw W g X (E ++ [X.length]) (ofX X) (fun q => if q < k + 1 then cntX X e q else cntX X o q) (fun q => if q < k + 1 then cntX X X.length q else cntX X e q) (tabWith zeroT (factsX X)) R1 ∧ KeepR g w R W R1 from fun W hW => by
        subst hW
        have h1 := (HG2.out.setOld hlt (cntX X e k)).setLat hlt (ofX X k).length
        have h2 : updF (fun q => if q < k then cntX X X.length q else cntX X e q) k (ofX X k).length = fun q => if q < k + 1 then cntX X X.length q else cntX X e q := by rw [← cntX_all X k]; exact updIf _ _ _
        rw [updIf, h2] at h1
        exact ⟨h1, (HK2.out.setG _ _).setG _ _⟩)
      have HN2 := Lib.hid (HN.out _ rfl)
      clear hx1 hx2 hf1 hf2 S3 SB
      go_wp2_with fail
      go_roundw
      case rel => exact ⟨k + 1, by omega, by go_num, HN2.out.1, HN2.out.2⟩
      case measure => simp [intOf]; omega
    · obtain rfl : k = 24 := by omega
      go_wp2_with fail
      go_end0
      exact ⟨rfl, R1, ⟨HR.out.same (fun p hp => by rw [if_pos hp]) (fun p hp => by rw [if_pos hp]), HAT.out.eL, Nat.le_refl _⟩, HKP.out⟩

end Go.Proofs.YtniedmhkajnfjaaGreat
/-
  growOn: rounds are brought as long as there are new facts.
-/
namespace Go.Proofs.YtniedmhkajnfjaaGreat
open Go.RowKit

def measE (g : Nat) (w : World) : Nat := match w.cell? ⟨g, 1, none⟩ with
  | some (.slice _ n _) => 2000 - n
  | _ => 0
theorem GrAt.meas {w : World} {g o e : Nat} {X : List FV} {E : List Nat} {R : Nat → Value} (h : GrAt w g X E o e R) : measE g w = 2000 - E.length := by
  obtain ⟨A, c, hv⟩ := h.raw.formE
  unfold measE
  rw [h.raw.cellEnds, hv]
/-- The last end, in memory. -/
theorem GrAt.lastEnd {w : World} {g o e m : Nat} {X : List FV} {E : List Nat} {R : Nat → Value} (h : GrAt w g X E o e R) (hm : E.length = m + 1) (hl : E.getLastD 0 = e) : ∃ b c, R 1 = .slice (some ⟨b, 0, none⟩) (m + 1) c ∧ w.cell? ⟨b, m, none⟩ = some (.int .i64 (e : Int)) ∧ m + 1 ≤ c := by
  have hcells := @World.ownsRow.cells w (g + 1) 3 1 _ E.length (E.map inN) h.raw.ends
  rcases h.raw.ends.2 with ⟨e1, e0⟩ | ⟨b, cap, cur, e1, hb, hg, hc, _⟩
  · omega
  · refine ⟨b, cap, by rw [e1, hm], ?_, by omega⟩
    have hget : (E.map inN)[m]? = some (.int .i64 (e : Int)) := by
      rw [List.getElem?_map]
      have : E[m]? = some e := by
        rw [← hl, List.getLastD_eq_getLast?, List.getLast?_eq_getElem?, hm]
        simp [show m < E.length by omega]
      rw [this]
      rfl
    have := hcells (g := b) (by rw [e1]; rfl) m _ hget
    rw [Go.WideShapes.add_plain, Nat.zero_add] at this
    exact this
/-- Solutions in new memory. -/
theorem SolOk.new {w w' : World} {g : Nat} {XL : List FV} {E : List Nat} {XP : Nat → List FV} {O La : Nat → Nat} {T : List Nat} {R : Nat → Value} {v : Value} {S : List (List Int)} (h : GrRaw w g XL E XP O La T R) (hr : OwnW w' w.heap.size w'.heap.size v S) : SolOk w' g R v S := by
  refine ⟨hr.rd, fun _ b hb => ?_⟩
  have h1 := hr.1.lt b hb
  have h2 := h.lt
  exact ⟨by omega, fun ⟨r, hr, e⟩ => by have := h.rowLt hr e; omega⟩

set_option maxHeartbeats 8000000 in
set_option maxRecDepth 100000 in
theorem growOn_any (g : Nat) (ar : List Int) (har : arityOk ar = true) (rs : List LRule) (hfit : ∀ r ∈ rs, ruleFits ar r = true) (hsz : totR rs ≤ 1048576) (hrl : rs.length ≤ 1048576) (X0 : List FV) (E0 : List Nat) (o0 e0 : Nat) (R0 : Nat → Value) (v2 : Value) (w : World)
    (h : GrAt w g X0 E0 o0 e0 R0) (hX : FitL ar (factsX X0)) (hr : RdRules w g v2 rs) (hl : E0.getLastD 0 = e0) (hne : E0 ≠ []) (hu : E0.Pairwise (· < ·)) (hub : ∀ x ∈ E0, x ≤ e0) (hh : ∀ f, f ∈ headsAll rs ((factsX X0).take e0) → f ∈ factsX X0) :
    Calls Tryz.prog 99 #[.pointer (some ⟨g, 0, none⟩), v2] w fun e' w' =>
      e' = .returned (.tuple #[]) ∧ ∃ X E o R m, GrAt w' g X E o X.length R ∧ KeepR g w R0 w' R ∧ GrewOn ar rs (factsX X0) E0 (factsX X) E m := by
  have H0 := Lib.hid h
  have HX := Lib.hid hX
  have HR := Lib.hid hr
  have HAR := Lib.hid har
  have HFIT := Lib.hid hfit
  have HNE := Lib.hid hne
  have HI := Lib.hid (OnInv.start hX hl (by rw [factsX_len]; exact h.eL) hh hu hub)
  have hgl := h.lt
  obtain ⟨A, c, rfl, hc, _⟩ := hr
  clear h hX har hfit hl hne hu hub hh
  go_enter Tryz.func99, Tryz.ntmps99
  go_wp2_with fail
  go_loopw [] (fun wr => ∃ (X : List FV) (E : List Nat) (o e : Nat) (R : Nat → Value) (j : Nat), GrAt wr g X E o e R ∧ KeepR g w R0 wr R ∧ OnInv ar rs (factsX X0) E0 (factsX X) E e j) (fun wr => measE g wr)
  case atStart => exact ⟨X0, E0, o0, e0, R0, 0, H0.out, KeepR.refl _ _ _, HI.out⟩
  case round =>
    obtain ⟨X, E, o, e, R, j, hat, hkp, hinv⟩ := hrel
    have HAT := Lib.hid hat
    have HKP := Lib.hid hkp
    have HINV := Lib.hid hinv
    have hglr := hat.lt
    have hXle : X.length ≤ 1536 := hat.few HAR.out hinv.fit
    have hEle : E.length ≤ 1537 := by
      have h1 := ends_few hinv.up hinv.ub
      have h2 := hinv.le
      rw [factsX_len] at h2
      omega
    have hEpos : 0 < E.length := by
      obtain ⟨M, e1, _⟩ := hinv.ends
      have := List.length_pos_iff.2 HNE.out
      rw [e1, List.length_append]
      omega
    obtain ⟨m, hm⟩ : ∃ m, E.length = m + 1 := ⟨E.length - 1, by omega⟩
    obtain ⟨A0, c0, hv0⟩ := hat.raw.formL
    obtain ⟨b1, c1, hv1, hce, hc1⟩ := hat.lastEnd hm hinv.last
    have q0 : wr.cell? ⟨g, 0, none⟩ = some (.slice A0 X.length c0) := by rw [← hv0]; exact hat.raw.cellList
    have q1 : wr.cell? ⟨g, 1, none⟩ = some (.slice (some ⟨b1, 0, none⟩) (m + 1) c1) := by rw [← hv1]; exact hat.raw.cellEnds
    have d0 : wr.drew.cell? ⟨g, 0, none⟩ = some (.slice A0 X.length c0) := q0
    have d1 : wr.drew.cell? ⟨g, 1, none⟩ = some (.slice (some ⟨b1, 0, none⟩) (m + 1) c1) := q1
    have d2 : wr.drew.cell? ⟨b1, m, none⟩ = some (.int .i64 (e : Int)) := hce
    have HMM := Lib.hid hm
    have hm5 : m ≤ 1536 := by omega
    have hm6 : (m : Int) ≤ 1536 := by omega
    have hm7 : (m : Int) < (m : Int) + 1 := by omega
    clear hat hkp hinv hv0 hv1 hm
    by_cases hlt : e < X.length
    · have hdl : decide (e < X.length) = true := decide_eq_true hlt
      go_upto_region 0 with fail
      go_big_region
      obtain ⟨wo, rfl⟩ : ∃ wo, wo = wr := ⟨_, rfl⟩
      have CE := Lib.hid (endRound_any g X E o e R wo.drew HAT.out.drew (by omega) (by omega))
      have HAL := Lib.hid (show ∀ k (hk : k < rs.length), ((0 ≤ rs[k].1.1 ∧ rs[k].1.1 < 24) ∧ rs[k].1.2.all termOk = true ∧ rs[k].1.2.length ≤ 2 ∧ rs[k].2.length ≤ 4 ∧ ∀ l ∈ rs[k].2, 0 ≤ l.2.1 ∧ l.2.1 < 24) ∧ SafeB rs[k].2 ∧ totL rs[k].2 ≤ 1048576 from fun k hk => by
        have h1 := HFIT.out _ (List.getElem_mem hk)
        have h2 := sz_le_totR rs k hk
        unfold szR at h2
        exact ⟨rule_parts HAR.out h1, SafeB.of (fits_body h1), by omega⟩)
      clear q0 q1 d0 d1 d2
      go_wp2_with (go_at_call 96; refine CE.out.mono ?_; rintro e1 w2 ⟨rfl, R1, h1, k1⟩; have H1 := Lib.hid (And.intro h1 k1); clear h1 k1)
      have hg2 : g < w2.heap.size := H1.out.1.lt
      go_loopw [28] (fun i wr => ∃ (k : Nat) (X2 : List FV) (R2 : Nat → Value), k ≤ rs.length ∧ i = .int .i64 k ∧ GrAt wr g X2 (E ++ [X.length]) e X.length R2 ∧ KeepR g w2 R1 wr R2 ∧ Brings (factsX X) (fun f => ∃ r ∈ rs.take k, ∃ b, FreshSol r.2 (agesOf (factsX X) e X.length r.2) b ∧ f = hdOf' r b) (factsX X2)) (fun i _ => rs.length - (intOf i).toNat)
      case atStart => exact ⟨0, X, R1, Nat.zero_le _, rfl, H1.out.1, KeepR.refl _ _ _, Brings.refl HINV.out.fit.nodup fun f hf => by obtain ⟨r, hr, _⟩ := hf; simp at hr⟩
      case round =>
        obtain ⟨k, X2, R2, hk, rfl, hat, hkp, hbr⟩ := hrel
        have HAT2 := Lib.hid hat
        have HKP2 := Lib.hid (show KeepR g w2 R1 wr R2 from hkp)
        have HBR := Lib.hid hbr
        have hfold : KeepR g w R0 wr R2 := (HKP.out.drew.trans H1.out.2).trans hkp
        have HFOLD := Lib.hid hfold
        have hglr2 := hat.lt
        have HFX := Lib.hid (show FitL ar (factsX X2) from hbr.fit HINV.out.fit fun f ⟨r, hr, b, hb, e2⟩ => by
          rw [e2]
          have hfr := HFIT.out r (List.mem_of_mem_take hr)
          exact sol_fits HAR.out hfr (HINV.out.fit.take X.length) ((fresh_or_old (L := factsX X) HAT.out.eL (SafeB.of (fits_body hfr))).2 hb))
        have HAGE := Lib.hid (show ∀ ls, agesOf (factsX X2) e X.length ls = agesOf (factsX X) e X.length ls from fun ls => by
          obtain ⟨⟨N, e2⟩, _⟩ := hbr
          rw [e2]
          exact agesOf_pre (by rw [factsX_len]; exact HAT.out.eL) (by rw [factsX_len]; exact Nat.le_refl _) ls)
        have hX2le : X2.length ≤ 1536 := hat.few HAR.out HFX.out
        clear hat hkp hbr hfold
        by_cases hltk : k < rs.length
        · obtain ⟨b, o3, u0, u1, u2, rfl, hbB, k0, k1, k2, rfl, q1, q2⟩ := (HR.out.below HFOLD.out.below (Nat.le_refl _)).get hltk
          obtain ⟨A3, c3, rfl, hc3, _⟩ := id q1
          obtain ⟨A4, c4, rfl, hc4, _⟩ := id q2
          have hall := HAL.out k hltk
          have HTK := Lib.hid (take_snoc rs k hltk)
          obtain ⟨r, hre⟩ : ∃ r, r = rs[k] := ⟨_, rfl⟩
          have HRF := Lib.hid (show ruleFits ar r = true by rw [hre]; exact HFIT.out _ (List.getElem_mem hltk))
          rw [← hre] at k0 k1 k2 hc3 hc4 q1 q2 hall HTK
          obtain ⟨⟨⟨hp0, hp1⟩, htm, hal2, hlen4, hpl⟩, hsafe, htotl⟩ := hall
          obtain ⟨p, hpe⟩ : ∃ p : Nat, r.1.1 = (p : Int) := ⟨r.1.1.toNat, by omega⟩
          rw [hpe] at k0
          have HQ1 := Lib.hid q1
          have HQ2 := Lib.hid q2
          have HPE := Lib.hid hpe
          have HSF := Lib.hid (And.intro htm (And.intro hpl hsafe))
          clear hre q1 q2 hpe htm hpl hsafe hp0 hp1
          go_upto_region 5 with fail
          obtain ⟨bx, hbx⟩ : ∃ bx, bx = wr.heap.size := ⟨_, rfl⟩
          obtain ⟨wv, hwv⟩ : ∃ wv, wv = wr.alloc (Obj.cells #[Value.int IntKind.i64 (p : Int), Value.slice A3 r.1.2.length c3, Value.slice A4 r.2.length c4] 100) := ⟨_, rfl⟩
          have bv : Below wr.heap.size wr wv := by rw [hwv]; exact below1 _ _
          have z7 : Blk wv bx 100 #[.int .i64 p, .slice A3 r.1.2.length c3, .slice A4 r.2.length c4] := by rw [hwv, hbx]; exact Blk.new _ _ _
          have HBV := Lib.hid bv
          have hgv : g < wv.heap.size := Nat.lt_of_lt_of_le hglr2 bv.size
          rw [← hwv]
          rw [show (wr.heap.size : Nat) = bx from hbx.symm]
          have q0 : wv.cell? ⟨bx, 0, none⟩ = some (.int .i64 p) := z7.cell 0
          have q1 : wv.cell? ⟨bx, 1, none⟩ = some (.slice A3 r.1.2.length c3) := z7.cell 1
          have q2 : wv.cell? ⟨bx, 2, none⟩ = some (.slice A4 r.2.length c4) := z7.cell 2
          clear hwv k0 k1 k2 bv z7 hbx
          obtain ⟨SS, hSS⟩ : ∃ SS : World → Prop, SS = (fun W => W.cell? ⟨bx, 0, none⟩ = some (.int .i64 p) ∧ W.cell? ⟨bx, 1, none⟩ = some (.slice A3 r.1.2.length c3) ∧ W.cell? ⟨bx, 2, none⟩ = some (.slice A4 r.2.length c4)) := ⟨_, rfl⟩
          have HB := Lib.hid (show ∀ W, SS W → (W.cell? ⟨bx, 0, none⟩ = some (.int .i64 p) ∧ W.cell? ⟨bx, 1, none⟩ = some (.slice A3 r.1.2.length c3) ∧ W.cell? ⟨bx, 2, none⟩ = some (.slice A4 r.2.length c4)) from by rw [hSS]; exact fun W hW => hW)
          have HS := Lib.hid (show ∀ W, Below wv.heap.size wv W → SS W from by
            rw [hSS]
            exact fun W hW => ⟨(hW.cell (World.block_lt_of_cell? _ _ q0)).trans q0, (hW.cell (World.block_lt_of_cell? _ _ q1)).trans q1, (hW.cell (World.block_lt_of_cell? _ _ q2)).trans q2⟩)
          clear hSS
          have BB : Below wv.heap.size wv wv.drew := (Below.refl _ _).drew
          have SB := HS.out _ BB
          have HGV := Lib.hid (show GrAt wv.drew g X2 (E ++ [X.length]) e X.length R2 from (HAT2.out.on HBV.out).drew)
          have HRL := Lib.hid (show RdLits wv.drew g (.slice A4 r.2.length c4) r.2 from (HQ2.out.below HBV.out (Nat.le_of_lt hglr2)).below BB (Nat.le_of_lt hgv))
          have HRI := Lib.hid (show RdInts wv.drew g (.slice A3 r.1.2.length c3) r.1.2 from (HQ1.out.below HBV.out (Nat.le_of_lt hglr2)).below BB (Nat.le_of_lt hgv))
          clear q0 q1 q2
          refine wp_region_rel SS 10 11 (by kernel_rfl) rfl ?_
          refine wpAnyR_pure (i := 0) (oi := _) ?va0 rfl rfl (by kernel_rfl) (by decide) (fun _ _ _ h => h) rfl ?hya0 (fun _ => SB) ?resta0
          case hya0 => (intro W; go_simp; (try with_reducible rfl))
          try simp only [List.setIfInBounds_toArray, List.set_cons_zero, List.set_cons_succ]
          refine wpAnyR_pure (i := 1) (oi := _) ?va1 rfl rfl (by kernel_rfl) (by decide) (fun _ _ _ h => h) rfl ?hya1 (fun _ => SB) ?resta1
          case hya1 => (intro W; go_simp; (try with_reducible rfl))
          try simp only [List.setIfInBounds_toArray, List.set_cons_zero, List.set_cons_succ]
          refine wpAnyR_take (i := 2) (oi := _) ?va2 rfl rfl (by kernel_rfl) (fun _ _ _ h => h) rfl ?hya2 SB ?resta2
          case hya2 => (intro W hW; obtain ⟨E0, E1, E2⟩ := HB.out W hW; go_simp; (try with_reducible rfl))
          try simp only [List.setIfInBounds_toArray, List.set_cons_zero, List.set_cons_succ]
          refine wpAnyR_pure (i := 3) (oi := _) ?va3 rfl rfl (by kernel_rfl) (by decide) (fun _ _ _ h => h) rfl ?hya3 (fun _ => SB) ?resta3
          case hya3 => (intro W; go_simp; (try with_reducible rfl))
          try simp only [List.setIfInBounds_toArray, List.set_cons_zero, List.set_cons_succ]
          refine wpAnyR_take (i := 4) (oi := _) ?va4 rfl rfl (by kernel_rfl) (fun _ _ _ h => h) rfl ?hya4 SB ?resta4
          case hya4 => (intro W hW; obtain ⟨E0, E1, E2⟩ := HB.out W hW; go_simp; (try with_reducible rfl))
          try simp only [List.setIfInBounds_toArray, List.set_cons_zero, List.set_cons_succ]
          refine wpAnyR_pure (i := 5) (oi := _) ?va5 rfl rfl (by kernel_rfl) (by decide) (fun _ _ _ h => h) rfl ?hya5 (fun _ => SB) ?resta5
          case hya5 => (intro W; go_simp; (try with_reducible rfl))
          try simp only [List.setIfInBounds_toArray, List.set_cons_zero, List.set_cons_succ]
          refine wpAnyR_pure (i := 6) (oi := _) ?va6 rfl rfl (by kernel_rfl) (by decide) (fun _ _ _ h => h) rfl ?hya6 (fun _ => SB) ?resta6
          case hya6 => (intro W; go_simp; (try with_reducible rfl))
          try simp only [List.setIfInBounds_toArray, List.set_cons_zero, List.set_cons_succ]
          refine wpAnyR_take (i := 7) (oi := _) ?va7 rfl rfl (by kernel_rfl) (fun _ _ _ h => h) rfl ?hya7 SB ?resta7
          case hya7 => (intro W hW; obtain ⟨E0, E1, E2⟩ := HB.out W hW; go_simp; (try with_reducible rfl))
          try simp only [List.setIfInBounds_toArray, List.set_cons_zero, List.set_cons_succ]
          refine wpAnyR_one (i := 8) (by kernel_rfl) rfl (fun K hK => ?_)
          try rw [if_pos (show Region.wanted _ _ = true from rfl)]
          go_simp
          refine (byAge_any g X2 (E ++ [X.length]) e X.length R2 (.slice A4 r.2.length c4) r.2 wv.drew HGV.out (HRL.out.more (Nat.le_of_lt hgv)) HSF.out.2.1 (by omega) (by omega)).mono ?_
          rintro e8 W8 ⟨g8, us8, rfl, hg8, at8, rd8, b8⟩
          have H8 := Lib.hid (And.intro at8 (And.intro rd8 b8))
          clear at8 rd8 b8
          have S8 := HS.out W8 (bthen BB H8.out.2.2)
          refine hK.out _ _ (fun _ => S8) ?_
          clear hK K
          try simp only [List.setIfInBounds_toArray, List.set_cons_zero, List.set_cons_succ, Act.put]
          refine wpAnyR_one (i := 9) (by kernel_rfl) rfl (fun K hK => ?_)
          try rw [if_pos (show Region.wanted _ _ = true from rfl)]
          go_simp
          have hz8 : wv.drew.heap.size ≤ W8.heap.size := H8.out.2.2.size
          refine (solveFresh_any g8 r.2.length r.2 (agesOf (factsX X2) e X.length r.2) us8 (.slice A4 r.2.length c4) W8 ((HRL.out.below H8.out.2.2 (Nat.le_of_lt hgv)).more (Nat.le_trans (Nat.le_of_lt hgv) hz8)) H8.out.1 (H8.out.2.1.more hz8) (agesOf_len _ _ _ _) HSF.out.2.2 htotl (agesOf_ok (HFX.out.fewL HAR.out))).mono ?_
          rintro e9 W9 ⟨A9, c9, S, rfl, ow9, b9, mem9, len9, _⟩
          have H9 := Lib.hid (And.intro ow9 (And.intro b9 mem9))
          clear ow9 b9 mem9
          have BB9 : Below wv.drew.heap.size wv.drew W9 := bthen H8.out.2.2 H9.out.2.1
          have S9 := HS.out W9 (bthen BB BB9)
          refine hK.out _ _ (fun _ => S9) ?_
          clear hK K
          try simp only [List.setIfInBounds_toArray, List.set_cons_zero, List.set_cons_succ, Act.put]
          refine wpAnyR_one (i := 10) (by kernel_rfl) rfl (fun K hK => ?_)
          try rw [if_pos (show Region.wanted _ _ = true from rfl)]
          go_simp
          have HSOL := Lib.hid (show ∀ b, b ∈ S → SolOf ((factsX X).take X.length) r.2 b ∧ FreshSol r.2 (agesOf (factsX X) e X.length r.2) b from fun b hb => by
            have h1 := (H9.out.2.2 b).1 hb
            rw [HAGE.out] at h1
            exact ⟨(fresh_or_old (L := factsX X) HAT.out.eL HSF.out.2.2).2 h1, h1⟩)
          refine (bringHeads_any g ar HAR.out X2 (E ++ [X.length]) e X.length R2 p r.1.2 (.slice A3 r.1.2.length c3) (.slice A9 S.length c9) S W9 (HGV.out.on BB9) HFX.out (HRI.out.below BB9 (Nat.le_of_lt hgv)) HSF.out.1 hal2 (SolOk.new (HGV.out.on H8.out.2.2).raw H9.out.1) (fun b hb => (HSOL.out b hb).1.1) (fun b hb => by
            have h1 := sol_fits HAR.out HRF.out (HINV.out.fit.take X.length) (HSOL.out b hb).1
            unfold hdOf' at h1
            rw [HPE.out] at h1
            exact h1) (by omega)).mono ?_
          rintro e10 W10 ⟨rfl, X3, R3, g10, k10, br10⟩
          have H10 := Lib.hid (And.intro g10 (And.intro k10 br10))
          clear g10 k10 br10
          refine hK.out _ _ (fun hf => absurd hf (by decide)) ?_
          clear hK K
          try simp only [List.setIfInBounds_toArray, List.set_cons_zero, List.set_cons_succ, Act.put]
          refine wpAnyR_done (by kernel_rfl) ?_
          have HFIN := Lib.hid (show KeepR g w2 R1 W10 R3 ∧ Brings (factsX X) (fun f => ∃ r ∈ rs.take (k + 1), ∃ b, FreshSol r.2 (agesOf (factsX X) e X.length r.2) b ∧ f = hdOf' r b) (factsX X3) from by
            refine ⟨(HKP2.out.trans (KeepR.of_below (bthen HBV.out (bthen BB BB9)) (Nat.le_of_lt hglr2))).trans H10.out.2.1, HBR.out.trans H10.out.2.2 fun f => ?_⟩
            rw [HTK.out]
            constructor
            · rintro ⟨r', hr', b', hb', e'⟩
              rcases List.mem_append.1 hr' with hr' | hr'
              · exact .inl ⟨r', hr', b', hb', e'⟩
              · rw [List.mem_singleton.1 hr'] at hb' e'
                refine .inr ⟨b', (H9.out.2.2 b').2 (by rw [HAGE.out]; exact hb'), ?_⟩
                rw [e']
                unfold hdOf'
                rw [HPE.out]
            · rintro (⟨r', hr', b', hb', e'⟩ | ⟨b', hb', e'⟩)
              · exact ⟨r', List.mem_append_left _ hr', b', hb', e'⟩
              · refine ⟨r, List.mem_append_right _ (List.mem_singleton_self _), b', (HSOL.out b' hb').2, ?_⟩
                rw [e']
                unfold hdOf'
                rw [HPE.out])
          clear S9 S8 SB HB HS BB BB9
          go_wp2_with fail
          go_roundw
          case rel => exact ⟨k + 1, X3, R3, by omega, by go_num, H10.out.1, HFIN.out.1, HFIN.out.2⟩
          case measure => simp [intOf]; omega
        · obtain rfl : k = rs.length := by omega
          have HFIN := Lib.hid (show OnInv ar rs (factsX X0) E0 (factsX X2) (E ++ [X.length]) X.length (j + 1) from by
            have h1 := HBR.out
            rw [List.take_length] at h1
            have h2 := HINV.out.step HFIT.out HX.out (by rw [factsX_len]; exact hlt) HFX.out (by rw [factsX_len]; exact h1)
            rw [factsX_len] at h2
            exact h2)
          go_wp2_with fail
          go_roundw
          case rel => exact ⟨X2, E ++ [X.length], e, X.length, R2, j + 1, HAT2.out, HFOLD.out, HFIN.out⟩
          case measure =>
            rw [HAT2.out.meas, HAT.out.meas, List.length_append, List.length_singleton]
            omega
    · have hdl : decide (e < X.length) = false := decide_eq_false hlt
      go_upto_region 0 with fail
      go_big_region
      go_wp2_with fail
      go_end0
      have he : e = X.length := by have := HAT.out.eL; omega
      obtain ⟨mm, hmm⟩ := HINV.out.done HFIT.out HX.out (by rw [factsX_len]; exact he)
      exact ⟨rfl, X, E, o, R, mm, by rw [← he]; exact HAT.out.drew, HKP.out.drew, hmm⟩

end Go.Proofs.YtniedmhkajnfjaaGreat
/-
  growBy: what rules say at once of all facts, and then round by round.
-/
namespace Go.Proofs.YtniedmhkajnfjaaGreat
open Go.RowKit

theorem allQ_pre {L N : List LFact} {e : Nat} (he : e ≤ L.length) (ls : List LLit) : allQ (L ++ N) e ls = allQ L e ls := by
  unfold allQ
  rw [List.take_append_of_le_length he]
theorem allQ_len (L : List LFact) (e : Nat) (ls : List LLit) : (allQ L e ls).length = ls.length := by simp [allQ]

set_option maxHeartbeats 8000000 in
set_option maxRecDepth 100000 in
theorem growBy_any (g : Nat) (ar : List Int) (har : arityOk ar = true) (rs : List LRule) (hfit : ∀ r ∈ rs, ruleFits ar r = true) (hsz : totR rs ≤ 1048576) (hrl : rs.length ≤ 1048576) (X0 : List FV) (E0 : List Nat) (o0 : Nat) (R0 : Nat → Value) (v2 : Value) (w : World)
    (h : GrAt w g X0 E0 o0 X0.length R0) (hX : FitL ar (factsX X0)) (hr : RdRules w g v2 rs) (hl : E0.getLastD 0 = X0.length) (hne : E0 ≠ []) (hu : E0.Pairwise (· < ·)) (hub : ∀ x ∈ E0, x ≤ X0.length) :
    Calls Tryz.prog 60 #[.pointer (some ⟨g, 0, none⟩), v2] w fun e' w' =>
      e' = .returned (.tuple #[]) ∧ ∃ X E o R m, GrAt w' g X E o X.length R ∧ KeepR g w R0 w' R ∧ GrewBy ar rs (factsX X0) E0 (factsX X) E m := by
  have H0 := Lib.hid h
  have HX := Lib.hid hX
  have HR := Lib.hid hr
  have HAR := Lib.hid har
  have HFIT := Lib.hid hfit
  have HE := Lib.hid (And.intro hl (And.intro hne (And.intro hu hub)))
  have hgl := h.lt
  have HAL := Lib.hid (show ∀ k (hk : k < rs.length), ((0 ≤ rs[k].1.1 ∧ rs[k].1.1 < 24) ∧ rs[k].1.2.all termOk = true ∧ rs[k].1.2.length ≤ 2 ∧ rs[k].2.length ≤ 4 ∧ ∀ l ∈ rs[k].2, 0 ≤ l.2.1 ∧ l.2.1 < 24) ∧ SafeB rs[k].2 ∧ totL rs[k].2 ≤ 1048576 from fun k hk => by
    have h1 := hfit _ (List.getElem_mem hk)
    have h2 := sz_le_totR rs k hk
    unfold szR at h2
    exact ⟨rule_parts har h1, SafeB.of (fits_body h1), by omega⟩)
  obtain ⟨A, c, rfl, hc, _⟩ := hr
  have hX0le : X0.length ≤ 1536 := h.few har hX
  clear h hX har hfit hl hne hu hub
  go_enter Tryz.func60, Tryz.ntmps60
  go_wp2_with fail
  go_loopw [8] (fun i wr => ∃ (k : Nat) (X2 : List FV) (R2 : Nat → Value), k ≤ rs.length ∧ i = .int .i64 k ∧ GrAt wr g X2 E0 o0 X0.length R2 ∧ KeepR g w R0 wr R2 ∧ Brings (factsX X0) (fun f => ∃ r ∈ rs.take k, ∃ b, SolOf (factsX X0) r.2 b ∧ f = hdOf' r b) (factsX X2)) (fun i _ => rs.length - (intOf i).toNat)
  case atStart => exact ⟨0, X0, R0, Nat.zero_le _, rfl, H0.out, KeepR.refl _ _ _, Brings.refl HX.out.nodup fun f hf => by obtain ⟨r, hr, _⟩ := hf; simp at hr⟩
  case round =>
    obtain ⟨k, X2, R2, hk, rfl, hat, hkp, hbr⟩ := hrel
    have HAT2 := Lib.hid hat
    have HKP2 := Lib.hid (show KeepR g w R0 wr R2 from hkp)
    have HBR := Lib.hid hbr
    have hglr2 := hat.lt
    have HFX := Lib.hid (show FitL ar (factsX X2) from hbr.fit HX.out fun f ⟨r, hr, b, hb, e2⟩ => by
      rw [e2]
      exact sol_fits HAR.out (HFIT.out r (List.mem_of_mem_take hr)) HX.out hb)
    have HAGE := Lib.hid (show ∀ ls, allQ (factsX X2) X0.length ls = allQ (factsX X0) X0.length ls from fun ls => by
      obtain ⟨⟨N, e2⟩, _⟩ := hbr
      rw [e2]
      exact allQ_pre (by rw [factsX_len]; exact Nat.le_refl _) ls)
    have hX2le : X2.length ≤ 1536 := hat.few HAR.out HFX.out
    clear hat hkp hbr
    by_cases hltk : k < rs.length
    · obtain ⟨b, o3, u0, u1, u2, rfl, hbB, k0, k1, k2, rfl, q1, q2⟩ := (HR.out.below HKP2.out.below (Nat.le_refl _)).get hltk
      obtain ⟨A3, c3, rfl, hc3, _⟩ := id q1
      obtain ⟨A4, c4, rfl, hc4, _⟩ := id q2
      have hall := HAL.out k hltk
      have HTK := Lib.hid (take_snoc rs k hltk)
      obtain ⟨r, hre⟩ : ∃ r, r = rs[k] := ⟨_, rfl⟩
      have HRF := Lib.hid (show ruleFits ar r = true by rw [hre]; exact HFIT.out _ (List.getElem_mem hltk))
      rw [← hre] at k0 k1 k2 hc3 hc4 q1 q2 hall HTK
      obtain ⟨⟨⟨hp0, hp1⟩, htm, hal2, hlen4, hpl⟩, hsafe, htotl⟩ := hall
      obtain ⟨p, hpe⟩ : ∃ p : Nat, r.1.1 = (p : Int) := ⟨r.1.1.toNat, by omega⟩
      rw [hpe] at k0
      have HQ1 := Lib.hid q1
      have HQ2 := Lib.hid q2
      have HPE := Lib.hid hpe
      have HSF := Lib.hid (And.intro htm (And.intro hpl hsafe))
      clear hre q1 q2 hpe htm hpl hsafe hp0 hp1
      go_upto_region 3 with fail
      obtain ⟨bx, hbx⟩ : ∃ bx, bx = wr.heap.size := ⟨_, rfl⟩
      obtain ⟨wv, hwv⟩ : ∃ wv, wv = wr.alloc (Obj.cells #[Value.int IntKind.i64 (p : Int), Value.slice A3 r.1.2.length c3, Value.slice A4 r.2.length c4] 100) := ⟨_, rfl⟩
      have bv : Below wr.heap.size wr wv := by rw [hwv]; exact below1 _ _
      have z7 : Blk wv bx 100 #[.int .i64 p, .slice A3 r.1.2.length c3, .slice A4 r.2.length c4] := by rw [hwv, hbx]; exact Blk.new _ _ _
      have HBV := Lib.hid bv
      have hgv : g < wv.heap.size := Nat.lt_of_lt_of_le hglr2 bv.size
      rw [← hwv]
      rw [show (wr.heap.size : Nat) = bx from hbx.symm]
      have q0 : wv.cell? ⟨bx, 0, none⟩ = some (.int .i64 p) := z7.cell 0
      have q1 : wv.cell? ⟨bx, 1, none⟩ = some (.slice A3 r.1.2.length c3) := z7.cell 1
      have q2 : wv.cell? ⟨bx, 2, none⟩ = some (.slice A4 r.2.length c4) := z7.cell 2
      clear hwv k0 k1 k2 bv z7 hbx
      obtain ⟨SS, hSS⟩ : ∃ SS : World → Prop, SS = (fun W => W.cell? ⟨bx, 0, none⟩ = some (.int .i64 p) ∧ W.cell? ⟨bx, 1, none⟩ = some (.slice A3 r.1.2.length c3) ∧ W.cell? ⟨bx, 2, none⟩ = some (.slice A4 r.2.length c4)) := ⟨_, rfl⟩
      have HB := Lib.hid (show ∀ W, SS W → (W.cell? ⟨bx, 0, none⟩ = some (.int .i64 p) ∧ W.cell? ⟨bx, 1, none⟩ = some (.slice A3 r.1.2.length c3) ∧ W.cell? ⟨bx, 2, none⟩ = some (.slice A4 r.2.length c4)) from by rw [hSS]; exact fun W hW => hW)
      have HS := Lib.hid (show ∀ W, Below wv.heap.size wv W → SS W from by
        rw [hSS]
        exact fun W hW => ⟨(hW.cell (World.block_lt_of_cell? _ _ q0)).trans q0, (hW.cell (World.block_lt_of_cell? _ _ q1)).trans q1, (hW.cell (World.block_lt_of_cell? _ _ q2)).trans q2⟩)
      clear hSS
      have BB : Below wv.heap.size wv wv.drew := (Below.refl _ _).drew
      have SB := HS.out _ BB
      have HGV := Lib.hid (show GrAt wv.drew g X2 E0 o0 X0.length R2 from (HAT2.out.on HBV.out).drew)
      have HRL := Lib.hid (show RdLits wv.drew g (.slice A4 r.2.length c4) r.2 from (HQ2.out.below HBV.out (Nat.le_of_lt hglr2)).below BB (Nat.le_of_lt hgv))
      have HRI := Lib.hid (show RdInts wv.drew g (.slice A3 r.1.2.length c3) r.1.2 from (HQ1.out.below HBV.out (Nat.le_of_lt hglr2)).below BB (Nat.le_of_lt hgv))
      clear q0 q1 q2
      refine wp_region_rel SS 8 9 (by kernel_rfl) rfl ?_
      refine wpAnyR_pure (i := 0) (oi := _) ?va0 rfl rfl (by kernel_rfl) (by decide) (fun _ _ _ h => h) rfl ?hya0 (fun _ => SB) ?resta0
      case hya0 => (intro W; go_simp; (try with_reducible rfl))
      try simp only [List.setIfInBounds_toArray, List.set_cons_zero, List.set_cons_succ]
      refine wpAnyR_pure (i := 1) (oi := _) ?va1 rfl rfl (by kernel_rfl) (by decide) (fun _ _ _ h => h) rfl ?hya1 (fun _ => SB) ?resta1
      case hya1 => (intro W; go_simp; (try with_reducible rfl))
      try simp only [List.setIfInBounds_toArray, List.set_cons_zero, List.set_cons_succ]
      refine wpAnyR_take (i := 2) (oi := _) ?va2 rfl rfl (by kernel_rfl) (fun _ _ _ h => h) rfl ?hya2 SB ?resta2
      case hya2 => (intro W hW; obtain ⟨E0', E1, E2⟩ := HB.out W hW; go_simp; (try with_reducible rfl))
      try simp only [List.setIfInBounds_toArray, List.set_cons_zero, List.set_cons_succ]
      refine wpAnyR_pure (i := 3) (oi := _) ?va3 rfl rfl (by kernel_rfl) (by decide) (fun _ _ _ h => h) rfl ?hya3 (fun _ => SB) ?resta3
      case hya3 => (intro W; go_simp; (try with_reducible rfl))
      try simp only [List.setIfInBounds_toArray, List.set_cons_zero, List.set_cons_succ]
      refine wpAnyR_pure (i := 4) (oi := _) ?va4 rfl rfl (by kernel_rfl) (by decide) (fun _ _ _ h => h) rfl ?hya4 (fun _ => SB) ?resta4
      case hya4 => (intro W; go_simp; (try with_reducible rfl))
      try simp only [List.setIfInBounds_toArray, List.set_cons_zero, List.set_cons_succ]
      refine wpAnyR_take (i := 5) (oi := _) ?va5 rfl rfl (by kernel_rfl) (fun _ _ _ h => h) rfl ?hya5 SB ?resta5
      case hya5 => (intro W hW; obtain ⟨E0', E1, E2⟩ := HB.out W hW; go_simp; (try with_reducible rfl))
      try simp only [List.setIfInBounds_toArray, List.set_cons_zero, List.set_cons_succ]
      refine wpAnyR_one (i := 6) (by kernel_rfl) rfl (fun K hK => ?_)
      try rw [if_pos (show Region.wanted _ _ = true from rfl)]
      go_simp
      refine (allQuestions_any g X2 E0 o0 X0.length R2 (.slice A4 r.2.length c4) r.2 wv.drew HGV.out (HRL.out.more (Nat.le_of_lt hgv)) HSF.out.2.1 (by omega) (by omega)).mono ?_
      rintro e8 W8 ⟨g8, us8, rfl, hg8, at8, rd8, b8⟩
      have H8 := Lib.hid (And.intro at8 (And.intro rd8 (And.intro b8 hg8)))
      clear at8 rd8 b8 hg8
      have S8 := HS.out W8 (bthen BB H8.out.2.2.1)
      refine hK.out _ _ (fun _ => S8) ?_
      clear hK K
      try simp only [List.setIfInBounds_toArray, List.set_cons_zero, List.set_cons_succ, Act.put]
      refine wpAnyR_one (i := 7) (by kernel_rfl) rfl (fun K hK => ?_)
      try rw [if_pos (show Region.wanted _ _ = true from rfl)]
      go_simp
      have hz8 : wv.drew.heap.size ≤ W8.heap.size := H8.out.2.2.1.size
      have CS := solve_any g8 r.2.length wv.drew.heap.size us8 (allQ (factsX X2) X0.length r.2) W8 H8.out.1 H8.out.2.1 H8.out.2.2.2 (by rw [allQ_len]; omega) (allQ_ok HSF.out.2.2 (HFX.out.fewL HAR.out) htotl) (allQ_safe HSF.out.2.2)
      rw [allQ_len] at CS
      refine CS.mono ?_
      clear CS
      rintro e9 W9 ⟨A9, c9, S, rfl, ow9, on9, is9⟩
      have hl9 : S.length ≤ 65536 := binds_len is9.1 is9.ok
      have H9 := Lib.hid (And.intro ow9 (And.intro on9 is9))
      clear ow9 on9 is9
      have BB9 : Below wv.drew.heap.size wv.drew W9 := Only.then_ H8.out.2.2.1 H9.out.2.1 H8.out.2.2.2
      have S9 := HS.out W9 (bthen BB BB9)
      refine hK.out _ _ (fun _ => S9) ?_
      clear hK K
      try simp only [List.setIfInBounds_toArray, List.set_cons_zero, List.set_cons_succ, Act.put]
      refine wpAnyR_one (i := 8) (by kernel_rfl) rfl (fun K hK => ?_)
      try rw [if_pos (show Region.wanted _ _ = true from rfl)]
      go_simp
      have HSOL := Lib.hid (show ∀ b, b ∈ S ↔ SolOf (factsX X0) r.2 b from fun b => by
        have h1 := (allQ_is (by rw [← HAGE.out]; exact H9.out.2.2)).2 b
        rw [List.take_of_length_le (by rw [factsX_len]; exact Nat.le_refl _)] at h1
        exact h1)
      refine (bringHeads_any g ar HAR.out X2 E0 o0 X0.length R2 p r.1.2 (.slice A3 r.1.2.length c3) (.slice A9 S.length c9) S W9 (HGV.out.on BB9) HFX.out (HRI.out.below BB9 (Nat.le_of_lt hgv)) HSF.out.1 hal2 (SolOk.new (HGV.out.on H8.out.2.2.1).raw H9.out.1) (fun b hb => ((HSOL.out b).1 hb).1) (fun b hb => by
        have h1 := sol_fits HAR.out HRF.out HX.out ((HSOL.out b).1 hb)
        unfold hdOf' at h1
        rw [HPE.out] at h1
        exact h1) (by omega)).mono ?_
      rintro e10 W10 ⟨rfl, X3, R3, g10, k10, br10⟩
      have H10 := Lib.hid (And.intro g10 (And.intro k10 br10))
      clear g10 k10 br10
      refine hK.out _ _ (fun hf => absurd hf (by decide)) ?_
      clear hK K
      try simp only [List.setIfInBounds_toArray, List.set_cons_zero, List.set_cons_succ, Act.put]
      refine wpAnyR_done (by kernel_rfl) ?_
      have HFIN := Lib.hid (show KeepR g w R0 W10 R3 ∧ Brings (factsX X0) (fun f => ∃ r ∈ rs.take (k + 1), ∃ b, SolOf (factsX X0) r.2 b ∧ f = hdOf' r b) (factsX X3) from by
        refine ⟨(HKP2.out.trans (KeepR.of_below (bthen HBV.out (bthen BB BB9)) (Nat.le_of_lt hglr2))).trans H10.out.2.1, HBR.out.trans H10.out.2.2 fun f => ?_⟩
        rw [HTK.out]
        constructor
        · rintro ⟨r', hr', b', hb', e'⟩
          rcases List.mem_append.1 hr' with hr' | hr'
          · exact .inl ⟨r', hr', b', hb', e'⟩
          · rw [List.mem_singleton.1 hr'] at hb' e'
            refine .inr ⟨b', (HSOL.out b').2 hb', ?_⟩
            rw [e']
            unfold hdOf'
            rw [HPE.out]
        · rintro (⟨r', hr', b', hb', e'⟩ | ⟨b', hb', e'⟩)
          · exact ⟨r', List.mem_append_left _ hr', b', hb', e'⟩
          · refine ⟨r, List.mem_append_right _ (List.mem_singleton_self _), b', (HSOL.out b').1 hb', ?_⟩
            rw [e']
            unfold hdOf'
            rw [HPE.out])
      clear S9 S8 SB HB HS BB BB9
      go_wp2_with fail
      go_roundw
      case rel => exact ⟨k + 1, X3, R3, by omega, by go_num, H10.out.1, HFIN.out.1, HFIN.out.2⟩
      case measure => simp [intOf]; omega
    · obtain rfl : k = rs.length := by omega
      have HBT := Lib.hid (show Brings (factsX X0) (fun f => f ∈ headsAll rs (factsX X0)) (factsX X2) from by
        have h1 := HBR.out
        rw [List.take_length] at h1
        exact h1.cast fun f => (headsAll_sol HFIT.out HX.out.consts HX.out.nodup f).symm)
      have CO := Lib.hid (growOn_any g ar HAR.out rs HFIT.out hsz hrl X2 E0 o0 X0.length R2 _ wr HAT2.out HFX.out (HR.out.below HKP2.out.below (Nat.le_refl _)) HE.out.1 HE.out.2.1 HE.out.2.2.1 HE.out.2.2.2 (fun f hf => by
        have h1 := (brings_pre HBT.out).1
        rw [factsX_len] at h1
        rw [h1] at hf
        exact (HBT.out.2.2 f).2 (.inr hf)))
      go_wp2_with (go_at_call 99; refine CO.out.mono ?_; rintro e1 w2 ⟨rfl, X, E, o, R, m, h1, k1, gr1⟩; have H1 := Lib.hid (And.intro h1 (And.intro k1 gr1)); clear h1 k1 gr1)
      go_end0
      obtain ⟨m', hm'⟩ := GrewBy.of HFIT.out HX.out HFX.out (by rw [factsX_len]; exact HE.out.1) HBT.out.1 HBT.out.2.2 H1.out.2.2
      exact ⟨rfl, X, E, o, R, m', H1.out.1, HKP2.out.trans H1.out.2.1, hm'⟩

end Go.Proofs.YtniedmhkajnfjaaGreat
/-
  growthFrom: the facts that are given, as those of one round.
-/
namespace Go.Proofs.YtniedmhkajnfjaaGreat
open Go.RowKit

def nilV : Value := .slice none 0 0
def grZ : List Value := [nilV, nilV] ++ List.replicate 24 (wdN 0) ++ (List.range 24).flatMap fun _ => [nilV, inN 0, inN 0]
theorem Tryz.grZero : Tryz.zeroCells114 = grZ.toArray := by kernel_rfl
theorem grZ_tab : ∀ p, p < 24 → grZ[2 + p]? = some (wdN (zeroT.getD p 0))
  | 0, _ => rfl
  | 1, _ => rfl
  | 2, _ => rfl
  | 3, _ => rfl
  | 4, _ => rfl
  | 5, _ => rfl
  | 6, _ => rfl
  | 7, _ => rfl
  | 8, _ => rfl
  | 9, _ => rfl
  | 10, _ => rfl
  | 11, _ => rfl
  | 12, _ => rfl
  | 13, _ => rfl
  | 14, _ => rfl
  | 15, _ => rfl
  | 16, _ => rfl
  | 17, _ => rfl
  | 18, _ => rfl
  | 19, _ => rfl
  | 20, _ => rfl
  | 21, _ => rfl
  | 22, _ => rfl
  | 23, _ => rfl
  | _ + 24, h => absurd h (by omega)
theorem grZ_pred : ∀ p, p < 24 → grZ[26 + p * 3]? = some nilV
  | 0, _ => rfl
  | 1, _ => rfl
  | 2, _ => rfl
  | 3, _ => rfl
  | 4, _ => rfl
  | 5, _ => rfl
  | 6, _ => rfl
  | 7, _ => rfl
  | 8, _ => rfl
  | 9, _ => rfl
  | 10, _ => rfl
  | 11, _ => rfl
  | 12, _ => rfl
  | 13, _ => rfl
  | 14, _ => rfl
  | 15, _ => rfl
  | 16, _ => rfl
  | 17, _ => rfl
  | 18, _ => rfl
  | 19, _ => rfl
  | 20, _ => rfl
  | 21, _ => rfl
  | 22, _ => rfl
  | 23, _ => rfl
  | _ + 24, h => absurd h (by omega)
theorem grZ_old : ∀ p, p < 24 → grZ[26 + p * 3 + 1]? = some (inN 0)
  | 0, _ => rfl
  | 1, _ => rfl
  | 2, _ => rfl
  | 3, _ => rfl
  | 4, _ => rfl
  | 5, _ => rfl
  | 6, _ => rfl
  | 7, _ => rfl
  | 8, _ => rfl
  | 9, _ => rfl
  | 10, _ => rfl
  | 11, _ => rfl
  | 12, _ => rfl
  | 13, _ => rfl
  | 14, _ => rfl
  | 15, _ => rfl
  | 16, _ => rfl
  | 17, _ => rfl
  | 18, _ => rfl
  | 19, _ => rfl
  | 20, _ => rfl
  | 21, _ => rfl
  | 22, _ => rfl
  | 23, _ => rfl
  | _ + 24, h => absurd h (by omega)
theorem grZ_lat : ∀ p, p < 24 → grZ[26 + p * 3 + 2]? = some (inN 0)
  | 0, _ => rfl
  | 1, _ => rfl
  | 2, _ => rfl
  | 3, _ => rfl
  | 4, _ => rfl
  | 5, _ => rfl
  | 6, _ => rfl
  | 7, _ => rfl
  | 8, _ => rfl
  | 9, _ => rfl
  | 10, _ => rfl
  | 11, _ => rfl
  | 12, _ => rfl
  | 13, _ => rfl
  | 14, _ => rfl
  | 15, _ => rfl
  | 16, _ => rfl
  | 17, _ => rfl
  | 18, _ => rfl
  | 19, _ => rfl
  | 20, _ => rfl
  | 21, _ => rfl
  | 22, _ => rfl
  | 23, _ => rfl
  | _ + 24, h => absurd h (by omega)
theorem grZ_cells : GrCells grZ.toArray (fun _ => nilV) zeroT (fun _ => 0) (fun _ => 0) where
  size := rfl
  list := rfl
  ends := rfl
  tab p hp := by rw [List.getElem?_toArray]; exact grZ_tab p hp
  pred p hp := by rw [List.getElem?_toArray]; exact grZ_pred p hp
  old p hp := by rw [List.getElem?_toArray]; exact grZ_old p hp
  lat p hp := by rw [List.getElem?_toArray]; exact grZ_lat p hp
theorem cntX_nil (n : Nat) : cntX [] n = fun _ => 0 := by
  funext p
  simp [cntX, factsX, ofP]
theorem ofX_nil : ofX [] = fun _ => [] := by
  funext p
  simp [ofX]
theorem GrAt.zero (w : World) : GrAt (w.alloc (Obj.cells Tryz.zeroCells114 114)) w.heap.size [] [] 0 0 (fun _ => nilV) := by
  refine ⟨?_, Nat.le_refl _, Nat.le_refl _⟩
  rw [cntX_nil, ofX_nil]
  refine ⟨⟨_, Blk.new _ _ _, by rw [Tryz.grZero]; exact grZ_cells⟩, by simp [tabWith, factsX, zeroT], by rw [show tabWith zeroT (factsX []) = zeroT from rfl]; exact zeroT_lt, World.ownsRow_nil _ _ _ _, World.ownsRow_nil _ _ _ _, fun _ _ => World.ownsRow_nil _ _ _ _, (fun _ _ _ _ _ b hb => by cases hb), (fun x hx => by cases hx), (fun _ _ x hx => by cases hx)⟩

set_option maxHeartbeats 4000000 in
set_option maxRecDepth 100000 in
theorem growthFrom_any (ar : List Int) (har : arityOk ar = true) (v : Value) (fs : List LFact) (w : World) (hr : RdFacts w w.heap.size v fs) (hf : ∀ f ∈ fs, factFits ar f = true) (hn : fs.length ≤ 1048576) :
    Calls Tryz.prog 59 #[v] w fun e' w' =>
      ∃ X R, e' = .returned (.pointer (some ⟨w.heap.size, 0, none⟩)) ∧ GrAt w' w.heap.size X [X.length] 0 X.length R ∧ Below w.heap.size w w' ∧ FitL ar (factsX X) ∧ ∀ f, f ∈ factsX X ↔ f ∈ fs := by
  obtain ⟨g, hg⟩ : ∃ g, g = w.heap.size := ⟨_, rfl⟩
  obtain ⟨w1, hw1⟩ : ∃ w1, w1 = w.alloc (Obj.cells Tryz.zeroCells114 114) := ⟨_, rfl⟩
  have HAR := Lib.hid har
  have HF := Lib.hid hf
  have HX0 := Lib.hid (show FitL ar (factsX []) from ⟨List.nodup_nil, fun f hf => by cases hf⟩)
  have B1 := Lib.hid (show Below g w w1 by rw [hw1, hg]; exact below1 _ _)
  have H1 := Lib.hid (show GrAt w1 g [] [] 0 0 (fun _ => nilV) by rw [hw1, hg]; exact GrAt.zero w)
  have CB := Lib.hid (bring_any g ar har [] [] 0 0 (fun _ => nilV) v fs w1 H1.out HX0.out (by
    have h1 := hr.below (show Below w.heap.size w w1 by rw [hw1]; exact below1 _ _) (Nat.le_refl _)
    rw [hg]; exact h1) hf hn)
  have HW1 := Lib.hid hw1
  rw [← hg]
  clear hr hf har hw1
  go_enter Tryz.func59, Tryz.ntmps59
  go_upto_region 2 with fail
  rw [← HW1.out]
  rw [show (w.heap.size : Nat) = g from hg.symm]
  have HG := Lib.hid hg
  clear hg
  go_wp2_with (first
    | (go_at_call 95; refine CB.out.mono ?_; rintro e2 w2 ⟨rfl, X, R, h2, k2, br2⟩
       have H2 := Lib.hid (And.intro h2 (And.intro k2 br2))
       have HFX := Lib.hid (br2.fit HX0.out HF.out)
       have hfew := h2.few HAR.out HFX.out
       have CE := Lib.hid (endRound_any g X [] 0 0 R w2 h2 (by omega) (by simp))
       clear h2 k2 br2)
    | (go_at_call 96; refine CE.out.mono ?_; rintro e3 w3 ⟨rfl, R3, h3, k3⟩
       have H3 := Lib.hid (And.intro h3 k3)
       clear h3 k3))
  go_ret
  exact ⟨X, R3, rfl, H3.out.1, B1.out.trans (H2.out.2.1.below.trans H3.out.2.below), HFX.out, fun f => by rw [H2.out.2.2.2.2 f]; simp [factsX]⟩

end Go.Proofs.YtniedmhkajnfjaaGreat
/-
  Marks on integers (the words and the walks lie in MarkInts).
-/
namespace Go.Proofs.YtniedmhkajnfjaaGreat
open Go.RowKit

end Go.Proofs.YtniedmhkajnfjaaGreat
/-
  Marks on what is not read again: a store of a number over a number keeps the shape of all that lies there. The words, and the walks of markIntS, markAtom, markLitS, markRule, markRuleS, markProgram.
-/
namespace Go.Proofs.YtniedmhkajnfjaaGreat
open Go.RowKit

/-- Blocks outside [lo, hi) are as they were; within, numbers may have become others. -/
structure Marked (lo hi : Nat) (w w' : World) : Prop where
  only : Only lo hi w w'
  cell : ∀ p : Addr, p.block < w.heap.size → w'.cell? p = w.cell? p ∨ ∃ x y, w.cell? p = some (.int .i64 x) ∧ w'.cell? p = some (.int .i64 y)
  frozen : ∀ p : Addr, p.block < w.heap.size → w'.frozen? p = w.frozen? p

section
variable {lo hi : Nat} {w w1 w' : World}
theorem Marked.refl (lo hi : Nat) (w : World) : Marked lo hi w w := ⟨Only.refl _ _ _, fun _ _ => .inl rfl, fun _ _ => rfl⟩
theorem Marked.trans (h : Marked lo hi w w1) (k : Marked lo hi w1 w') : Marked lo hi w w' := by
  refine ⟨h.only.trans k.only, fun p hp => ?_, fun p hp => (k.frozen p (Nat.lt_of_lt_of_le hp h.only.size)).trans (h.frozen p hp)⟩
  rcases h.cell p hp with e | ⟨x, y, e1, e2⟩
  · rcases k.cell p (Nat.lt_of_lt_of_le hp h.only.size) with e' | ⟨x', y', e1', e2'⟩
    · exact .inl (e'.trans e)
    · exact .inr ⟨x', y', e ▸ e1', e2'⟩
  · rcases k.cell p (Nat.lt_of_lt_of_le hp h.only.size) with e' | ⟨x', y', e1', e2'⟩
    · exact .inr ⟨x, y, e1, e'.trans e2⟩
    · exact .inr ⟨x, y', e1, e2'⟩
theorem Marked.of_below (h : Below w.heap.size w w') : Marked lo hi w w' := ⟨Only.of_below h, fun _ hp => .inl (h.cell hp), fun _ hp => h.frozen hp⟩
theorem Marked.store {p : Addr} {x : Int} (hp : lo ≤ p.block ∧ p.block < hi) (hc : w.cell? p = some (.int .i64 x)) (y : Int) : Marked lo hi w (w.setCell p (.int .i64 y)) := by
  refine ⟨(Only.refl _ _ _).setCell hp _, fun q _ => ?_, fun q _ => ?_⟩
  · by_cases e : q = p
    · subst e
      exact .inr ⟨x, y, hc, World.cell?_setCell_same _ _ _ hc⟩
    · exact .inl (World.cell?_setCell_other _ _ _ _ (fun e' => e e'.symm))
  · unfold World.frozen? World.setCell
    rw [Array.getElem?_modify]
    by_cases e : p.block = q.block
    · rw [if_pos e]
      cases hq : w.heap[q.block]? with
      | none => rfl
      | some o => cases o <;> rfl
    · rw [if_neg e]

/-- A slice of n numbers, of blocks from lo on and below hi, that may be written. -/
def WrInts (w : World) (lo hi : Nat) (v : Value) (n : Nat) : Prop :=
  ∃ A c, v = .slice A n c ∧ (0 < n → ∃ b o, A = some ⟨b, o, none⟩ ∧ lo ≤ b ∧ b < hi ∧ ∀ k, k < n → w.frozen? ⟨b, o + k, none⟩ = false ∧ ∃ x, w.cell? ⟨b, o + k, none⟩ = some (.int .i64 x))
theorem Marked.int (h : Marked lo hi w w') {p : Addr} {x : Int} (hc : w.cell? p = some (.int .i64 x)) : ∃ y, w'.cell? p = some (.int .i64 y) := by
  rcases h.cell p (World.block_lt_of_cell? _ _ hc) with e | ⟨_, y, _, e⟩
  · exact ⟨x, e.trans hc⟩
  · exact ⟨y, e⟩
theorem Marked.slice (h : Marked lo hi w w') {p : Addr} {A : Option Addr} {n c : Nat} (hc : w.cell? p = some (.slice A n c)) : w'.cell? p = some (.slice A n c) := by
  rcases h.cell p (World.block_lt_of_cell? _ _ hc) with e | ⟨x, y, e, _⟩
  · exact e.trans hc
  · rw [hc] at e
    cases e
theorem WrInts.marked {v : Value} {n : Nat} (h : WrInts w lo hi v n) (hm : Marked lo hi w w') : WrInts w' lo hi v n := by
  obtain ⟨A, c, rfl, h⟩ := h
  refine ⟨A, c, rfl, fun hn => ?_⟩
  obtain ⟨b, o, rfl, h1, h2, hx⟩ := h hn
  refine ⟨b, o, rfl, h1, h2, fun k hk => ?_⟩
  obtain ⟨hf, x, hc⟩ := hx k hk
  exact ⟨(hm.frozen _ (World.block_lt_of_cell? _ _ hc)).trans hf, hm.int hc⟩
theorem OwnInts.wr {v : Value} {xs : List Int} (h : OwnInts w lo hi v xs) : WrInts w lo hi v xs.length := by
  have hrd := h.rd
  obtain ⟨⟨hlen, h⟩, hlt⟩ := h
  rcases h with ⟨rfl, h0⟩ | ⟨g, cap, cur, rfl, hbg, hg, hn, hm, hs, ht⟩
  · exact ⟨none, 0, by rw [h0], fun hn => absurd hn (by omega)⟩
  · refine ⟨_, cap, rfl, fun hn0 => ⟨g, 0, rfl, hbg, hlt g rfl, fun k hk => ⟨by simp [World.frozen?, hg], ?_⟩⟩⟩
    obtain ⟨A', c', e, _, hx⟩ := hrd
    injection e with e1 _ _
    obtain ⟨b, o, e2, _, hx⟩ := hx hn0
    rw [← e1] at e2
    injection e2 with e2
    injection e2 with e2 e3 _
    subst e2
    subst e3
    exact ⟨_, hx k hk⟩

def WLit (w : World) (lo hi : Nat) (u0 u1 u2 : Value) (l : LLit) : Prop := (∃ x, u0 = .int .i64 x) ∧ (∃ y, u1 = .int .i64 y) ∧ WrInts w lo hi u2 l.2.2.length
def WrLits (w : World) (lo hi : Nat) (v : Value) (ls : List LLit) : Prop := OwnRow WLit w lo hi v ls
theorem OwnLits.wr {v : Value} {ls : List LLit} (h : OwnLits w lo hi v ls) : WrLits w lo hi v ls := by
  obtain ⟨A, c, rfl, hc, h⟩ := h
  refine ⟨A, c, rfl, hc, fun hn => ?_⟩
  obtain ⟨b, o, rfl, h1, h2, hx⟩ := h hn
  refine ⟨b, o, rfl, h1, h2, fun k hk => ?_⟩
  obtain ⟨hf, u0, u1, u2, c0, c1, c2, rfl, rfl, hI⟩ := hx k hk
  exact ⟨hf, _, _, _, c0, c1, c2, ⟨_, rfl⟩, ⟨_, rfl⟩, hI.wr⟩
theorem WrLits.marked {v : Value} {ls : List LLit} (h : WrLits w lo hi v ls) (hm : Marked lo hi w w') : WrLits w' lo hi v ls := by
  obtain ⟨A, c, rfl, hc, h⟩ := h
  refine ⟨A, c, rfl, hc, fun hn => ?_⟩
  obtain ⟨b, o, rfl, h1, h2, hx⟩ := h hn
  refine ⟨b, o, rfl, h1, h2, fun k hk => ?_⟩
  obtain ⟨⟨f0, f1⟩, u0, u1, u2, c0, c1, c2, ⟨x, rfl⟩, ⟨y, rfl⟩, hI⟩ := hx k hk
  obtain ⟨x', d0⟩ := hm.int c0
  obtain ⟨y', d1⟩ := hm.int c1
  obtain ⟨A2, c2', rfl, hi⟩ := hI
  exact ⟨⟨(hm.frozen _ (World.block_lt_of_cell? _ _ c0)).trans f0, (hm.frozen _ (World.block_lt_of_cell? _ _ c1)).trans f1⟩, _, _, _, d0, d1, hm.slice c2, ⟨_, rfl⟩, ⟨_, rfl⟩, WrInts.marked ⟨A2, c2', rfl, hi⟩ hm⟩

def WRule (w : World) (lo hi : Nat) (u0 u1 u2 : Value) (r : LRule) : Prop := (∃ x, u0 = .int .i64 x) ∧ WrInts w lo hi u1 r.1.2.length ∧ WrLits w lo hi u2 r.2
def WrRules (w : World) (lo hi : Nat) (v : Value) (rs : List LRule) : Prop := OwnRow WRule w lo hi v rs
theorem OwnRules.wr {v : Value} {rs : List LRule} (h : OwnRules w lo hi v rs) : WrRules w lo hi v rs := by
  obtain ⟨A, c, rfl, hc, h⟩ := h
  refine ⟨A, c, rfl, hc, fun hn => ?_⟩
  obtain ⟨b, o, rfl, h1, h2, hx⟩ := h hn
  refine ⟨b, o, rfl, h1, h2, fun k hk => ?_⟩
  obtain ⟨hf, u0, u1, u2, c0, c1, c2, rfl, hI, hL⟩ := hx k hk
  exact ⟨hf, _, _, _, c0, c1, c2, ⟨_, rfl⟩, hI.wr, hL.wr⟩
theorem WrRules.marked {v : Value} {rs : List LRule} (h : WrRules w lo hi v rs) (hm : Marked lo hi w w') : WrRules w' lo hi v rs := by
  obtain ⟨A, c, rfl, hc, h⟩ := h
  refine ⟨A, c, rfl, hc, fun hn => ?_⟩
  obtain ⟨b, o, rfl, h1, h2, hx⟩ := h hn
  refine ⟨b, o, rfl, h1, h2, fun k hk => ?_⟩
  obtain ⟨⟨f0, f1⟩, u0, u1, u2, c0, c1, c2, ⟨x, rfl⟩, hI, hL⟩ := hx k hk
  obtain ⟨x', d0⟩ := hm.int c0
  have f1' := (hm.frozen _ (World.block_lt_of_cell? _ _ c1)).trans f1
  obtain ⟨A1, n1, rfl, hi1⟩ := hI
  obtain ⟨A2, n2, rfl, hc2, hi2⟩ := hL
  exact ⟨⟨(hm.frozen _ (World.block_lt_of_cell? _ _ c0)).trans f0, f1'⟩, _, _, _, d0, hm.slice c1, hm.slice c2, ⟨_, rfl⟩, WrInts.marked ⟨A1, n1, rfl, hi1⟩ hm, WrLits.marked ⟨A2, n2, rfl, hc2, hi2⟩ hm⟩
end

set_option maxHeartbeats 400000 in
theorem wmarkIntS_any (v : Value) (n : Nat) (k : Int) (lo hi : Nat) (w : World) (h : WrInts w lo hi v n) (hk0 : 0 ≤ k) (hk : k + n ≤ 4611686018427387904) :
    Calls Tryz.prog 50 #[v, .int .i64 k] w fun e w' => e = .returned (.int .i64 (k + n)) ∧ Marked lo hi w w' := by
  have H := Lib.hid h
  obtain ⟨A, c, rfl, _⟩ := h
  go_enter Tryz.func50, Tryz.ntmps50
  go_wp2_with (fail)
  go_loopw [1, 5] (fun m i wr => ∃ j : Nat, j ≤ n ∧ i = .int .i64 j ∧ m = .int .i64 (k + j) ∧ Marked lo hi w wr) (fun _ i _ => n - (intOf i).toNat)
  case atStart => exact ⟨0, Nat.zero_le _, rfl, by simp, Marked.refl _ _ _⟩
  case round =>
    obtain ⟨j, hj, rfl, rfl, hm⟩ := hrel
    by_cases hlt : j < n
    · obtain ⟨A', c', e, hx⟩ := H.out.marked hm
      injection e with e1 _ _
      subst e1
      obtain ⟨b, o, rfl, h1, h2, hx⟩ := hx (by omega)
      obtain ⟨hf, x, hc⟩ := hx j hlt
      have HM := Lib.hid (hm.trans (Marked.store (p := ⟨b, o + j, none⟩) ⟨h1, h2⟩ hc (k + j)))
      clear hx
      go_wp2_with (fail)
      go_roundw
      case rel => exact ⟨j + 1, by omega, by go_num, by go_num, HM.out⟩
      case measure => simp [intOf]; omega
    · have hkn : j = n := by omega
      have HK := Lib.hid (show k + (j : Int) = k + n by rw [hkn])
      clear hkn
      go_wp2_with (fail)
      go_ret
      exact ⟨ret_int HK.out, hm⟩

/-- How far the marks of literals, of a rule, of rules go. -/
def endL (k : Int) (ls : List LLit) : Int := k + 2 * (ls.length : Int) + (totL ls : Int)

set_option maxHeartbeats 1000000 in
set_option maxRecDepth 100000 in
theorem wmarkLitS_any (v : Value) (ls : List LLit) (k : Int) (lo hi : Nat) (w : World) (h : WrLits w lo hi v ls) (hk0 : 0 ≤ k) (hk : k ≤ 4294967296) (hn : ls.length ≤ 1073741824) (ht : totL ls ≤ 1073741824) :
    Calls Tryz.prog 23 #[v, .int .i64 k] w fun e w' => e = .returned (.int .i64 (endL k ls)) ∧ Marked lo hi w w' := by
  have H := Lib.hid h
  obtain ⟨A, c, rfl, _⟩ := h
  go_enter Tryz.func23, Tryz.ntmps23
  go_wp2_with (fail)
  go_loopw [1, 5] (fun m i wr => ∃ (j : Nat) (q : Int), j ≤ ls.length ∧ i = .int .i64 j ∧ m = .int .i64 q ∧ q = k + 2 * (j : Int) + (totL (ls.take j) : Int) ∧ Marked lo hi w wr) (fun _ i _ => ls.length - (intOf i).toNat)
  case atStart => exact ⟨0, k, Nat.zero_le _, rfl, rfl, by simp [totL], Marked.refl _ _ _⟩
  case round =>
    obtain ⟨j, q, hj, rfl, rfl, hq, hm⟩ := hrel
    by_cases hlt : j < ls.length
    · obtain ⟨A', c', e, _, hx⟩ := H.out.marked hm
      injection e with e1 _ e3
      subst e1
      subst e3
      obtain ⟨b, o, rfl, h1, h2, hx⟩ := hx (by omega)
      obtain ⟨⟨f0, f1⟩, u0, u1, u2, c0, c1, c2, ⟨x, rfl⟩, ⟨y, rfl⟩, hI⟩ := hx j hlt
      have m0 := Marked.store (p := ⟨b, o + j * 3, none⟩) ⟨h1, h2⟩ c0 q
      obtain ⟨y', c1'⟩ := m0.int c1
      have f1' := (m0.frozen ⟨b, o + j * 3 + 1, none⟩ (World.block_lt_of_cell? _ _ c1)).trans f1
      have m1 := Marked.store (p := ⟨b, o + j * 3 + 1, none⟩) ⟨h1, h2⟩ c1' (q + 1)
      have hI2 := hI.marked (m0.trans m1)
      obtain ⟨A3, c3, rfl, _⟩ := hI
      have c2' := (m0.trans m1).slice c2
      have htk := totL_take ls j hlt
      have hle := sum_at (fun l : LLit => l.2.2.length) ls j hlt
      have htl : totL (ls.take j) ≤ totL ls := by
        have := congrArg (fun l => (l.map (fun l : LLit => l.2.2.length)).sum) (List.take_append_drop j ls)
        simp only [List.map_append, List.sum_append] at this
        unfold totL
        omega
      have hle2 : ls[j].2.2.length ≤ totL ls := hle
      clear hle
      have hq0 : 0 ≤ q := by omega
      have hq1 : q ≤ 8589934592 := by omega
      have HI := Lib.hid hI2
      have HM := Lib.hid (hm.trans (m0.trans m1))
      have HQ := Lib.hid (show q + 1 + 1 + (ls[j].2.2.length : Int) = k + 2 * ((j + 1 : Nat) : Int) + (totL (ls.take (j + 1)) : Int) by rw [htk]; omega)
      clear hx m0 m1 hI2 htk htl hq
      go_wp2_with (fail)
      refine (wmarkIntS_any _ _ (q + 1 + 1) lo hi _ HI.out (by omega) (by omega)).mono ?_
      rintro e w3 ⟨rfl, hm3⟩
      have HM3 := Lib.hid (HM.out.trans hm3)
      go_wp2_with (fail)
      go_roundw
      case rel => exact ⟨j + 1, _, by omega, by go_num, rfl, HQ.out, HM3.out⟩
      case measure => simp [intOf]; omega
    · have hkn : j = ls.length := by omega
      have HK := Lib.hid (show q = endL k ls by rw [hq, hkn, List.take_length]; rfl)
      clear hkn hq
      go_wp2_with (fail)
      go_ret
      exact ⟨ret_int HK.out, hm⟩

def endR (k : Int) (r : LRule) : Int := endL (k + (r.1.2.length : Int)) r.2

end Go.Proofs.YtniedmhkajnfjaaGreat
/-
  The loop that collects integers; the walk of the specification's RulesOf.
-/
namespace Go.Proofs.YtniedmhkajnfjaaGreat
open Go.RowKit

/-- The indexes of rules, of the first k, whose head has a predicate. -/
def rulesTo (rs : List LRule) (pred : Int) (k : Nat) : List Int := ((List.range k).filter fun i => (rs.getD i ((0, []), [])).1.1 == pred).map fun i : Nat => (i : Int)
def rulesOf (p : LProg) (pred : Int) : List Int := rulesTo p.2 pred p.2.length
theorem rulesTo_yes {rs : List LRule} {pred : Int} {k : Nat} (h : k < rs.length) (e : rs[k].1.1 = pred) : rulesTo rs pred (k + 1) = rulesTo rs pred k ++ [(k : Int)] := by
  unfold rulesTo
  rw [List.range_succ, List.filter_append, List.map_append]
  congr 1
  simp [h, e]
theorem rulesTo_no {rs : List LRule} {pred : Int} {k : Nat} (h : k < rs.length) (e : rs[k].1.1 ≠ pred) : rulesTo rs pred (k + 1) = rulesTo rs pred k := by
  unfold rulesTo
  rw [List.range_succ, List.filter_append, List.map_append]
  simp [h, e]
theorem rulesTo_length (rs : List LRule) (pred : Int) (k : Nat) : (rulesTo rs pred k).length ≤ k := by
  unfold rulesTo
  rw [List.length_map]
  exact Nat.le_trans (List.length_filter_le _ _) (by simp)

end Go.Proofs.YtniedmhkajnfjaaGreat
/-
  The numbers of the bits of a word: the words; the walks of TrailingZeros64, TrailingZeros, bitNumbers.
-/
namespace Go.Proofs.YtniedmhkajnfjaaGreat
open Go.RowKit

/-- The numbers of the bits of x, ascending. -/
def bitsOf (x : Nat) : List Int := ((List.range 64).filter fun j => x.testBit j).map fun j : Nat => (j : Int)
theorem bitsOf_zero : bitsOf 0 = [] := by simp [bitsOf]
theorem bitsOf_length (x : Nat) : (bitsOf x).length ≤ 64 := by
  unfold bitsOf
  rw [List.length_map]
  exact Nat.le_trans (List.length_filter_le _ _) (by simp)

theorem testBit_odd {k m j : Nat} : (2 ^ k * (2 * m + 1)).testBit j = (decide (k ≤ j) && (2 * m + 1).testBit (j - k)) := by
  rw [Nat.mul_comm, Nat.testBit_mul_two_pow]
theorem testBit_even {k m j : Nat} : (2 ^ k * (2 * m)).testBit j = (decide (k ≤ j) && (2 * m).testBit (j - k)) := by
  rw [Nat.mul_comm, Nat.testBit_mul_two_pow]
theorem filter_step (k m : Nat) (hk : k < 64) : (List.range 64).filter (fun j => (2 ^ k * (2 * m + 1)).testBit j) = k :: (List.range 64).filter (fun j => (2 ^ k * (2 * m)).testBit j) := by
  obtain ⟨d, hd⟩ : ∃ d, 64 = k + (1 + d) := ⟨63 - k, by omega⟩
  rw [hd, List.range_add, List.filter_append, List.filter_append, List.range_add, List.map_append, List.filter_append, List.filter_append]
  have h1 : (List.range k).filter (fun j => (2 ^ k * (2 * m + 1)).testBit j) = [] := by
    rw [List.filter_eq_nil_iff]
    intro j hj
    have hj := List.mem_range.1 hj
    rw [testBit_odd]
    simp
    omega
  have h2 : (List.range k).filter (fun j => (2 ^ k * (2 * m)).testBit j) = [] := by
    rw [List.filter_eq_nil_iff]
    intro j hj
    have hj := List.mem_range.1 hj
    rw [testBit_even]
    simp
    omega
  have h3 : ((List.range 1).map (k + ·)).filter (fun j => (2 ^ k * (2 * m + 1)).testBit j) = [k] := by
    have : (2 ^ k * (2 * m + 1)).testBit k = true := by rw [testBit_odd]; simp [Nat.testBit_zero]
    simp [this]
  have h4 : ((List.range 1).map (k + ·)).filter (fun j => (2 ^ k * (2 * m)).testBit j) = [] := by
    have : (2 ^ k * (2 * m)).testBit k = false := by rw [testBit_even]; simp [Nat.testBit_zero]
    simp [this]
  rw [h1, h2, h3, h4, List.nil_append, List.nil_append, List.nil_append, List.singleton_append]
  congr 1
  apply List.filter_congr
  intro j hj
  simp only [List.mem_map, List.mem_range] at hj
  obtain ⟨a, ⟨b, hb, rfl⟩, rfl⟩ := hj
  rw [testBit_odd, testBit_even]
  have e : k + (1 + b) - k = b + 1 := by omega
  rw [e, Nat.testBit_succ, Nat.testBit_succ]
  congr 2
  omega
/-- The lowest bit, and the others. -/
theorem bitsOf_step {x : Nat} (h0 : x ≠ 0) (hx : x < 2 ^ 64) : bitsOf x = (Lib.ctz 64 x : Int) :: bitsOf (x &&& (x - 1)) ∧ x &&& (x - 1) < x := by
  obtain ⟨m, hm, hk⟩ := Lib.ctzFrom_spec 64 x (by omega) hx
  have hc : Lib.ctz 64 x = Lib.ctzFrom 64 x := by unfold Lib.ctz; rw [if_neg h0]
  rw [hc]
  generalize Lib.ctzFrom 64 x = k at hm hk
  have hp : 0 < 2 ^ k := Nat.two_pow_pos k
  have hand : x &&& (x - 1) = 2 ^ k * (2 * m) := by
    apply Nat.eq_of_testBit_eq
    intro j
    rw [Nat.testBit_and]
    have e1 : x - 1 = 2 ^ k * (2 * m) + (2 ^ k - 1) := by
      rw [hm, Nat.mul_add, Nat.mul_one]
      omega
    rw [e1, Nat.testBit_two_pow_mul_add _ (by omega), testBit_even, hm, testBit_odd]
    by_cases hj : j < k
    · have hkj : decide (k ≤ j) = false := by simp; omega
      rw [hkj]
      simp
    · rw [if_neg hj]
      have : k ≤ j := by omega
      simp only [this, decide_true, Bool.true_and]
      by_cases e : j = k
      · subst e
        simp [Nat.testBit_zero]
      · obtain ⟨i, rfl⟩ : ∃ i, j = k + (i + 1) := ⟨j - k - 1, by omega⟩
        have e3 : k + (i + 1) - k = i + 1 := by omega
        rw [e3, Nat.testBit_succ, Nat.testBit_succ]
        have d1 : (2 * m + 1) / 2 = m := by omega
        have d2 : 2 * m / 2 = m := by omega
        rw [d1, d2, Bool.and_self]
  refine ⟨?_, ?_⟩
  · rw [hand, hm]
    unfold bitsOf
    rw [filter_step k m hk]
    simp
  · rw [hand, hm, Nat.mul_add, Nat.mul_one]
    omega

end Go.Proofs.YtniedmhkajnfjaaGreat
/-
  The walk of the program's constantDigits, and AllFacts' plain mathematics.
-/
namespace Go.Proofs.YtniedmhkajnfjaaGreat
open Go.RowKit

/-- The digits of n in base six, so many places. -/
def digits (n p : Nat) : List Int := (List.range p).map fun j : Nat => ((n / 6 ^ (p - 1 - j) % 6 : Nat) : Int)
theorem digits_length (n p : Nat) : (digits n p).length = p := by simp [digits]
theorem div_pow (n k : Nat) : n / 6 ^ k / 6 = n / 6 ^ (k + 1) := by rw [Nat.div_div_eq_div_mul, Nat.pow_succ]
def digitCell (n p m j : Nat) : Value := if m ≤ j then .int .i64 ((n / 6 ^ (p - 1 - j) % 6 : Nat) : Int) else .int .i64 0

theorem pow6 : (6 : Nat) ^ 0 = 1 ∧ (6 : Nat) ^ 1 = 6 ∧ (6 : Nat) ^ 2 = 36 := by decide
/-- All facts of a predicate with so many places. -/
def allOk (p q : Int) : Bool := decide (0 ≤ p ∧ p ≤ 23) && decide (0 ≤ q ∧ q ≤ 2)
def allTo (p : Int) (q : Nat) (m : Nat) : List LFact := (List.range m).map fun i => (p, digits i q)
def allFacts (p q : Int) : List LFact := if allOk p q then allTo p q.toNat (6 ^ q.toNat) else []
theorem allTo_length (p : Int) (q m : Nat) : (allTo p q m).length = m := by simp [allTo]
theorem allTo_snoc (p : Int) (q m : Nat) : allTo p q (m + 1) = allTo p q m ++ [(p, digits m q)] := by simp [allTo, List.range_succ]
theorem allTo_tot (p : Int) (q : Nat) : ∀ m, tot (allTo p q m) = m * q
  | 0 => by simp [allTo, tot]
  | m + 1 => by rw [allTo_snoc, tot_append, allTo_tot p q m, tot_cons]; simp [tot, digits_length, Nat.add_mul]

end Go.Proofs.YtniedmhkajnfjaaGreat
/-
  The facts of a table, ascending: plain mathematics.
-/
namespace Go.Proofs.YtniedmhkajnfjaaGreat
open Go.RowKit

/-- The facts of a table's word; the facts of a table. -/
def wordFacts (p x q : Nat) : List LFact := (bitsOf x).map fun j => ((p : Int), digits j.toNat q)
def tabFacts (T : List Nat) (ar : List Int) : List LFact := (List.range ar.length).flatMap fun p => wordFacts p (T.getD p 0) (ar.getD p 0).toNat

theorem bitsOf_mem {x : Nat} {i : Int} : i ∈ bitsOf x ↔ ∃ j : Nat, j < 64 ∧ x.testBit j = true ∧ (j : Int) = i := by
  unfold bitsOf
  rw [List.mem_map]
  constructor
  · rintro ⟨j, hj, e⟩
    rw [List.mem_filter, List.mem_range] at hj
    exact ⟨j, hj.1, hj.2, e⟩
  · rintro ⟨j, h1, h2, e⟩
    exact ⟨j, List.mem_filter.2 ⟨List.mem_range.2 h1, h2⟩, e⟩
theorem bitsOf_up (x : Nat) : (bitsOf x).Pairwise (· < ·) := by
  unfold bitsOf
  rw [List.pairwise_map]
  exact (List.pairwise_lt_range.filter _).imp fun h => by omega
theorem digits_numF {xs : List Int} (hc : xs.all constOk = true) (hl : xs.length ≤ 2) : digits (numF xs) xs.length = xs := by
  rcases xs with _ | ⟨x, _ | ⟨y, _ | ⟨z, xs⟩⟩⟩
  · rfl
  · simp only [List.all_cons, List.all_nil, Bool.and_true] at hc
    have := const_range hc
    simp [digits, numF, List.range_succ]
    omega
  · simp only [List.all_cons, List.all_nil, Bool.and_true, Bool.and_eq_true] at hc
    have := const_range hc.1
    have := const_range hc.2
    simp [digits, numF, List.range_succ]
    omega
  · simp at hl
theorem digits_up1 : ∀ i j : Fin 6, i < j → cmpL (digits i 1) (digits j 1) < 0 := by decide +kernel
theorem digits_up2 : ∀ i j : Fin 36, i < j → cmpL (digits i 2) (digits j 2) < 0 := by decide +kernel
theorem digits_up {i j q : Nat} (hq : q ≤ 2) (hj : j < 6 ^ q) (h : i < j) : cmpL (digits i q) (digits j q) < 0 := by
  match q, hq with
  | 0, _ => simp at hj; omega
  | 1, _ => exact digits_up1 ⟨i, by omega⟩ ⟨j, by omega⟩ h
  | 2, _ => exact digits_up2 ⟨i, by omega⟩ ⟨j, by omega⟩ h
theorem tabFacts_mem {T : List Nat} {ar : List Int} {f : LFact} : f ∈ tabFacts T ar ↔ ∃ p j : Nat, p < ar.length ∧ j < 64 ∧ (T.getD p 0).testBit j = true ∧ f = ((p : Int), digits j (ar.getD p 0).toNat) := by
  unfold tabFacts wordFacts
  simp only [List.mem_flatMap, List.mem_map, List.mem_range, bitsOf_mem]
  constructor
  · rintro ⟨p, hp, i, ⟨j, h1, h2, rfl⟩, rfl⟩
    exact ⟨p, j, hp, h1, h2, rfl⟩
  · rintro ⟨p, j, hp, h1, h2, rfl⟩
    exact ⟨p, hp, (j : Int), ⟨j, h1, h2, rfl⟩, rfl⟩
theorem tabFacts_asc {T : List Nat} {ar : List Int} (ha : arityOk ar = true) (hb : ∀ p j : Nat, p < ar.length → (T.getD p 0).testBit j = true → j < 6 ^ (ar.getD p 0).toNat) : Asc (tabFacts T ar) := by
  unfold Asc tabFacts
  rw [List.pairwise_flatMap]
  have hq : ∀ p, p < ar.length → (ar.getD p 0).toNat ≤ 2 := fun p hp => by
    have h1 := ha
    simp only [arityOk, Bool.and_eq_true, decide_eq_true_eq, List.all_eq_true] at h1
    have h2 : placeOk ar[p] = true := h1.2 _ (List.getElem_mem hp)
    rw [getD_at hp]
    simp [placeOk] at h2
    omega
  refine ⟨fun p hp => ?_, ?_⟩
  · rw [List.mem_range] at hp
    unfold wordFacts
    rw [List.pairwise_map]
    refine List.Pairwise.imp_of_mem (fun {a b} ha hb' hab => ?_) (bitsOf_up _)
    obtain ⟨i, _, _, rfl⟩ := bitsOf_mem.1 ha
    obtain ⟨j, _, h2, rfl⟩ := bitsOf_mem.1 hb'
    simp only [factOrder, if_true, Int.toNat_natCast]
    exact digits_up (hq p hp) (hb p j hp h2) (by omega)
  · refine List.pairwise_lt_range.imp fun {p p'} hpp x hx y hy => ?_
    unfold wordFacts at hx hy
    obtain ⟨_, _, rfl⟩ := List.mem_map.1 hx
    obtain ⟨_, _, rfl⟩ := List.mem_map.1 hy
    have h1 : ¬ ((p : Int) = (p' : Int)) := by omega
    have h2 : ((p : Int) < (p' : Int)) := by omega
    simp [factOrder, h1, cmpI, h2]

/-- A table of facts has just these. -/
theorem tabFacts_with {ar : List Int} (ha : arityOk ar = true) {F : List LFact} (hF : ∀ f ∈ F, factFits ar f = true) : Asc (tabFacts (tabWith zeroT F) ar) ∧ ∀ f, f ∈ tabFacts (tabWith zeroT F) ar ↔ f ∈ F := by
  have hl : ar.length ≤ 24 := by simp only [arityOk, Bool.and_eq_true, decide_eq_true_eq] at ha; exact ha.1
  have hz : ∀ p : Nat, p < ar.length → p < zeroT.length := fun p hp => by simp [zeroT]; omega
  have hbit : ∀ p j : Nat, p < ar.length → (((tabWith zeroT F).getD p 0).testBit j = true ↔ ∃ f ∈ F, f.1.toNat = p ∧ numF f.2 = j) := fun p j hp => by
    simp only [tabWith_bit _ _ (hz p hp), zero_bit, Bool.false_eq_true, false_or]
  have hone : ∀ f ∈ F, f.1 = ((f.1.toNat : Nat) : Int) ∧ f.1.toNat < ar.length ∧ f.2.length = (ar.getD f.1.toNat 0).toNat ∧ digits (numF f.2) (ar.getD f.1.toNat 0).toNat = f.2 ∧ numF f.2 < 6 ^ (ar.getD f.1.toNat 0).toNat := fun f hf => by
    obtain ⟨⟨h0, h1, h2⟩, h3⟩ := fits_parts (hF f hf)
    have h4 := fits_short ha (hF f hf)
    have h5 : f.2.length = (ar.getD f.1.toNat 0).toNat := by omega
    refine ⟨by omega, by omega, h5, ?_, ?_⟩
    · rw [← h5]
      exact digits_numF h3 h4
    · rw [← h5]
      have := numF_lt h3 f.2.length (Nat.le_refl _)
      rwa [List.take_length] at this
  refine ⟨tabFacts_asc ha fun p j hp h => ?_, fun f => ?_⟩
  · obtain ⟨f, hf, rfl, rfl⟩ := (hbit p j hp).1 h
    exact (hone f hf).2.2.2.2
  · rw [tabFacts_mem]
    constructor
    · rintro ⟨p, j, hp, _, h, rfl⟩
      obtain ⟨g, hg, rfl, rfl⟩ := (hbit p j hp).1 h
      obtain ⟨e1, _, _, e2, _⟩ := hone g hg
      rw [e2, ← e1]
      exact hg
    · intro hf
      obtain ⟨e1, e2, _, e3, e4⟩ := hone f hf
      exact ⟨f.1.toNat, numF f.2, e2, numF_64 (fits_parts (hF f hf)).2 (fits_short ha (hF f hf)), (hbit _ _ e2).2 ⟨f, hf, rfl, rfl⟩, by rw [e3, ← e1]⟩

end Go.Proofs.YtniedmhkajnfjaaGreat
/-
  The walk of (*factTable).facts: a table's facts, ascending, in memory of the call's own.
-/
namespace Go.Proofs.YtniedmhkajnfjaaGreat
open Go.RowKit

def tabTo (T : List Nat) (ar : List Int) (k : Nat) : List LFact := (List.range k).flatMap fun p => wordFacts p (T.getD p 0) (ar.getD p 0).toNat
theorem tabTo_snoc (T : List Nat) (ar : List Int) (k : Nat) : tabTo T ar (k + 1) = tabTo T ar k ++ wordFacts k (T.getD k 0) (ar.getD k 0).toNat := by simp [tabTo, List.range_succ]
theorem wordFacts_len (p x q : Nat) : (wordFacts p x q).length ≤ 64 := by
  unfold wordFacts
  rw [List.length_map]
  exact bitsOf_length x
theorem tabTo_len (T : List Nat) (ar : List Int) : ∀ k, (tabTo T ar k).length ≤ k * 64
  | 0 => by simp [tabTo]
  | k + 1 => by
    rw [tabTo_snoc, List.length_append]
    have := tabTo_len T ar k
    have := wordFacts_len k (T.getD k 0) (ar.getD k 0).toNat
    omega

end Go.Proofs.YtniedmhkajnfjaaGreat
/-
  The facts of the table within what has grown.
-/
namespace Go.Proofs.YtniedmhkajnfjaaGreat
open Go.RowKit

/-- A table stands at places 2 to 25 of block g. -/
structure TabG (w : World) (g : Nat) (T : List Nat) : Prop where
  cell : ∀ {p : Nat}, p < 24 → w.cell? ⟨g, 2 + p, none⟩ = some (.int .u64 ((T.getD p 0 : Nat) : Int))
  word : ∀ p, T.getD p 0 < 18446744073709551616
  lt : g < w.heap.size
theorem TabG.below {w w' : World} {g B : Nat} {T : List Nat} (h : TabG w g T) (hb : Below B w w') (hg : g < B) : TabG w' g T := ⟨fun {p} hp => (hb.cell (p := ⟨g, 2 + p, none⟩) hg).trans (h.cell hp), h.word, Nat.lt_of_lt_of_le h.lt hb.size⟩
theorem GrAt.tab {w : World} {g o e : Nat} {X : List FV} {E : List Nat} {R : Nat → Value} (h : GrAt w g X E o e R) : TabG w g (tabWith zeroT (factsX X)) := ⟨fun {p} hp => h.raw.cellTab hp, fun p => h.raw.word, h.lt⟩

end Go.Proofs.YtniedmhkajnfjaaGreat
/-
  Consequences: the specification's and the program's.
-/
namespace Go.Proofs.YtniedmhkajnfjaaGreat
open Go.RowKit

end Go.Proofs.YtniedmhkajnfjaaGreat
/-
  Least: the specification's and the program's.
-/
namespace Go.Proofs.YtniedmhkajnfjaaGreat
open Go.RowKit

def lokB (p : LProg) (fs : List LFact) : Bool := positive p && factsOk p.1 fs
def leastL (p : LProg) (fs : List LFact) : List LFact := if lokB p fs then leastFrom p.2 (setOf fs) else []
theorem lok_parts {p : LProg} {fs : List LFact} (h : lokB p fs = true) : arityOk p.1 = true ∧ (∀ r ∈ p.2, ruleFits p.1 r = true) ∧ (∀ f ∈ fs, factFits p.1 f = true) ∧ p.2.length ≤ 60 := by
  simp only [lokB, positive, Bool.and_eq_true] at h
  obtain ⟨h1, h2, h3⟩ := prog_parts h.1.1
  exact ⟨h1, h3, (factsOk_parts h.2).2.1, h2⟩
theorem iterL_asc {rs : List LRule} {F : List LFact} (h : Asc F) : ∀ n, Asc (iterL rs F n)
  | 0 => h
  | _ + 1 => setOf_asc _
theorem leastL_few (p : LProg) (fs : List LFact) : (leastL p fs).length ≤ 1536 ∧ tot (leastL p fs) ≤ 3072 := by
  unfold leastL
  cases h : lokB p fs
  · simp [tot]
  · obtain ⟨h1, h2, h3, _⟩ := lok_parts h
    rw [if_pos rfl]
    exact iter_few h1 h2 (FitL.set h3) _

set_option maxHeartbeats 2000000 in
set_option maxRecDepth 100000 in
theorem l4Ok_any (v v2 : Value) (p : LProg) (fs : List LFact) (w : World) (h : RdProg w w.heap.size v p) (h2 : RdFacts w w.heap.size v2 fs) (hs : szP p ≤ 1048576) (hn : fs.length ≤ 1048576) (ht : tot fs ≤ 1048576) :
    Calls Tryz.prog 53 #[v, v2] w fun e w' => e = .returned (.bool (lokB p fs)) ∧ Below w.heap.size w w' := by
  have HP := Lib.hid h
  have H2 := Lib.hid h2
  have hs' := hs
  unfold szP at hs'
  obtain ⟨a, b, rfl, hA, hR⟩ := h
  have HA := Lib.hid hA
  obtain ⟨A, c, rfl, hcA, _⟩ := hA
  obtain ⟨A2, c2, rfl, hcR, _⟩ := hR
  obtain ⟨A3, c3, rfl, hcF, _⟩ := h2
  obtain ⟨po, hpo⟩ : ∃ po, po = positive p := ⟨_, rfl⟩
  obtain ⟨fo, hfo⟩ : ∃ fo, fo = factsOk p.1 fs := ⟨_, rfl⟩
  obtain ⟨R, hRR⟩ : ∃ R, R = lokB p fs := ⟨_, rfl⟩
  have HRR := Lib.hid (show R = (po && fo) by rw [hRR, hpo, hfo]; rfl)
  rw [← hRR]
  clear hRR
  go_enter Tryz.func53, Tryz.ntmps53
  go_upto_region 1 with fail
  obtain ⟨w1, hw1⟩ : ∃ w1, w1 = w.alloc (Obj.cells #[Value.slice A p.1.length c, Value.slice A2 p.2.length c2] 35) := ⟨_, rfl⟩
  have X1 : Blk w1 w.heap.size 35 #[.slice A p.1.length c, .slice A2 p.2.length c2] := by rw [hw1]; exact Blk.new _ _ _
  have B1 : Below w.heap.size w w1 := by rw [hw1]; exact below1 _ _
  rw [← hw1]
  clear hw1
  have x0 : w1.cell? ⟨w.heap.size, 0, none⟩ = some (.slice A p.1.length c) := X1.cell 0
  have x1 : w1.cell? ⟨w.heap.size, 1, none⟩ = some (.slice A2 p.2.length c2) := X1.cell 1
  have CP := Lib.hid ((specPositive_any _ p w1 (HP.out.on B1) hs).mono fun e w' (hh : e = .returned (.bool (positive p)) ∧ Below w1.heap.size w1 w') => (⟨by rw [hh.1, hpo], hh.2⟩ : e = .returned (.bool po) ∧ Below w1.heap.size w1 w'))
  have CF := Lib.hid (fun W (hW : Below w.heap.size w W) => (specFactsOk_any _ _ p.1 fs W (HA.out.on hW) (H2.out.on hW) (by omega) (by omega) (by omega)).mono fun e w' (hh : e = .returned (.bool (factsOk p.1 fs)) ∧ Below W.heap.size W w') => (⟨by rw [hh.1, hfo], hh.2⟩ : e = .returned (.bool fo) ∧ Below W.heap.size W w'))
  have HX1 := Lib.hid X1
  clear hpo hfo X1
  cases po
  · go_wp2_with (go_at_call 87; refine CP.out.mono ?_; rintro e w2 ⟨rfl, b2⟩; have B2 := Lib.hid (bthen B1 b2); clear b2)
    go_ret
    exact ⟨ret_bool (by rw [HRR.out]; rfl), B2.out⟩
  · go_wp2_with (first
      | (go_at_call 87; refine CP.out.mono ?_; rintro e w2 ⟨rfl, b2⟩; have B2 := Lib.hid (bthen B1 b2)
         have x20 : w2.cell? ⟨w.heap.size, 0, none⟩ = some (.slice A p.1.length c) := (HX1.out.below b2 HX1.out.lt).cell 0
         clear b2)
      | (go_at_call 88; refine (CF.out _ B2.out).mono ?_; rintro e w3 ⟨rfl, b3⟩; have B3 := Lib.hid (bthen B2.out b3); clear b3))
    go_ret
    exact ⟨ret_bool (by rw [HRR.out]; rfl), B3.out⟩

/-- What growthOf hands back: a growth that has come to its end. -/
structure Grown (w : World) (g : Nat) (p : LProg) (fs : List LFact) (X : List FV) (E : List Nat) (o : Nat) (R : Nat → Value) (m : Nat) : Prop where
  at_ : GrAt w g X E o X.length R
  fit : FitL p.1 (factsX X)
  rounds : RoundsM p.2 (setOf fs) m
  now : ∀ f, f ∈ factsX X ↔ f ∈ iterL p.2 (setOf fs) m
  up : E.Pairwise (· < ·)
  len : E.length = m + 1
  ends : ∀ k, k ≤ m → E.getD k 0 ≤ X.length ∧ ∀ f, f ∈ (factsX X).take (E.getD k 0) ↔ f ∈ iterL p.2 (setOf fs) k
theorem Grown.of {w : World} {g n : Nat} {p : LProg} {fs : List LFact} {X : List FV} {L1 : List LFact} {E : List Nat} {o : Nat} {R : Nat → Value} {m : Nat} (h : GrAt w g X E o X.length R) (h1 : ∀ f, f ∈ L1 ↔ f ∈ fs) (hn : n = L1.length) (hb : GrewBy p.1 p.2 L1 [n] (factsX X) E m) : Grown w g p fs X E o R m := by
  have he : setOf L1 = setOf fs := (setOf_asc _).unique (setOf_asc _) fun f => by rw [setOf_mem, setOf_mem, h1]
  obtain ⟨M, e1, e2, e3⟩ := hb.ends
  obtain ⟨N, e4⟩ := hb.pre
  have hr := hb.rounds
  have hnow := hb.now
  rw [he] at hr hnow e3
  refine ⟨h, hb.fit, hr, hnow, hb.up, by rw [e1]; simp [e2]; (try omega), fun k hk => ?_⟩
  rcases k with _ | k
  · rw [e1]
    show n ≤ X.length ∧ ∀ f, f ∈ (factsX X).take n ↔ f ∈ setOf fs
    rw [e4, hn, List.take_left']
    · refine ⟨?_, fun f => by rw [h1, setOf_mem]⟩
      rw [← factsX_len X, e4, List.length_append]
      omega
    · rfl
  · have e5 : E.getD (k + 1) 0 = M.getD k 0 := by rw [e1]; rfl
    rw [e5]
    obtain ⟨g1, g2⟩ := e3 k (by omega)
    rw [factsX_len] at g1
    exact ⟨g1, g2⟩

set_option maxHeartbeats 4000000 in
set_option maxRecDepth 100000 in
theorem growthOf_any (v v2 : Value) (p : LProg) (fs : List LFact) (w : World) (h : RdProg w w.heap.size v p) (h2 : RdFacts w w.heap.size v2 fs) (hs : szP p ≤ 1048576) (hn : fs.length ≤ 1048576) (ht : tot fs ≤ 1048576) :
    Calls Tryz.prog 32 #[v, v2] w fun e w' => ((lokB p fs = false ∧ e = .returned (.tuple #[.pointer none, .bool false])) ∨ (lokB p fs = true ∧ ∃ g X E o R m, e = .returned (.tuple #[.pointer (some ⟨g, 0, none⟩), .bool true]) ∧ w.heap.size ≤ g ∧ Grown w' g p fs X E o R m)) ∧ Below w.heap.size w w' := by
  have HP := Lib.hid h
  have H2 := Lib.hid h2
  have hs' := hs
  unfold szP at hs'
  obtain ⟨a, b, rfl, hA, hR⟩ := h
  have HA := Lib.hid hA
  have HR := Lib.hid hR
  obtain ⟨A, c, rfl, hcA, _⟩ := hA
  obtain ⟨A2, c2, rfl, hcR, _⟩ := hR
  obtain ⟨A3, c3, rfl, hcF, _⟩ := h2
  obtain ⟨po, hpo⟩ : ∃ po, po = positive p := ⟨_, rfl⟩
  obtain ⟨fo, hfo⟩ : ∃ fo, fo = factsOk p.1 fs := ⟨_, rfl⟩
  have HRR := Lib.hid (show lokB p fs = (po && fo) by rw [hpo, hfo]; rfl)
  go_enter Tryz.func32, Tryz.ntmps32
  go_upto_region 1 with fail
  obtain ⟨w1, hw1⟩ : ∃ w1, w1 = w.alloc (Obj.cells #[Value.slice A p.1.length c, Value.slice A2 p.2.length c2] 35) := ⟨_, rfl⟩
  have X1 : Blk w1 w.heap.size 35 #[.slice A p.1.length c, .slice A2 p.2.length c2] := by rw [hw1]; exact Blk.new _ _ _
  have B1 : Below w.heap.size w w1 := by rw [hw1]; exact below1 _ _
  rw [← hw1]
  clear hw1
  have x0 : w1.cell? ⟨w.heap.size, 0, none⟩ = some (.slice A p.1.length c) := X1.cell 0
  have x1 : w1.cell? ⟨w.heap.size, 1, none⟩ = some (.slice A2 p.2.length c2) := X1.cell 1
  have CP := Lib.hid ((implPositive_any _ p w1 (HP.out.on B1) hs).mono fun e w' (hh : e = .returned (.bool (positive p)) ∧ Below w1.heap.size w1 w') => (⟨by rw [hh.1, hpo], hh.2⟩ : e = .returned (.bool po) ∧ Below w1.heap.size w1 w'))
  have CF := Lib.hid (fun W (hW : Below w.heap.size w W) => (implFactsOk_any _ _ p.1 fs W (HA.out.on hW) (H2.out.on hW) (by omega) (by omega) (by omega)).mono fun e w' (hh : e = .returned (.bool (factsOk p.1 fs)) ∧ Below W.heap.size W w') => (⟨by rw [hh.1, hfo], hh.2⟩ : e = .returned (.bool fo) ∧ Below W.heap.size W w'))
  have HX1 := Lib.hid X1
  clear hpo hfo X1
  cases po
  · go_wp2_with (go_at_call 57; refine CP.out.mono ?_; rintro e w2 ⟨rfl, b2⟩; have B2 := Lib.hid (bthen B1 b2); clear b2)
    refine bodyPost_ret (v := .tuple #[.pointer none, .bool false]) (by simp [results, Tryz.results32, go_sem]) rfl ?_
    exact ⟨.inl ⟨by rw [HRR.out]; rfl, rfl⟩, B2.out⟩
  · cases fo
    · go_wp2_with (first
        | (go_at_call 57; refine CP.out.mono ?_; rintro e w2 ⟨rfl, b2⟩; have B2 := Lib.hid (bthen B1 b2)
           have x20 : w2.cell? ⟨w.heap.size, 0, none⟩ = some (.slice A p.1.length c) := (HX1.out.below b2 HX1.out.lt).cell 0
           clear b2)
        | (go_at_call 58; refine (CF.out _ B2.out).mono ?_; rintro e w3 ⟨rfl, b3⟩; have B3 := Lib.hid (bthen B2.out b3); clear b3))
      refine bodyPost_ret (v := .tuple #[.pointer none, .bool false]) (by simp [results, Tryz.results32, go_sem]) rfl ?_
      exact ⟨.inl ⟨by rw [HRR.out]; rfl, rfl⟩, B3.out⟩
    · have hlok : lokB p fs = true := by rw [HRR.out]; rfl
      obtain ⟨har, hfit, hff, hrl⟩ := lok_parts hlok
      have HLOK := Lib.hid hlok
      have HHH := Lib.hid (And.intro har (And.intro hfit hff))
      clear hlok har hfit hff
      go_wp2_with (first
        | (go_at_call 57; refine CP.out.mono ?_; rintro e w2 ⟨rfl, b2⟩; have B2 := Lib.hid (bthen B1 b2)
           have HX2 := Lib.hid (HX1.out.below b2 HX1.out.lt)
           have x20 : w2.cell? ⟨w.heap.size, 0, none⟩ = some (.slice A p.1.length c) := HX2.out.cell 0
           clear b2)
        | (go_at_call 58; refine (CF.out _ B2.out).mono ?_; rintro e w3 ⟨rfl, b3⟩; have B3 := Lib.hid (bthen B2.out b3)
           have HX3 := Lib.hid (HX2.out.below b3 HX2.out.lt)
           clear b3
           have CG := Lib.hid (growthFrom_any p.1 HHH.out.1 (.slice A3 fs.length c3) fs w3 (H2.out.on B3.out) HHH.out.2.2 hn))
        | (go_at_call 59; refine CG.out.mono ?_; rintro e w4 ⟨X, R, rfl, g4, b4, f4, m4⟩
           have x41 : w4.cell? ⟨w.heap.size, 1, none⟩ = some (.slice A2 p.2.length c2) := (HX3.out.below b4 HX3.out.lt).cell 1
           have HG4 := Lib.hid (And.intro g4 (And.intro b4 (And.intro f4 m4)))
           have CB := Lib.hid (growBy_any w3.heap.size p.1 HHH.out.1 p.2 HHH.out.2.1 (by omega) (by omega) X [X.length] 0 R (.slice A2 p.2.length c2) w4 g4 f4 ((HR.out.on B3.out).below b4 (Nat.le_refl _)) (by simp) (by simp) (by simp) (by simp))
           clear g4 b4 f4 m4)
        | (go_at_call 60; refine CB.out.mono ?_; rintro e w5 ⟨rfl, X5, E5, o5, R5, m5, g5, k5, gr5⟩
           have HG5 := Lib.hid (And.intro g5 (And.intro k5 gr5))
           clear g5 k5 gr5))
      refine bodyPost_ret (v := .tuple #[.pointer (some ⟨w3.heap.size, 0, none⟩), .bool true]) (by simp [results, Tryz.results32, go_sem]) rfl ?_
      exact ⟨.inr ⟨HLOK.out, w3.heap.size, X5, E5, o5, R5, m5, rfl, B3.out.size, Grown.of HG5.out.1 HG4.out.2.2.2 (factsX_len X).symm HG5.out.2.2⟩, (bthen B3.out HG4.out.2.1).trans (HG5.out.2.1.below.mono B3.out.size)⟩

end Go.Proofs.YtniedmhkajnfjaaGreat
/-
  broughtIn: the facts of one round.
-/
namespace Go.Proofs.YtniedmhkajnfjaaGreat
open Go.RowKit

theorem GrAt.endsAt {w : World} {g o e : Nat} {X : List FV} {E : List Nat} {R : Nat → Value} (h : GrAt w g X E o e R) (hm : 0 < E.length) : ∃ b c, R 1 = .slice (some ⟨b, 0, none⟩) E.length c ∧ (∀ k, k < E.length → w.cell? ⟨b, k, none⟩ = some (.int .i64 ((E.getD k 0 : Nat) : Int))) ∧ E.length ≤ c := by
  have hcells := @World.ownsRow.cells w (g + 1) 3 1 _ E.length (E.map inN) h.raw.ends
  rcases h.raw.ends.2 with ⟨e1, e0⟩ | ⟨b, cap, cur, e1, hb, hg, hc, _⟩
  · omega
  · refine ⟨b, cap, e1, fun k hk => ?_, by omega⟩
    have hget : (E.map inN)[k]? = some (.int .i64 ((E.getD k 0 : Nat) : Int)) := by
      rw [List.getElem?_map, List.getElem?_eq_getElem hk]
      simp [inN, hk]
    have := hcells (g := b) (by rw [e1]; rfl) k _ hget
    rw [Go.WideShapes.add_plain, Nat.zero_add] at this
    exact this

end Go.Proofs.YtniedmhkajnfjaaGreat
/-
  Rows of lists of facts that are made at once and filled one by one.
-/
namespace Go.Proofs.YtniedmhkajnfjaaGreat
open Go.RowKit

section
variable {w w' : World} {lo hi b : Nat} {v : Value} {hv : List Value} {FF : List (List LFact)} {F : List LFact} {P Q : Nat → Nat}
theorem OwnFacts.none (w : World) (p q : Nat) : OwnFacts w p q (.slice none 0 0) [] := ⟨_, .nil, World.ownsRow_nil _ _ _ _, fun g hg => by cases hg⟩
theorem FFAt.nils {n : Nat} (h : w.ownsRow lo 37 1 v n (List.replicate n (.slice none 0 0))) (hl : ∀ g, v.ownBlock = some g → g < hi) (hlo : lo ≤ hi) :
    FFAt w lo hi v (List.replicate n (.slice none 0 0)) (List.replicate n []) (fun _ => hi) (fun _ => hi) where
  row := by rw [List.length_replicate]; exact h
  lt := hl
  own i h1 h2 := by
    rw [List.getElem_replicate, List.getElem_replicate]
    exact ⟨hlo, ⟨Nat.le_refl _, Nat.le_refl _⟩, OwnFacts.none _ _ _, fun g hg => .inl (hl g hg)⟩
  ord _ _ _ _ := Nat.le_refl _
theorem OwnFF.none (w : World) (p q : Nat) : OwnFF w p q (.slice none 0 0) [] := ⟨[], fun _ => 0, fun _ => 0, ⟨World.ownsRow_nil _ _ _ _, fun g hg => (by cases hg), fun i h1 => absurd h1 (by simp), fun i j _ h1 => absurd h1 (by simp)⟩⟩
/-- A block that lies in no list changes. -/
theorem FFAt.only (h : FFAt w lo hi v hv FF P Q) (ho : Only b (b + 1) w w') (hne : ∀ g, v.ownBlock = some g → g ≠ b) (hP : ∀ i, i < FF.length → b < P i) : FFAt w' lo hi v hv FF P Q where
  row := ownsRow_only h.row fun g hg => ho.block g (h.row.lt g hg).2 (by have := hne g hg; omega)
  lt := h.lt
  own i h1 h2 := by
    obtain ⟨g1, g2, g3, g4⟩ := h.own i h1 h2
    exact ⟨g1, g2, g3.only ho (.inr (hP i h1)), g4⟩
  ord := h.ord
/-- List j, empty as all behind it, is filled. -/
theorem FFAt.put {g c n j a m : Nat} {u : Value} (h : FFAt w lo hi (.slice (some ⟨g, 0, none⟩) n c) hv FF P Q) (hn : FF.length = n) (hj : j < n) (hz : ∀ i, j ≤ i → i < n → hv[i]? = some (.slice none 0 0) ∧ FF[i]? = some [])
    (hu : OwnFacts w a m u F) (ha : hi ≤ a) (ham : a ≤ m) (hm : m ≤ w.heap.size) :
    FFAt (w.setCell ⟨g, j, none⟩ u) lo m (.slice (some ⟨g, 0, none⟩) n c) (hv.set j u) (FF.set j F) (fun i => if i < j then P i else if i = j then a else m) (fun i => if i < j then Q i else m) := by
  subst hn
  have hlen := h.len
  have hgl : g < hi := h.lt g rfl
  have hgw := h.row.lt g rfl
  have hst := h.row.stored j u
  have keep : ∀ {p q : Nat} {x : Value} {G : List LFact}, OwnFacts w p q x G → (g < p ∨ q ≤ g) → OwnFacts (w.setCell ⟨g, j, none⟩ u) p q x G := fun {p q x G} h0 hne => by
    have ho : Only g (g + 1) w (w.setCell ⟨g, j, none⟩ u) := Only.setCell (Only.refl g (g + 1) w) (p := ⟨g, j, none⟩) ⟨Nat.le_refl g, Nat.lt_succ_self g⟩ u
    exact h0.only ho (by omega)
  refine ⟨by rw [List.length_set]; exact hst.1, fun g2 hg2 => by have := h.lt g2 hg2; omega, fun i h1 h2 => ?_, fun i k hik hk => ?_⟩
  · rw [List.length_set] at h1 h2
    obtain ⟨g1, g2, g3, g4⟩ := h.own i h1 h2
    by_cases e1 : i < j
    · simp only [if_pos e1]
      rw [List.getElem_set_ne (by omega), List.getElem_set_ne (by omega)]
      exact ⟨g1, ⟨g2.1, by omega⟩, keep g3 (by have := g4 g rfl; omega), g4⟩
    · by_cases e2 : i = j
      · subst e2
        simp only [if_neg e1, if_true]
        rw [List.getElem_set_self, List.getElem_set_self]
        exact ⟨by omega, ⟨ham, Nat.le_refl _⟩, keep hu (by omega), fun g2 hg2 => by have := h.lt g2 hg2; omega⟩
      · simp only [if_neg e1, if_neg e2]
        rw [List.getElem_set_ne (by omega), List.getElem_set_ne (by omega)]
        obtain ⟨z1, z2⟩ := hz i (by omega) h1
        rw [List.getElem?_eq_getElem h2] at z1
        rw [List.getElem?_eq_getElem h1] at z2
        injection z1 with z1
        injection z2 with z2
        rw [z1, z2]
        exact ⟨by omega, ⟨Nat.le_refl _, Nat.le_refl _⟩, OwnFacts.none _ _ _, fun g2 hg2 => by have := h.lt g2 hg2; omega⟩
  · rw [List.length_set] at hk
    by_cases e1 : k < j
    · simp only [if_pos e1, if_pos (show i < j by omega)]
      exact h.ord i k hik hk
    · by_cases e2 : i < j
      · simp only [if_pos e2, if_neg e1]
        have hi2 := (h.own i (by omega) (by omega)).2.1
        split <;> omega
      · simp only [if_neg e2, if_neg e1, if_neg (show ¬ k = j by omega)]
        omega
end
/-- The rows of the first k, and no more. -/
def firstFF (RS : List (List LFact)) (k : Nat) : List (List LFact) := RS.take k ++ List.replicate (RS.length - k) []
theorem firstFF_len (RS : List (List LFact)) {k : Nat} (h : k ≤ RS.length) : (firstFF RS k).length = RS.length := by simp [firstFF]; omega
theorem firstFF_zero (RS : List (List LFact)) : firstFF RS 0 = List.replicate RS.length [] := by simp [firstFF]
theorem firstFF_all (RS : List (List LFact)) : firstFF RS RS.length = RS := by simp [firstFF]
theorem firstFF_nil (RS : List (List LFact)) {k i : Nat} (hi : k ≤ i) (h : i < RS.length) : (firstFF RS k)[i]? = some [] := by
  unfold firstFF
  rw [List.getElem?_append_right (by simp; omega), List.getElem?_replicate, if_pos (by simp; omega)]
theorem firstFF_set (RS : List (List LFact)) {k : Nat} (h : k < RS.length) : (firstFF RS k).set k RS[k] = firstFF RS (k + 1) := by
  apply List.ext_getElem?
  intro i
  by_cases e : i = k
  · subst e
    rw [List.getElem?_set_self (by rw [firstFF_len _ (by omega)]; exact h)]
    unfold firstFF
    rw [List.getElem?_append_left (by simp; omega), List.getElem?_take_of_lt (by omega), List.getElem?_eq_getElem h]
  · rw [List.getElem?_set_ne (by omega)]
    by_cases e2 : i < k
    · unfold firstFF
      rw [List.getElem?_append_left (by simp; omega), List.getElem?_append_left (by simp; omega), List.getElem?_take_of_lt e2, List.getElem?_take_of_lt (by omega)]
    · by_cases e3 : i < RS.length
      · rw [firstFF_nil RS (by omega) e3, firstFF_nil RS (by omega) e3]
      · rw [List.getElem?_eq_none (by rw [firstFF_len _ (by omega)]; omega), List.getElem?_eq_none (by rw [firstFF_len _ (by omega)]; omega)]

end Go.Proofs.YtniedmhkajnfjaaGreat
/-
  Rounds: the program's.
-/
namespace Go.Proofs.YtniedmhkajnfjaaGreat
open Go.RowKit

def roundsL (p : LProg) (fs : List LFact) : List (List LFact) := if lokB p fs then roundsFrom p.2 (setOf fs) else []
/-- Where the facts before round k end. -/
def bndE (E : List Nat) (k : Nat) : Nat := if k = 0 then 0 else E.getD (k - 1) 0
theorem Grown.len_ {w : World} {g o m : Nat} {p : LProg} {fs : List LFact} {X : List FV} {E : List Nat} {R : Nat → Value} (h : Grown w g p fs X E o R m) (hl : lokB p fs = true) : (roundsL p fs).length = E.length ∧ E.length ≤ 2001 := by
  obtain ⟨h1, h2, h3, _⟩ := lok_parts hl
  have hm := roundsM_is h1 h2 (FitL.set h3) h.rounds
  have h4 : roundsM p.2 (setOf fs) ≤ 2000 := firstM_le p.2 (setOf fs) 2000 0
  refine ⟨?_, by rw [h.len]; omega⟩
  unfold roundsL
  rw [if_pos hl, h.len]
  simp [roundsFrom, hm]
theorem Grown.at_k {w : World} {g o m : Nat} {p : LProg} {fs : List LFact} {X : List FV} {E : List Nat} {R : Nat → Value} (h : Grown w g p fs X E o R m) (hl : lokB p fs = true) {k : Nat} (hk : k < E.length) (hk2 : k < (roundsL p fs).length) :
    bndE E k ≤ E.getD k 0 ∧ E.getD k 0 ≤ X.length ∧ bndE E (k + 1) = E.getD k 0 ∧ tabFacts (tabWith zeroT ((factsX X).take (E.getD k 0))) p.1 = (roundsL p fs)[k] := by
  obtain ⟨h1, h2, h3, _⟩ := lok_parts hl
  have hm := roundsM_is h1 h2 (FitL.set h3) h.rounds
  have hkm : k ≤ m := by have := h.len; omega
  obtain ⟨e1, e2⟩ := h.ends k hkm
  refine ⟨?_, e1, by simp [bndE], ?_⟩
  · unfold bndE
    split
    · omega
    · have hp := h.up
      have h5 := List.pairwise_iff_getElem.1 hp (k - 1) k (by omega) hk (by omega)
      simp [List.getD_eq_getElem?_getD, hk, show k - 1 < E.length by omega]
      omega
  · have ht := tabFacts_with h1 (F := (factsX X).take (E.getD k 0)) fun f hf => h.fit.fits f (List.mem_of_mem_take hf)
    have he : (roundsL p fs)[k] = iterL p.2 (setOf fs) k := by
      simp [roundsL, hl, roundsFrom]
    rw [he]
    exact ht.1.unique (iterL_asc (setOf_asc _) k) fun f => (ht.2 f).trans (e2 f)
theorem tabWith_mid {L : List LFact} {a b : Nat} (h : a ≤ b) : tabWith (tabWith zeroT (L.take a)) ((L.take b).drop a) = tabWith zeroT (L.take b) := by
  conv => rhs; rw [take_mid h]
  simp [tabWith, List.foldl_append]

end Go.Proofs.YtniedmhkajnfjaaGreat
