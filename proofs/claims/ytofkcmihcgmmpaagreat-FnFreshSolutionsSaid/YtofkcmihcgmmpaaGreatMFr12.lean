/-
  Texts that the claim's last one imports, laid together: part 12 of 13. No condition of its own.
-/
import Derived.Shelf.SlSortCmp.NoneTotal
import Derived.Laws.BitsAllLaws
import Derived.Test.YtofkcmihcgmmpaaGreatMFr1
import Derived.Test.YtofkcmihcgmmpaaGreatMFr5
import Derived.Test.YtofkcmihcgmmpaaGreatMFr6
import Derived.Test.YtofkcmihcgmmpaaGreatMFr8
import Derived.Test.YtofkcmihcgmmpaaGreatMFr10
import Derived.Test.YtofkcmihcgmmpaaGreatMFr11
/-
  Rounds that bring facts, plain mathematics: questions of all facts, ages of facts that go on growing.
-/
namespace Go.Proofs.YtofkcmihcgmmpaaGreat
open Go.RowKit

theorem agesOf_pre {L N : List LFact} {o e : Nat} (ho : o ≤ L.length) (he : e ≤ L.length) (ls : List LLit) : agesOf (L ++ N) o e ls = agesOf L o e ls := by
  unfold agesOf ageOf
  rw [List.take_append_of_le_length ho, List.take_append_of_le_length he]
/-- The questions of a body of all facts up to an end. -/
def allQ (L : List LFact) (e : Nat) (ls : List LLit) : List LQ := ls.map fun l => (l, ofP (L.take e) l.2.1)
theorem allQ_is {L : List LFact} {e : Nat} {ls : List LLit} {S : List (List Int)} (h : IsSols (allQ L e ls) S) : S.Nodup ∧ ∀ b, b ∈ S ↔ SolOf (L.take e) ls b := by
  refine ⟨h.1, fun b => ?_⟩
  rw [h.2 b]
  unfold SolOf DomL
  refine and_congr_right fun _ => and_congr ?_ ?_
  · refine forall_congr' fun v => forall_congr' fun _ => ?_
    have e1 : (∃ q ∈ allQ L e ls, (maskOf q.1.2.2).testBit v = true) ↔ ∃ l ∈ ls, (maskOf l.2.2).testBit v = true := by
      constructor
      · rintro ⟨q, hq, h⟩
        obtain ⟨l, hl, rfl⟩ := List.mem_map.1 hq
        exact ⟨l, hl, h⟩
      · rintro ⟨l, hl, h⟩
        exact ⟨_, List.mem_map.2 ⟨l, hl, rfl⟩, h⟩
    rw [e1]
  · constructor
    · intro hq l hl
      have := hq _ (List.mem_map.2 ⟨l, hl, rfl⟩)
      unfold holdsQ at this
      rw [hold_ofP] at this
      exact this
    · intro hq q hm
      obtain ⟨l, hl, rfl⟩ := List.mem_map.1 hm
      unfold holdsQ
      rw [hold_ofP]
      exact hq l hl
theorem allQ_safe {L : List LFact} {e : Nat} {ls : List LLit} (h : SafeB ls) : SafeQ (allQ L e ls) := fun q hq v hv hm => by
  obtain ⟨l, hl, rfl⟩ := List.mem_map.1 hq
  obtain ⟨l', hl', h0, hm'⟩ := h.safe l hl v hv hm
  exact ⟨_, List.mem_map.2 ⟨l', hl', rfl⟩, h0, hm'⟩
theorem tot_sub : ∀ {l m : List LFact}, l.Sublist m → tot l ≤ tot m := fun {l m} h => by
  induction h with
  | slnil => exact Nat.le_refl _
  | cons a _ ih => rw [tot_cons]; omega
  | cons_cons a _ ih => rw [tot_cons, tot_cons]; omega
theorem ofP_sub (L : List LFact) (e : Nat) (p : Int) : (ofP (L.take e) p).Sublist L := (List.filter_sublist).trans (List.take_sublist _ _)
/-- What is asked of part of few facts. -/
structure FewL (L : List LFact) : Prop where
  consts : ∀ f ∈ L, f.2.all constOk = true
  len : L.length ≤ 1048576
  tot : tot L ≤ 1048576
theorem FewL.sub {L M : List LFact} (h : FewL L) (hs : M.Sublist L) : FewL M := ⟨fun f hf => h.consts f (hs.subset hf), Nat.le_trans hs.length_le h.len, Nat.le_trans (tot_sub hs) h.tot⟩
theorem FitL.fewL {ar : List Int} {L : List LFact} (ha : arityOk ar = true) (h : FitL ar L) : FewL L := by
  have h1 := facts_few ha h.nodup h.fits
  exact ⟨h.consts, by omega, by omega⟩
theorem allQ_ok {L : List LFact} {e : Nat} {ls : List LLit} (h : SafeB ls) (hL : FewL L) (hl : totL ls ≤ 1048576) : ∀ q ∈ allQ L e ls, QOk q := fun q hq => by
  obtain ⟨l, hl', rfl⟩ := List.mem_map.1 hq
  have hk := h.kind l hl'
  have hf := hL.sub (ofP_sub L e l.2.1)
  refine ⟨by show l.1 = 0 ∨ l.1 = 1 ∨ l.1 = 2 ∨ l.1 = 3; omega, h.terms l hl', hf.consts, ?_, hf.len, hf.tot⟩
  obtain ⟨k, hk', rfl⟩ := List.getElem_of_mem hl'
  exact Nat.le_trans (len_le_totL ls k hk') hl
theorem agesOf_ok {L : List LFact} {o e : Nat} {ls : List LLit} (hL : FewL L) : ∀ a ∈ agesOf L o e ls, AgeOk a := fun a ha => by
  obtain ⟨l, hl, rfl⟩ := List.mem_map.1 ha
  have h1 := hL.sub (ofP_sub L e l.2.1)
  have h2 := hL.sub (ofP_sub L o l.2.1)
  have h3 := h1.sub (List.drop_sublist (ofP (L.take o) l.2.1).length _)
  exact ⟨h1.consts, h1.len, h1.tot, h2.consts, h2.len, h2.tot, h3.consts, h3.len, h3.tot⟩
theorem agesOf_len (L : List LFact) (o e : Nat) (ls : List LLit) : (agesOf L o e ls).length = ls.length := by simp [agesOf]
/-- A literal's predicate is one of the 24. -/
theorem lit_pred {ar : List Int} {l : LLit} (ha : arityOk ar = true) (h : litFits ar l = true) : 0 ≤ l.2.1 ∧ l.2.1 < 24 := by
  have h2 : ar.length ≤ 24 := by simp only [arityOk, Bool.and_eq_true, decide_eq_true_eq] at ha; exact ha.1
  unfold litFits at h
  split at h
  · simp only [atomFits, Bool.and_eq_true, decide_eq_true_eq] at h
    omega
  · split at h
    · simp only [Bool.and_eq_true, decide_eq_true_eq] at h
      omega
    · cases h
theorem rule_parts {ar : List Int} {r : LRule} (ha : arityOk ar = true) (h : ruleFits ar r = true) : (0 ≤ r.1.1 ∧ r.1.1 < 24) ∧ r.1.2.all termOk = true ∧ r.1.2.length ≤ 2 ∧ r.2.length ≤ 4 ∧ ∀ l ∈ r.2, 0 ≤ l.2.1 ∧ l.2.1 < 24 := by
  have h2 : ar.length ≤ 24 := by simp only [arityOk, Bool.and_eq_true, decide_eq_true_eq] at ha; exact ha.1
  simp only [ruleFits, atomFits, Bool.and_eq_true, decide_eq_true_eq] at h
  exact ⟨⟨h.1.1.1, by omega⟩, h.1.2, place_short ha h.1.1, h.2.1, fun l hl => lit_pred ha (List.all_eq_true.1 h.2.2.1 l hl)⟩
/-- A solution's head fits. -/
theorem sol_fits {ar : List Int} {r : LRule} {fs : List LFact} {b : List Int} (_ha : arityOk ar = true) (h : ruleFits ar r = true) (hf : FitL ar fs) (hb : SolOf fs r.2 b) : factFits ar (hdOf' r b) = true :=
  headsL_fits fs h _ ((headsL_sol h hf.consts hf.nodup _).2 ⟨b, hb, rfl⟩)
theorem ends_few : ∀ {E : List Nat} {m : Nat}, E.Pairwise (· < ·) → (∀ x ∈ E, x ≤ m) → E.length ≤ m + 1 := fun {E m} h hb =>
  nodup_len (m + 1) E (h.imp fun h => by omega) fun x hx => by have := hb x hx; omega

end Go.Proofs.YtofkcmihcgmmpaaGreat
/-
  allQuestions: a body asked of all facts up to the end of the latest round.
-/
namespace Go.Proofs.YtofkcmihcgmmpaaGreat
open Go.RowKit

theorem RdQs.snoc {w : World} {B : Nat} {us : List QV} {qs : List LQ} {u : QV} {q : LQ} (h : RdQs w B us qs) (h1 : RdQC w B u.1 u.2.1 u.2.2.1 u.2.2.2 q) : RdQs w B (us ++ [u]) (qs ++ [q]) := by
  refine ⟨by simp [h.1], fun k k1 k2 => ?_⟩
  by_cases e : k < us.length
  · have e' : k < qs.length := by rw [← h.1]; exact e
    rw [List.getElem_append_left e, List.getElem_append_left e']
    exact h.2 k e e'
  · have e2 : k = us.length := by simp at k1; omega
    subst e2
    have l1 := h.1
    have x1 : (us ++ [u])[us.length]'k1 = u := by simp
    have x2 : (qs ++ [q])[us.length]'k2 = q := by simp [l1]
    rw [x1, x2]
    exact h1

end Go.Proofs.YtofkcmihcgmmpaaGreat
/-
  freshQuestions: one atom is asked of new facts, those ahead of it of old ones.
-/
namespace Go.Proofs.YtofkcmihcgmmpaaGreat
open Go.RowKit

/-- A row of questions that grows by append. -/
theorem ownQ_at {w : World} {lo g c : Nat} {us : List QV} (h : w.ownsRow lo 106 4 (.slice (some ⟨g, 0, none⟩) us.length c) us.length (flatQ us)) : AtQ w g c us ∧ lo ≤ g := by
  rcases h.2 with ⟨e, _⟩ | ⟨g', cap, cur, e, hb, hg, h1, h2, h3, h4⟩
  · cases e
  · injection e with e1 e2 e3
    injection e1 with e1
    injection e1 with e1
    subst e1 e3
    exact ⟨⟨cur, hg, h1, h2, h3, h4⟩, hb⟩
/-- The relation of the loop. -/
structure QRel (w wr : World) (us : List QV) (qs : List LQ) (g c : Nat) : Prop where
  below : Below w.heap.size w wr
  row : wr.ownsRow w.heap.size 106 4 (.slice (some ⟨g, 0, none⟩) us.length c) us.length (flatQ us)
  rd : RdQs wr w.heap.size us qs
theorem QRel.on {w wr w2 : World} {us : List QV} {qs : List LQ} {g c : Nat} (h : QRel w wr us qs g c) (hb : Below wr.heap.size wr w2) : QRel w w2 us qs g c :=
  ⟨bthen h.below hb, ownsRow_only h.row fun b hb' => hb.block b (h.row.lt b hb').2, h.rd.below (hb.mono h.below.size) (Nat.le_refl _)⟩
theorem QRel.push {w wr w5 : World} {us : List QV} {qs : List LQ} {g c g2 cap : Nat} {u : QV} {q : LQ} {o : Obj} (h : QRel w wr us qs g c) (hg : (wr.alloc o).grownBy w5 (some g)) (hown : w5.ownsRow w.heap.size 106 4 (.slice (some ⟨g2, 0, none⟩) (us.length + 1) cap) (us.length + 1) (flatQ us ++ [u.1, u.2.1, u.2.2.1, u.2.2.2]))
    (hq : RdQC wr w.heap.size u.1 u.2.1 u.2.2.1 u.2.2.2 q) : QRel w w5 (us ++ [u]) (qs ++ [q]) g2 cap := by
  have hg' := grown_from_alloc hg
  have hs := h.below.size
  have hb : Below w.heap.size wr w5 := ⟨hg'.os, hg'.tape, hg'.output, hg'.size, fun k hk => hg'.block k (by omega) fun e => by
    have := (h.row.lt k (by simpa [Value.ownBlock] using e.symm)).1
    omega⟩
  refine ⟨h.below.trans hb, by rw [List.length_append, flatQ_append]; exact hown, (h.rd.below hb (Nat.le_refl _)).snoc ?_⟩
  obtain ⟨a, b, d, e⟩ := hq
  exact ⟨a, b, d.below hb (Nat.le_refl _), e.below hb (Nat.le_refl _)⟩

set_option maxHeartbeats 4000000 in
set_option maxRecDepth 100000 in
theorem freshQuestions_any (ga ca i : Nat) (ls : List LLit) (ag : List LAge) (us : List AV) (v : Value) (w : World) (h : RdLits w w.heap.size v ls) (h2 : AtA w ga ca us) (h3 : RdAges w w.heap.size us ag) (hal : ag.length = ls.length) (hi : i < ls.length) (hn : ls.length ≤ 4) :
    Calls Tryz.prog 42 #[v, .slice (some ⟨ga, 0, none⟩) ls.length ca, .int .i64 i] w fun e' w' =>
      ∃ g2 c2 us2, e' = .returned (.slice (some ⟨g2, 0, none⟩) ls.length c2) ∧ w.heap.size ≤ g2 ∧ AtQ w' g2 c2 us2 ∧ RdQs w' w.heap.size us2 (freshTo ls ag i ls.length) ∧ Below w.heap.size w w' := by
  obtain ⟨i0, hi0, hz0, hz1, hz2⟩ := info_parts Tryz.infoQuestion
  have hmk := fun W => run_make_rowN (P := Tryz.prog) 80 106 i0 (.agg #[.int .i64 0, .int .i64 0, .slice none 0 0, .slice none 0 0]) Tryz.underlying80 hi0 hz0 .i64 .i64 0 ls.length (by omega) (by rw [hz2]; omega) (by omega) W
  rw [hz1] at hmk
  simp only [Value.cells, show ((0 : Nat) : Int) = 0 from rfl] at hmk
  have HL := Lib.hid h
  have HA := Lib.hid h2
  have HR := Lib.hid h3
  have HAL := Lib.hid (And.intro hal h3.1)
  obtain ⟨A, c, rfl, hc, _⟩ := h
  obtain ⟨cs, hcs⟩ : ∃ cs, cs = madeCells #[Value.int IntKind.i64 0, Value.int IntKind.i64 0, Value.slice none 0 0, Value.slice none 0 0] (ls.length * 4) := ⟨_, rfl⟩
  have HM := Lib.hid (show QRel w (w.alloc (.cells cs 106)) [] [] w.heap.size ls.length from
    ⟨below1 _ _, World.ownsRow_made w cs ls.length (Nat.le_refl _) (by unfold maxLen; omega) (by rw [hcs]; simp [madeCells]), ⟨rfl, fun k h1 => absurd h1 (by simp)⟩⟩)
  rw [← hcs] at hmk
  clear hcs h2 h3 hal
  go_enter Tryz.func42, Tryz.ntmps42
  go_upto_region 2 with fail
  obtain ⟨w1, hw1⟩ : ∃ w1, w1 = w.alloc (Obj.cells cs 106) := ⟨_, rfl⟩
  obtain ⟨gq, hgq⟩ : ∃ gq, gq = w.heap.size := ⟨_, rfl⟩
  rw [← hw1] at HM ⊢
  rw [show (w.heap.size : Nat) = gq from hgq.symm]
  have HGQ := Lib.hid hgq
  have HM1 := Lib.hid (show QRel w w1 [] [] gq ls.length by rw [hgq]; exact HM.out)
  have hs1 : w.heap.size < w1.heap.size := by rw [hw1]; simp
  clear hw1 hgq hmk HM
  obtain ⟨l, hle⟩ : ∃ l, l = litD ls i := ⟨_, rfl⟩
  have hli : l = ls[i] := by rw [hle, litD_lt hi]
  obtain ⟨b, o3, u0, u1, u2, rfl, hbB, k0, k1, k2, rfl, rfl, p3⟩ := HL.out.get hi
  obtain ⟨A4, c4, rfl, hc4, _⟩ := id p3
  rw [← hli] at k0 k1 k2 hc4 p3
  have HLE := Lib.hid hle
  have HP3 := Lib.hid p3
  have hui : i < us.length := by rw [HAL.out.2, HAL.out.1]; exact hi
  have hai : i < ag.length := by rw [HAL.out.1]; exact hi
  have k3 := (HA.out.cells hui).2.2
  have hf3 := (HR.out.2 i hui hai).2.2
  rw [← ageD_lt hai] at hf3
  obtain ⟨A5, c5, e5, _, _⟩ := id hf3
  rw [e5] at k3 hf3
  have HF3 := Lib.hid hf3
  have hga : ga < w.heap.size := HA.out.lt
  clear hle hli p3 hf3 e5
  refine wp_region_rel (fun W => Below w.heap.size w W) 13 14 (by kernel_rfl) rfl ?_
  obtain ⟨wy, hwy⟩ : ∃ wy, wy = w1.drew := ⟨_, rfl⟩
  have HQ := Lib.hid (show QRel w wy [] [] gq ls.length by rw [hwy]; exact HM1.out.on (Below.refl _ _).drew)
  rw [← hwy]
  clear hwy
  obtain ⟨SS, hSS⟩ : ∃ SS : World → Prop, SS = (fun W => Below w.heap.size w W) := ⟨_, rfl⟩
  rw [← hSS]
  have HB := Lib.hid (show ∀ W, SS W → (W.cell? ⟨b, o3 + i * 3, none⟩ = some (.int .i64 l.1) ∧ W.cell? ⟨b, o3 + i * 3 + 1, none⟩ = some (.int .i64 l.2.1) ∧ W.cell? ⟨b, o3 + i * 3 + 2, none⟩ = some (.slice A4 l.2.2.length c4) ∧ W.cell? ⟨ga, i * 3 + 2, none⟩ = some (.slice A5 (ageD ag i).2.2.length c5)) from by
    rw [hSS]
    intro W hW
    exact ⟨(hW.cell (p := ⟨b, o3 + i * 3, none⟩) hbB).trans k0, (hW.cell (p := ⟨b, o3 + i * 3 + 1, none⟩) hbB).trans k1, (hW.cell (p := ⟨b, o3 + i * 3 + 2, none⟩) hbB).trans k2, (hW.cell (p := ⟨ga, i * 3 + 2, none⟩) hga).trans k3⟩)
  have HS := Lib.hid (show ∀ W, Below w.heap.size w W → SS W from by rw [hSS]; exact fun W hW => hW)
  have SB : SS wy := HS.out wy HQ.out.below
  clear hSS k0 k1 k2 k3
  refine wpAnyR_pure (i := 0) (oi := _) ?va0 rfl rfl (by kernel_rfl) (by decide) (fun _ _ _ h => h) rfl ?hya0 (fun _ => SB) ?resta0
  case hya0 => (intro W; go_simp; (try with_reducible rfl))
  try simp only [List.setIfInBounds_toArray, List.set_cons_zero, List.set_cons_succ]
  refine wpAnyR_pure (i := 1) (oi := _) ?va1 rfl rfl (by kernel_rfl) (by decide) (fun _ _ _ h => h) rfl ?hya1 (fun _ => SB) ?resta1
  case hya1 => (intro W; go_simp; (try with_reducible rfl))
  try simp only [List.setIfInBounds_toArray, List.set_cons_zero, List.set_cons_succ]
  refine wpAnyR_pure (i := 2) (oi := _) ?va2 rfl rfl (by kernel_rfl) (by decide) (fun _ _ _ h => h) rfl ?hya2 (fun _ => SB) ?resta2
  case hya2 => (intro W; go_simp; (try with_reducible rfl))
  try simp only [List.setIfInBounds_toArray, List.set_cons_zero, List.set_cons_succ]
  refine wpAnyR_pure (i := 3) (oi := _) ?va3 rfl rfl (by kernel_rfl) (by decide) (fun _ _ _ h => h) rfl ?hya3 (fun _ => SB) ?resta3
  case hya3 => (intro W; go_simp; (try with_reducible rfl))
  try simp only [List.setIfInBounds_toArray, List.set_cons_zero, List.set_cons_succ]
  refine wpAnyR_take (i := 4) (oi := _) ?va4 rfl rfl (by kernel_rfl) (fun _ _ _ h => h) rfl ?hya4 SB ?resta4
  case hya4 => (intro W hW; obtain ⟨E0, E1, E2, E3⟩ := HB.out W hW; go_simp; (try with_reducible rfl))
  try simp only [List.setIfInBounds_toArray, List.set_cons_zero, List.set_cons_succ]
  refine wpAnyR_pure (i := 5) (oi := _) ?va5 rfl rfl (by kernel_rfl) (by decide) (fun _ _ _ h => h) rfl ?hya5 (fun _ => SB) ?resta5
  case hya5 => (intro W; go_simp; (try with_reducible rfl))
  try simp only [List.setIfInBounds_toArray, List.set_cons_zero, List.set_cons_succ]
  refine wpAnyR_pure (i := 6) (oi := _) ?va6 rfl rfl (by kernel_rfl) (by decide) (fun _ _ _ h => h) rfl ?hya6 (fun _ => SB) ?resta6
  case hya6 => (intro W; go_simp; (try with_reducible rfl))
  try simp only [List.setIfInBounds_toArray, List.set_cons_zero, List.set_cons_succ]
  refine wpAnyR_pure (i := 7) (oi := _) ?va7 rfl rfl (by kernel_rfl) (by decide) (fun _ _ _ h => h) rfl ?hya7 (fun _ => SB) ?resta7
  case hya7 => (intro W; go_simp; (try with_reducible rfl))
  try simp only [List.setIfInBounds_toArray, List.set_cons_zero, List.set_cons_succ]
  refine wpAnyR_pure (i := 8) (oi := _) ?va8 rfl rfl (by kernel_rfl) (by decide) (fun _ _ _ h => h) rfl ?hya8 (fun _ => SB) ?resta8
  case hya8 => (intro W; go_simp; (try with_reducible rfl))
  try simp only [List.setIfInBounds_toArray, List.set_cons_zero, List.set_cons_succ]
  refine wpAnyR_take (i := 9) (oi := _) ?va9 rfl rfl (by kernel_rfl) (fun _ _ _ h => h) rfl ?hya9 SB ?resta9
  case hya9 => (intro W hW; obtain ⟨E0, E1, E2, E3⟩ := HB.out W hW; go_simp; (try with_reducible rfl))
  try simp only [List.setIfInBounds_toArray, List.set_cons_zero, List.set_cons_succ]
  refine wpAnyR_pure (i := 10) (oi := _) ?va10 rfl rfl (by kernel_rfl) (by decide) (fun _ _ _ h => h) rfl ?hya10 (fun _ => SB) ?resta10
  case hya10 => (intro W; go_simp; (try with_reducible rfl))
  try simp only [List.setIfInBounds_toArray, List.set_cons_zero, List.set_cons_succ]
  refine wpAnyR_one (i := 11) (by kernel_rfl) rfl (fun K hK => ?_)
  try rw [if_pos (show Region.wanted _ _ = true from rfl)]
  go_simp
  have S6 : SS _ := HS.out (wy.alloc (Obj.cells #[Value.int IntKind.i64 l.1, Value.int IntKind.i64 l.2.1, Value.slice A4 l.2.2.length c4, Value.slice A5 (ageD ag i).2.2.length c5] 106)) (HQ.out.below.trans ((below1 wy _).mono HQ.out.below.size))
  refine hK.out _ _ (fun _ => S6) ?_
  clear hK K
  try simp only [List.setIfInBounds_toArray, List.set_cons_zero, List.set_cons_succ, Act.put]
  refine wpAnyR_one (i := 12) (by kernel_rfl) rfl (fun K hK => ?_)
  refine step_append_lies _ rfl (.tmp 13) (.tmp 24) 80 rfl w.heap.size 106 i0 (.agg #[.int .i64 0, .int .i64 0, .slice none 0 0, .slice none 0 0]) 4 64 Tryz.underlying80 hi0 hz0 hz1 hz2 rfl (by decide) (.slice (some ⟨gq, 0, none⟩) 0 ls.length) 0 [] rfl ?c1 ⟨wy.heap.size, 0, none⟩ 1 1 [.int .i64 l.1, .int .i64 l.2.1, .slice A4 l.2.2.length c4, .slice A5 (ageD ag i).2.2.length c5] rfl rfl ?c4 ?c2 (by omega) (by unfold maxLen; omega) (by omega) ?c3 _ rfl ?c5
  case c1 => exact HQ.out.row.alloc _
  case c4 => exact World.news_of_block (cs := #[.int .i64 l.1, .int .i64 l.2.1, .slice A4 l.2.2.length c4, .slice A5 (ageD ag i).2.2.length c5]) (heap_alloc_new wy _)
  case c2 => intro u hu; simp at hu; rcases hu with rfl | rfl | rfl | rfl <;> rfl
  case c3 => have := HQ.out.below.size; simp; omega
  case c5 =>
  intro g2 cap w5 hown hgr hat _
  have HQ5 := Lib.hid (show QRel w w5 [(.int .i64 l.1, .int .i64 l.2.1, .slice A4 l.2.2.length c4, .slice A5 (ageD ag i).2.2.length c5)] (freshTo ls ag i 0) g2 cap from by
    rw [freshTo_zero, ← HLE.out]
    exact HQ.out.push (u := (.int .i64 l.1, .int .i64 l.2.1, .slice A4 l.2.2.length c4, .slice A5 (ageD ag i).2.2.length c5)) hgr hown ⟨rfl, rfl, HP3.out.below HQ.out.below (Nat.le_refl _), HF3.out.below HQ.out.below (Nat.le_refl _)⟩)
  have S5 : SS w5 := HS.out w5 HQ5.out.below
  clear hown hgr hat
  refine hK.out _ _ (fun _ => S5) ?_
  clear hK K
  try simp only [List.setIfInBounds_toArray, List.set_cons_zero, List.set_cons_succ, Act.put]
  refine wpAnyR_one (i := 13) (by kernel_rfl) rfl (fun K hK => ?_)
  go_simp
  refine hK.out _ _ (fun hf => absurd hf (by decide)) ?_
  clear hK K
  refine wpAnyR_done (by kernel_rfl) ?_
  clear S5 S6 SB HB HS
  go_wp2_with fail
  go_loopw [7, 28] (fun q x wr => ∃ (k : Nat) (us2 : List QV) (g2 c2 : Nat), k ≤ ls.length ∧ x = .int .i64 k ∧ q = .slice (some ⟨g2, 0, none⟩) us2.length c2 ∧ us2.length ≤ 5 ∧ QRel w wr us2 (freshTo ls ag i k) g2 c2) (fun _ x _ => ls.length - (intOf x).toNat)
  case atStart => exact ⟨0, _, g2, cap, Nat.zero_le _, rfl, rfl, by simp, HQ5.out⟩
  case round =>
    obtain ⟨k, us2, g3, c3, hk, rfl, rfl, hu5, hq⟩ := hrel
    have HQR := Lib.hid hq
    by_cases hlt : k < ls.length
    · obtain ⟨l, hle⟩ : ∃ l, l = litD ls k := ⟨_, rfl⟩
      have hli : l = ls[k] := by rw [hle, litD_lt hlt]
      obtain ⟨b', o', u0, u1, u2, e1, hbB', k0', k1', k2', rfl, rfl, p3⟩ := HL.out.get hlt
      injection e1 with e1
      injection e1 with e1 e2 _
      subst e1 e2
      obtain ⟨A4, c4, rfl, hc4, _⟩ := id p3
      rw [← hli] at k0' k1' k2' hc4 p3
      have k0 := (hq.below.cell (p := ⟨b, o3 + k * 3, none⟩) hbB).trans k0'
      have k1 := (hq.below.cell (p := ⟨b, o3 + k * 3 + 1, none⟩) hbB).trans k1'
      have k2 := (hq.below.cell (p := ⟨b, o3 + k * 3 + 2, none⟩) hbB).trans k2'
      have HLE := Lib.hid hle
      have HP3 := Lib.hid p3
      obtain ⟨bx, hbx⟩ : ∃ bx, bx = wr.heap.size := ⟨_, rfl⟩
      have HBX := Lib.hid hbx
      clear hle hli p3 hq k0' k1' k2' hbx
      by_cases hki : k = i
      · have hbt : ((k : Int) == (i : Int)) = true := by simp [hki]
        have HFT := Lib.hid (show freshTo ls ag i (k + 1) = freshTo ls ag i k by rw [hki]; exact freshTo_same ls ag i)
        clear hki
        go_wp2_with fail
        go_roundw
        case rel => exact ⟨k + 1, us2, g3, c3, by omega, by go_num, rfl, hu5, by rw [HFT.out]; exact HQR.out.on (below1 _ _)⟩
        case measure => simp [intOf]; omega
      have hbf : ((k : Int) == (i : Int)) = false := by simp; omega
      by_cases hcond : k < i ∧ l.1 = 0
      · obtain ⟨hc1, hc2⟩ := hcond
        have hd1 : decide (k < i) = true := decide_eq_true hc1
        have hd2 : decide ((k : Int) < (i : Int)) = true := by simpa using hc1
        have hk0 : (l.1 == 0) = true := by simpa using hc2
        have HC2 := Lib.hid hc2
        clear hc2
        have huk : k < us.length := by rw [HAL.out.2, HAL.out.1]; exact hlt
        have hak : k < ag.length := by rw [HAL.out.1]; exact hlt
        have k3 := (HA.out.cells huk).2.1
        have hf3 := (HR.out.2 k huk hak).2.1
        rw [← ageD_lt hak] at hf3
        obtain ⟨A5, c5, e5, _, _⟩ := id hf3
        rw [e5] at k3 hf3
        have HF3 := Lib.hid hf3
        have HK3 := Lib.hid k3
        have HFT := Lib.hid (show freshTo ls ag i (k + 1) = freshTo ls ag i k ++ [(l, (ageD ag k).2.1)] by
          rw [freshTo_snoc ls ag hki]
          unfold qAt
          rw [← HLE.out, if_pos (show k < i ∧ l.1 = 0 from ⟨hc1, HC2.out⟩)])
        clear hf3 e5 k3
        go_upto_region 9 with fail
        obtain ⟨w2, hw2⟩ : ∃ w2, w2 = wr.alloc (Obj.cells #[Value.int IntKind.i64 l.1, Value.int IntKind.i64 l.2.1, Value.slice A4 l.2.2.length c4] 38) := ⟨_, rfl⟩
        have b2 : Below wr.heap.size wr w2 := by rw [hw2]; exact below1 _ _
        have y2 : Blk w2 bx 38 #[.int .i64 l.1, .int .i64 l.2.1, .slice A4 l.2.2.length c4] := by rw [hw2, HBX.out]; exact Blk.new _ _ _
        rw [← hw2]
        rw [show (wr.heap.size : Nat) = bx from HBX.out.symm]
        clear hw2 k0 k1 k2
        refine wp_region_rel (fun W => Below w.heap.size w W ∧ W.cell? ⟨bx, 0, none⟩ = some (.int .i64 l.1) ∧ W.cell? ⟨bx, 1, none⟩ = some (.int .i64 l.2.1) ∧ W.cell? ⟨bx, 2, none⟩ = some (.slice A4 l.2.2.length c4)) 10 11 (by kernel_rfl) rfl ?_
        obtain ⟨wy, hwy⟩ : ∃ wy, wy = w2.drew := ⟨_, rfl⟩
        have HQ := Lib.hid (show QRel w wy us2 (freshTo ls ag i k) g3 c3 by rw [hwy]; exact HQR.out.on b2.drew)
        have HY := Lib.hid (show Blk wy bx 38 #[.int .i64 l.1, .int .i64 l.2.1, .slice A4 l.2.2.length c4] by rw [hwy]; exact y2)
        have HRB := Lib.hid (show g3 < bx ∧ bx < wy.heap.size from ⟨by rw [HBX.out]; exact (HQR.out.row.lt g3 rfl).2, HY.out.lt⟩)
        rw [← hwy]
        clear hwy b2 y2
        obtain ⟨SS, hSS⟩ : ∃ SS : World → Prop, SS = (fun W => Below w.heap.size w W ∧ W.cell? ⟨bx, 0, none⟩ = some (.int .i64 l.1) ∧ W.cell? ⟨bx, 1, none⟩ = some (.int .i64 l.2.1) ∧ W.cell? ⟨bx, 2, none⟩ = some (.slice A4 l.2.2.length c4)) := ⟨_, rfl⟩
        rw [← hSS]
        have HB := Lib.hid (show ∀ W, SS W → (W.cell? ⟨bx, 0, none⟩ = some (.int .i64 l.1) ∧ W.cell? ⟨bx, 1, none⟩ = some (.int .i64 l.2.1) ∧ W.cell? ⟨bx, 2, none⟩ = some (.slice A4 l.2.2.length c4) ∧ W.cell? ⟨ga, k * 3 + 1, none⟩ = some (.slice A5 (ageD ag k).2.1.length c5)) from by
          rw [hSS]
          intro W hW
          exact ⟨hW.2.1, hW.2.2.1, hW.2.2.2, (hW.1.cell (p := ⟨ga, k * 3 + 1, none⟩) hga).trans HK3.out⟩)
        have HS := Lib.hid (show ∀ W : World, Below w.heap.size w W → W.heap[bx]? = wy.heap[bx]? → SS W from by
          rw [hSS]
          intro W hW hx
          have hy : Blk W bx 38 #[.int .i64 l.1, .int .i64 l.2.1, .slice A4 l.2.2.length c4] := hx.trans HY.out
          exact ⟨hW, hy.cell 0, hy.cell 1, hy.cell 2⟩)
        have SB : SS wy := HS.out wy HQ.out.below rfl
        clear hSS
        refine wpAnyR_pure (i := 0) (oi := _) ?vb0 rfl rfl (by kernel_rfl) (by decide) (fun _ _ _ h => h) rfl ?hyb0 (fun _ => SB) ?restb0
        case hyb0 => (intro W; go_simp; (try with_reducible rfl))
        try simp only [List.setIfInBounds_toArray, List.set_cons_zero, List.set_cons_succ]
        refine wpAnyR_take (i := 1) (oi := _) ?vb1 rfl rfl (by kernel_rfl) (fun _ _ _ h => h) rfl ?hyb1 SB ?restb1
        case hyb1 => (intro W hW; obtain ⟨E0, E1, E2, E3⟩ := HB.out W hW; go_simp; (try with_reducible rfl))
        try simp only [List.setIfInBounds_toArray, List.set_cons_zero, List.set_cons_succ]
        refine wpAnyR_pure (i := 2) (oi := _) ?vb2 rfl rfl (by kernel_rfl) (by decide) (fun _ _ _ h => h) rfl ?hyb2 (fun _ => SB) ?restb2
        case hyb2 => (intro W; go_simp; (try with_reducible rfl))
        try simp only [List.setIfInBounds_toArray, List.set_cons_zero, List.set_cons_succ]
        refine wpAnyR_pure (i := 3) (oi := _) ?vb3 rfl rfl (by kernel_rfl) (by decide) (fun _ _ _ h => h) rfl ?hyb3 (fun _ => SB) ?restb3
        case hyb3 => (intro W; go_simp; (try with_reducible rfl))
        try simp only [List.setIfInBounds_toArray, List.set_cons_zero, List.set_cons_succ]
        refine wpAnyR_pure (i := 4) (oi := _) ?vb4 rfl rfl (by kernel_rfl) (by decide) (fun _ _ _ h => h) rfl ?hyb4 (fun _ => SB) ?restb4
        case hyb4 => (intro W; go_simp; (try with_reducible rfl))
        try simp only [List.setIfInBounds_toArray, List.set_cons_zero, List.set_cons_succ]
        refine wpAnyR_pure (i := 5) (oi := _) ?vb5 rfl rfl (by kernel_rfl) (by decide) (fun _ _ _ h => h) rfl ?hyb5 (fun _ => SB) ?restb5
        case hyb5 => (intro W; go_simp; (try with_reducible rfl))
        try simp only [List.setIfInBounds_toArray, List.set_cons_zero, List.set_cons_succ]
        refine wpAnyR_take (i := 6) (oi := _) ?vb6 rfl rfl (by kernel_rfl) (fun _ _ _ h => h) rfl ?hyb6 SB ?restb6
        case hyb6 => (intro W hW; obtain ⟨E0, E1, E2, E3⟩ := HB.out W hW; go_simp; (try with_reducible rfl))
        try simp only [List.setIfInBounds_toArray, List.set_cons_zero, List.set_cons_succ]
        refine wpAnyR_pure (i := 7) (oi := _) ?vb7 rfl rfl (by kernel_rfl) (by decide) (fun _ _ _ h => h) rfl ?hyb7 (fun _ => SB) ?restb7
        case hyb7 => (intro W; go_simp; (try with_reducible rfl))
        try simp only [List.setIfInBounds_toArray, List.set_cons_zero, List.set_cons_succ]
        refine wpAnyR_one (i := 8) (by kernel_rfl) rfl (fun K hK => ?_)
        try rw [if_pos (show Region.wanted _ _ = true from rfl)]
        go_simp
        have S6 : SS _ := HS.out (wy.alloc (Obj.cells #[Value.int IntKind.i64 l.1, Value.int IntKind.i64 l.2.1, Value.slice A4 l.2.2.length c4, Value.slice A5 (ageD ag k).2.1.length c5] 106)) (HQ.out.below.trans ((below1 wy _).mono HQ.out.below.size)) (Below.heap_alloc _ _ _ HRB.out.2)
        refine hK.out _ _ (fun _ => S6) ?_
        clear hK K
        try simp only [List.setIfInBounds_toArray, List.set_cons_zero, List.set_cons_succ, Act.put]
        refine wpAnyR_one (i := 9) (by kernel_rfl) rfl (fun K hK => ?_)
        refine step_append_lies _ rfl (.tmp 56) (.tmp 64) 80 rfl w.heap.size 106 i0 (.agg #[.int .i64 0, .int .i64 0, .slice none 0 0, .slice none 0 0]) 4 64 Tryz.underlying80 hi0 hz0 hz1 hz2 rfl (by decide) (.slice (some ⟨g3, 0, none⟩) us2.length c3) us2.length (flatQ us2) rfl ?bc1 ⟨wy.heap.size, 0, none⟩ 1 1 [.int .i64 l.1, .int .i64 l.2.1, .slice A4 l.2.2.length c4, .slice A5 (ageD ag k).2.1.length c5] rfl rfl ?bc4 ?bc2 (by omega) (by unfold maxLen; omega) (by omega) ?bc3 _ rfl ?bc5
        case bc1 => exact HQ.out.row.alloc _
        case bc4 => exact World.news_of_block (cs := #[.int .i64 l.1, .int .i64 l.2.1, .slice A4 l.2.2.length c4, .slice A5 (ageD ag k).2.1.length c5]) (heap_alloc_new wy _)
        case bc2 => intro u hu; simp at hu; rcases hu with rfl | rfl | rfl | rfl <;> rfl
        case bc3 => have := HQ.out.below.size; simp; omega
        case bc5 =>
        intro g2 cap w5 hown hgr hat _
        have HQ5 := Lib.hid (show QRel w w5 (us2 ++ [(.int .i64 l.1, .int .i64 l.2.1, .slice A4 l.2.2.length c4, .slice A5 (ageD ag k).2.1.length c5)]) (freshTo ls ag i (k + 1)) g2 cap from by
          rw [HFT.out]
          exact HQ.out.push (u := (.int .i64 l.1, .int .i64 l.2.1, .slice A4 l.2.2.length c4, .slice A5 (ageD ag k).2.1.length c5)) hgr hown ⟨rfl, rfl, HP3.out.below (HQ.out.below) (Nat.le_refl _), HF3.out.below HQ.out.below (Nat.le_refl _)⟩)
        have S5 : SS w5 := HS.out w5 HQ5.out.below ((grown_from_alloc hgr).block bx HRB.out.2 fun e => by have := HRB.out.1; simp [Value.ownBlock] at e; omega)
        clear hown hgr hat
        refine hK.out _ _ (fun _ => S5) ?_
        clear hK K
        try simp only [List.setIfInBounds_toArray, List.set_cons_zero, List.set_cons_succ, Act.put]
        refine wpAnyR_one (i := 10) (by kernel_rfl) rfl (fun K hK => ?_)
        go_simp
        refine hK.out _ _ (fun hf => absurd hf (by decide)) ?_
        clear hK K
        refine wpAnyR_done (by kernel_rfl) ?_
        clear S5 S6 SB HB HS
        go_wp2_with fail
        go_roundw
        case rel => exact ⟨k + 1, us2 ++ [(.int .i64 l.1, .int .i64 l.2.1, .slice A4 l.2.2.length c4, .slice A5 (ageD ag k).2.1.length c5)], g2, cap, by omega, by go_num, by simp, by have := (freshTo_len ls ag i k).1; have := HQR.out.rd.1; simp; omega, HQ5.out⟩
        case measure => simp [intOf]; omega
      · have HNC := Lib.hid hcond
        have hd : (k < i ∧ decide (k < i) = true ∧ decide ((k : Int) < (i : Int)) = true ∧ (l.1 == 0) = false) ∨ (¬ k < i ∧ decide (k < i) = false ∧ decide ((k : Int) < (i : Int)) = false) := by
          by_cases e : k < i
          · exact .inl ⟨e, decide_eq_true e, by simpa using e, by simpa using fun e2 => hcond ⟨e, e2⟩⟩
          · exact .inr ⟨e, decide_eq_false e, by simpa using e⟩
        clear hcond
        rcases hd with ⟨hx1, hx2, hx3, hx4⟩ | ⟨hx1, hx2, hx3⟩
        · have huk : k < us.length := by rw [HAL.out.2, HAL.out.1]; exact hlt
          have hak : k < ag.length := by rw [HAL.out.1]; exact hlt
          have k3 := (HA.out.cells huk).1
          have hf3 := (HR.out.2 k huk hak).1
          rw [← ageD_lt hak] at hf3
          obtain ⟨A5, c5, e5, _, _⟩ := id hf3
          rw [e5] at k3 hf3
          have HF3 := Lib.hid hf3
          have HK3 := Lib.hid k3
          have HFT := Lib.hid (show freshTo ls ag i (k + 1) = freshTo ls ag i k ++ [(l, (ageD ag k).1)] by
            rw [freshTo_snoc ls ag hki]
            unfold qAt
            rw [← HLE.out, if_neg (show ¬ (k < i ∧ l.1 = 0) from HNC.out)])
          clear hf3 e5 k3
          go_upto_region 6 with fail
          obtain ⟨w2, hw2⟩ : ∃ w2, w2 = wr.alloc (Obj.cells #[Value.int IntKind.i64 l.1, Value.int IntKind.i64 l.2.1, Value.slice A4 l.2.2.length c4] 38) := ⟨_, rfl⟩
          have b2 : Below wr.heap.size wr w2 := by rw [hw2]; exact below1 _ _
          have y2 : Blk w2 bx 38 #[.int .i64 l.1, .int .i64 l.2.1, .slice A4 l.2.2.length c4] := by rw [hw2, HBX.out]; exact Blk.new _ _ _
          rw [← hw2]
          rw [show (wr.heap.size : Nat) = bx from HBX.out.symm]
          clear hw2 k0 k1 k2
          refine wp_region_rel (fun W => Below w.heap.size w W ∧ W.cell? ⟨bx, 0, none⟩ = some (.int .i64 l.1) ∧ W.cell? ⟨bx, 1, none⟩ = some (.int .i64 l.2.1) ∧ W.cell? ⟨bx, 2, none⟩ = some (.slice A4 l.2.2.length c4)) 10 11 (by kernel_rfl) rfl ?_
          obtain ⟨wy, hwy⟩ : ∃ wy, wy = w2.drew := ⟨_, rfl⟩
          have HQ := Lib.hid (show QRel w wy us2 (freshTo ls ag i k) g3 c3 by rw [hwy]; exact HQR.out.on b2.drew)
          have HY := Lib.hid (show Blk wy bx 38 #[.int .i64 l.1, .int .i64 l.2.1, .slice A4 l.2.2.length c4] by rw [hwy]; exact y2)
          have HRB := Lib.hid (show g3 < bx ∧ bx < wy.heap.size from ⟨by rw [HBX.out]; exact (HQR.out.row.lt g3 rfl).2, HY.out.lt⟩)
          rw [← hwy]
          clear hwy b2 y2
          obtain ⟨SS, hSS⟩ : ∃ SS : World → Prop, SS = (fun W => Below w.heap.size w W ∧ W.cell? ⟨bx, 0, none⟩ = some (.int .i64 l.1) ∧ W.cell? ⟨bx, 1, none⟩ = some (.int .i64 l.2.1) ∧ W.cell? ⟨bx, 2, none⟩ = some (.slice A4 l.2.2.length c4)) := ⟨_, rfl⟩
          rw [← hSS]
          have HB := Lib.hid (show ∀ W, SS W → (W.cell? ⟨bx, 0, none⟩ = some (.int .i64 l.1) ∧ W.cell? ⟨bx, 1, none⟩ = some (.int .i64 l.2.1) ∧ W.cell? ⟨bx, 2, none⟩ = some (.slice A4 l.2.2.length c4) ∧ W.cell? ⟨ga, k * 3, none⟩ = some (.slice A5 (ageD ag k).1.length c5)) from by
            rw [hSS]
            intro W hW
            exact ⟨hW.2.1, hW.2.2.1, hW.2.2.2, (hW.1.cell (p := ⟨ga, k * 3, none⟩) hga).trans HK3.out⟩)
          have HS := Lib.hid (show ∀ W : World, Below w.heap.size w W → W.heap[bx]? = wy.heap[bx]? → SS W from by
            rw [hSS]
            intro W hW hx
            have hy : Blk W bx 38 #[.int .i64 l.1, .int .i64 l.2.1, .slice A4 l.2.2.length c4] := hx.trans HY.out
            exact ⟨hW, hy.cell 0, hy.cell 1, hy.cell 2⟩)
          have SB : SS wy := HS.out wy HQ.out.below rfl
          clear hSS
          refine wpAnyR_pure (i := 0) (oi := _) ?vd0 rfl rfl (by kernel_rfl) (by decide) (fun _ _ _ h => h) rfl ?hyd0 (fun _ => SB) ?restd0
          case hyd0 => (intro W; go_simp; (try with_reducible rfl))
          try simp only [List.setIfInBounds_toArray, List.set_cons_zero, List.set_cons_succ]
          refine wpAnyR_take (i := 1) (oi := _) ?vd1 rfl rfl (by kernel_rfl) (fun _ _ _ h => h) rfl ?hyd1 SB ?restd1
          case hyd1 => (intro W hW; obtain ⟨E0, E1, E2, E3⟩ := HB.out W hW; go_simp; (try with_reducible rfl))
          try simp only [List.setIfInBounds_toArray, List.set_cons_zero, List.set_cons_succ]
          refine wpAnyR_pure (i := 2) (oi := _) ?vd2 rfl rfl (by kernel_rfl) (by decide) (fun _ _ _ h => h) rfl ?hyd2 (fun _ => SB) ?restd2
          case hyd2 => (intro W; go_simp; (try with_reducible rfl))
          try simp only [List.setIfInBounds_toArray, List.set_cons_zero, List.set_cons_succ]
          refine wpAnyR_pure (i := 3) (oi := _) ?vd3 rfl rfl (by kernel_rfl) (by decide) (fun _ _ _ h => h) rfl ?hyd3 (fun _ => SB) ?restd3
          case hyd3 => (intro W; go_simp; (try with_reducible rfl))
          try simp only [List.setIfInBounds_toArray, List.set_cons_zero, List.set_cons_succ]
          refine wpAnyR_pure (i := 4) (oi := _) ?vd4 rfl rfl (by kernel_rfl) (by decide) (fun _ _ _ h => h) rfl ?hyd4 (fun _ => SB) ?restd4
          case hyd4 => (intro W; go_simp; (try with_reducible rfl))
          try simp only [List.setIfInBounds_toArray, List.set_cons_zero, List.set_cons_succ]
          refine wpAnyR_pure (i := 5) (oi := _) ?vd5 rfl rfl (by kernel_rfl) (by decide) (fun _ _ _ h => h) rfl ?hyd5 (fun _ => SB) ?restd5
          case hyd5 => (intro W; go_simp; (try with_reducible rfl))
          try simp only [List.setIfInBounds_toArray, List.set_cons_zero, List.set_cons_succ]
          refine wpAnyR_take (i := 6) (oi := _) ?vd6 rfl rfl (by kernel_rfl) (fun _ _ _ h => h) rfl ?hyd6 SB ?restd6
          case hyd6 => (intro W hW; obtain ⟨E0, E1, E2, E3⟩ := HB.out W hW; go_simp; (try with_reducible rfl))
          try simp only [List.setIfInBounds_toArray, List.set_cons_zero, List.set_cons_succ]
          refine wpAnyR_pure (i := 7) (oi := _) ?vd7 rfl rfl (by kernel_rfl) (by decide) (fun _ _ _ h => h) rfl ?hyd7 (fun _ => SB) ?restd7
          case hyd7 => (intro W; go_simp; (try with_reducible rfl))
          try simp only [List.setIfInBounds_toArray, List.set_cons_zero, List.set_cons_succ]
          refine wpAnyR_one (i := 8) (by kernel_rfl) rfl (fun K hK => ?_)
          try rw [if_pos (show Region.wanted _ _ = true from rfl)]
          go_simp
          have S6 : SS _ := HS.out (wy.alloc (Obj.cells #[Value.int IntKind.i64 l.1, Value.int IntKind.i64 l.2.1, Value.slice A4 l.2.2.length c4, Value.slice A5 (ageD ag k).1.length c5] 106)) (HQ.out.below.trans ((below1 wy _).mono HQ.out.below.size)) (Below.heap_alloc _ _ _ HRB.out.2)
          refine hK.out _ _ (fun _ => S6) ?_
          clear hK K
          try simp only [List.setIfInBounds_toArray, List.set_cons_zero, List.set_cons_succ, Act.put]
          refine wpAnyR_one (i := 9) (by kernel_rfl) rfl (fun K hK => ?_)
          refine step_append_lies _ rfl (.tmp 33) (.tmp 41) 80 rfl w.heap.size 106 i0 (.agg #[.int .i64 0, .int .i64 0, .slice none 0 0, .slice none 0 0]) 4 64 Tryz.underlying80 hi0 hz0 hz1 hz2 rfl (by decide) (.slice (some ⟨g3, 0, none⟩) us2.length c3) us2.length (flatQ us2) rfl ?dc1 ⟨wy.heap.size, 0, none⟩ 1 1 [.int .i64 l.1, .int .i64 l.2.1, .slice A4 l.2.2.length c4, .slice A5 (ageD ag k).1.length c5] rfl rfl ?dc4 ?dc2 (by omega) (by unfold maxLen; omega) (by omega) ?dc3 _ rfl ?dc5
          case dc1 => exact HQ.out.row.alloc _
          case dc4 => exact World.news_of_block (cs := #[.int .i64 l.1, .int .i64 l.2.1, .slice A4 l.2.2.length c4, .slice A5 (ageD ag k).1.length c5]) (heap_alloc_new wy _)
          case dc2 => intro u hu; simp at hu; rcases hu with rfl | rfl | rfl | rfl <;> rfl
          case dc3 => have := HQ.out.below.size; simp; omega
          case dc5 =>
          intro g2 cap w5 hown hgr hat _
          have HQ5 := Lib.hid (show QRel w w5 (us2 ++ [(.int .i64 l.1, .int .i64 l.2.1, .slice A4 l.2.2.length c4, .slice A5 (ageD ag k).1.length c5)]) (freshTo ls ag i (k + 1)) g2 cap from by
            rw [HFT.out]
            exact HQ.out.push (u := (.int .i64 l.1, .int .i64 l.2.1, .slice A4 l.2.2.length c4, .slice A5 (ageD ag k).1.length c5)) hgr hown ⟨rfl, rfl, HP3.out.below (HQ.out.below) (Nat.le_refl _), HF3.out.below HQ.out.below (Nat.le_refl _)⟩)
          have S5 : SS w5 := HS.out w5 HQ5.out.below ((grown_from_alloc hgr).block bx HRB.out.2 fun e => by have := HRB.out.1; simp [Value.ownBlock] at e; omega)
          clear hown hgr hat
          refine hK.out _ _ (fun _ => S5) ?_
          clear hK K
          try simp only [List.setIfInBounds_toArray, List.set_cons_zero, List.set_cons_succ, Act.put]
          refine wpAnyR_one (i := 10) (by kernel_rfl) rfl (fun K hK => ?_)
          go_simp
          refine hK.out _ _ (fun hf => absurd hf (by decide)) ?_
          clear hK K
          refine wpAnyR_done (by kernel_rfl) ?_
          clear S5 S6 SB HB HS
          go_wp2_with fail
          go_roundw
          case rel => exact ⟨k + 1, us2 ++ [(.int .i64 l.1, .int .i64 l.2.1, .slice A4 l.2.2.length c4, .slice A5 (ageD ag k).1.length c5)], g2, cap, by omega, by go_num, by simp, by have := (freshTo_len ls ag i k).1; have := HQR.out.rd.1; simp; omega, HQ5.out⟩
          case measure => simp [intOf]; omega
        · have huk : k < us.length := by rw [HAL.out.2, HAL.out.1]; exact hlt
          have hak : k < ag.length := by rw [HAL.out.1]; exact hlt
          have k3 := (HA.out.cells huk).1
          have hf3 := (HR.out.2 k huk hak).1
          rw [← ageD_lt hak] at hf3
          obtain ⟨A5, c5, e5, _, _⟩ := id hf3
          rw [e5] at k3 hf3
          have HF3 := Lib.hid hf3
          have HK3 := Lib.hid k3
          have HFT := Lib.hid (show freshTo ls ag i (k + 1) = freshTo ls ag i k ++ [(l, (ageD ag k).1)] by
            rw [freshTo_snoc ls ag hki]
            unfold qAt
            rw [← HLE.out, if_neg (show ¬ (k < i ∧ l.1 = 0) from HNC.out)])
          clear hf3 e5 k3
          go_upto_region 6 with fail
          obtain ⟨w2, hw2⟩ : ∃ w2, w2 = wr.alloc (Obj.cells #[Value.int IntKind.i64 l.1, Value.int IntKind.i64 l.2.1, Value.slice A4 l.2.2.length c4] 38) := ⟨_, rfl⟩
          have b2 : Below wr.heap.size wr w2 := by rw [hw2]; exact below1 _ _
          have y2 : Blk w2 bx 38 #[.int .i64 l.1, .int .i64 l.2.1, .slice A4 l.2.2.length c4] := by rw [hw2, HBX.out]; exact Blk.new _ _ _
          rw [← hw2]
          rw [show (wr.heap.size : Nat) = bx from HBX.out.symm]
          clear hw2 k0 k1 k2
          refine wp_region_rel (fun W => Below w.heap.size w W ∧ W.cell? ⟨bx, 0, none⟩ = some (.int .i64 l.1) ∧ W.cell? ⟨bx, 1, none⟩ = some (.int .i64 l.2.1) ∧ W.cell? ⟨bx, 2, none⟩ = some (.slice A4 l.2.2.length c4)) 10 11 (by kernel_rfl) rfl ?_
          obtain ⟨wy, hwy⟩ : ∃ wy, wy = w2.drew := ⟨_, rfl⟩
          have HQ := Lib.hid (show QRel w wy us2 (freshTo ls ag i k) g3 c3 by rw [hwy]; exact HQR.out.on b2.drew)
          have HY := Lib.hid (show Blk wy bx 38 #[.int .i64 l.1, .int .i64 l.2.1, .slice A4 l.2.2.length c4] by rw [hwy]; exact y2)
          have HRB := Lib.hid (show g3 < bx ∧ bx < wy.heap.size from ⟨by rw [HBX.out]; exact (HQR.out.row.lt g3 rfl).2, HY.out.lt⟩)
          rw [← hwy]
          clear hwy b2 y2
          obtain ⟨SS, hSS⟩ : ∃ SS : World → Prop, SS = (fun W => Below w.heap.size w W ∧ W.cell? ⟨bx, 0, none⟩ = some (.int .i64 l.1) ∧ W.cell? ⟨bx, 1, none⟩ = some (.int .i64 l.2.1) ∧ W.cell? ⟨bx, 2, none⟩ = some (.slice A4 l.2.2.length c4)) := ⟨_, rfl⟩
          rw [← hSS]
          have HB := Lib.hid (show ∀ W, SS W → (W.cell? ⟨bx, 0, none⟩ = some (.int .i64 l.1) ∧ W.cell? ⟨bx, 1, none⟩ = some (.int .i64 l.2.1) ∧ W.cell? ⟨bx, 2, none⟩ = some (.slice A4 l.2.2.length c4) ∧ W.cell? ⟨ga, k * 3, none⟩ = some (.slice A5 (ageD ag k).1.length c5)) from by
            rw [hSS]
            intro W hW
            exact ⟨hW.2.1, hW.2.2.1, hW.2.2.2, (hW.1.cell (p := ⟨ga, k * 3, none⟩) hga).trans HK3.out⟩)
          have HS := Lib.hid (show ∀ W : World, Below w.heap.size w W → W.heap[bx]? = wy.heap[bx]? → SS W from by
            rw [hSS]
            intro W hW hx
            have hy : Blk W bx 38 #[.int .i64 l.1, .int .i64 l.2.1, .slice A4 l.2.2.length c4] := hx.trans HY.out
            exact ⟨hW, hy.cell 0, hy.cell 1, hy.cell 2⟩)
          have SB : SS wy := HS.out wy HQ.out.below rfl
          clear hSS
          refine wpAnyR_pure (i := 0) (oi := _) ?vf0 rfl rfl (by kernel_rfl) (by decide) (fun _ _ _ h => h) rfl ?hyf0 (fun _ => SB) ?restf0
          case hyf0 => (intro W; go_simp; (try with_reducible rfl))
          try simp only [List.setIfInBounds_toArray, List.set_cons_zero, List.set_cons_succ]
          refine wpAnyR_take (i := 1) (oi := _) ?vf1 rfl rfl (by kernel_rfl) (fun _ _ _ h => h) rfl ?hyf1 SB ?restf1
          case hyf1 => (intro W hW; obtain ⟨E0, E1, E2, E3⟩ := HB.out W hW; go_simp; (try with_reducible rfl))
          try simp only [List.setIfInBounds_toArray, List.set_cons_zero, List.set_cons_succ]
          refine wpAnyR_pure (i := 2) (oi := _) ?vf2 rfl rfl (by kernel_rfl) (by decide) (fun _ _ _ h => h) rfl ?hyf2 (fun _ => SB) ?restf2
          case hyf2 => (intro W; go_simp; (try with_reducible rfl))
          try simp only [List.setIfInBounds_toArray, List.set_cons_zero, List.set_cons_succ]
          refine wpAnyR_pure (i := 3) (oi := _) ?vf3 rfl rfl (by kernel_rfl) (by decide) (fun _ _ _ h => h) rfl ?hyf3 (fun _ => SB) ?restf3
          case hyf3 => (intro W; go_simp; (try with_reducible rfl))
          try simp only [List.setIfInBounds_toArray, List.set_cons_zero, List.set_cons_succ]
          refine wpAnyR_pure (i := 4) (oi := _) ?vf4 rfl rfl (by kernel_rfl) (by decide) (fun _ _ _ h => h) rfl ?hyf4 (fun _ => SB) ?restf4
          case hyf4 => (intro W; go_simp; (try with_reducible rfl))
          try simp only [List.setIfInBounds_toArray, List.set_cons_zero, List.set_cons_succ]
          refine wpAnyR_pure (i := 5) (oi := _) ?vf5 rfl rfl (by kernel_rfl) (by decide) (fun _ _ _ h => h) rfl ?hyf5 (fun _ => SB) ?restf5
          case hyf5 => (intro W; go_simp; (try with_reducible rfl))
          try simp only [List.setIfInBounds_toArray, List.set_cons_zero, List.set_cons_succ]
          refine wpAnyR_take (i := 6) (oi := _) ?vf6 rfl rfl (by kernel_rfl) (fun _ _ _ h => h) rfl ?hyf6 SB ?restf6
          case hyf6 => (intro W hW; obtain ⟨E0, E1, E2, E3⟩ := HB.out W hW; go_simp; (try with_reducible rfl))
          try simp only [List.setIfInBounds_toArray, List.set_cons_zero, List.set_cons_succ]
          refine wpAnyR_pure (i := 7) (oi := _) ?vf7 rfl rfl (by kernel_rfl) (by decide) (fun _ _ _ h => h) rfl ?hyf7 (fun _ => SB) ?restf7
          case hyf7 => (intro W; go_simp; (try with_reducible rfl))
          try simp only [List.setIfInBounds_toArray, List.set_cons_zero, List.set_cons_succ]
          refine wpAnyR_one (i := 8) (by kernel_rfl) rfl (fun K hK => ?_)
          try rw [if_pos (show Region.wanted _ _ = true from rfl)]
          go_simp
          have S6 : SS _ := HS.out (wy.alloc (Obj.cells #[Value.int IntKind.i64 l.1, Value.int IntKind.i64 l.2.1, Value.slice A4 l.2.2.length c4, Value.slice A5 (ageD ag k).1.length c5] 106)) (HQ.out.below.trans ((below1 wy _).mono HQ.out.below.size)) (Below.heap_alloc _ _ _ HRB.out.2)
          refine hK.out _ _ (fun _ => S6) ?_
          clear hK K
          try simp only [List.setIfInBounds_toArray, List.set_cons_zero, List.set_cons_succ, Act.put]
          refine wpAnyR_one (i := 9) (by kernel_rfl) rfl (fun K hK => ?_)
          refine step_append_lies _ rfl (.tmp 33) (.tmp 41) 80 rfl w.heap.size 106 i0 (.agg #[.int .i64 0, .int .i64 0, .slice none 0 0, .slice none 0 0]) 4 64 Tryz.underlying80 hi0 hz0 hz1 hz2 rfl (by decide) (.slice (some ⟨g3, 0, none⟩) us2.length c3) us2.length (flatQ us2) rfl ?fc1 ⟨wy.heap.size, 0, none⟩ 1 1 [.int .i64 l.1, .int .i64 l.2.1, .slice A4 l.2.2.length c4, .slice A5 (ageD ag k).1.length c5] rfl rfl ?fc4 ?fc2 (by omega) (by unfold maxLen; omega) (by omega) ?fc3 _ rfl ?fc5
          case fc1 => exact HQ.out.row.alloc _
          case fc4 => exact World.news_of_block (cs := #[.int .i64 l.1, .int .i64 l.2.1, .slice A4 l.2.2.length c4, .slice A5 (ageD ag k).1.length c5]) (heap_alloc_new wy _)
          case fc2 => intro u hu; simp at hu; rcases hu with rfl | rfl | rfl | rfl <;> rfl
          case fc3 => have := HQ.out.below.size; simp; omega
          case fc5 =>
          intro g2 cap w5 hown hgr hat _
          have HQ5 := Lib.hid (show QRel w w5 (us2 ++ [(.int .i64 l.1, .int .i64 l.2.1, .slice A4 l.2.2.length c4, .slice A5 (ageD ag k).1.length c5)]) (freshTo ls ag i (k + 1)) g2 cap from by
            rw [HFT.out]
            exact HQ.out.push (u := (.int .i64 l.1, .int .i64 l.2.1, .slice A4 l.2.2.length c4, .slice A5 (ageD ag k).1.length c5)) hgr hown ⟨rfl, rfl, HP3.out.below (HQ.out.below) (Nat.le_refl _), HF3.out.below HQ.out.below (Nat.le_refl _)⟩)
          have S5 : SS w5 := HS.out w5 HQ5.out.below ((grown_from_alloc hgr).block bx HRB.out.2 fun e => by have := HRB.out.1; simp [Value.ownBlock] at e; omega)
          clear hown hgr hat
          refine hK.out _ _ (fun _ => S5) ?_
          clear hK K
          try simp only [List.setIfInBounds_toArray, List.set_cons_zero, List.set_cons_succ, Act.put]
          refine wpAnyR_one (i := 10) (by kernel_rfl) rfl (fun K hK => ?_)
          go_simp
          refine hK.out _ _ (fun hf => absurd hf (by decide)) ?_
          clear hK K
          refine wpAnyR_done (by kernel_rfl) ?_
          clear S5 S6 SB HB HS
          go_wp2_with fail
          go_roundw
          case rel => exact ⟨k + 1, us2 ++ [(.int .i64 l.1, .int .i64 l.2.1, .slice A4 l.2.2.length c4, .slice A5 (ageD ag k).1.length c5)], g2, cap, by omega, by go_num, by simp, by have := (freshTo_len ls ag i k).1; have := HQR.out.rd.1; simp; omega, HQ5.out⟩
          case measure => simp [intOf]; omega
    · obtain rfl : k = ls.length := by omega
      have hl2 : us2.length = ls.length := by
        rw [hq.rd.1]
        exact (freshTo_len ls ag i ls.length).2.1 hi
      have HQF := Lib.hid (And.intro (ownQ_at hq.row) hq)
      clear hq
      rw [hl2]
      go_wp2_with fail
      go_ret
      exact ⟨g3, c3, us2, rfl, HQF.out.1.2, HQF.out.1.1, HQF.out.2.rd, HQF.out.2.below⟩

end Go.Proofs.YtofkcmihcgmmpaaGreat
/-
  append of a row of words that is read, nil and empty let in, onto a row of the call's own.
-/
namespace Go.Proofs.YtofkcmihcgmmpaaGreat
open Go.RowKit

theorem run_append_w {P : Program} (w : World) (base : Nat) (t ty e : TypeId) (i : TypeInfo) (z : Value) (bytes : Nat) (ht : P.underlying t = some (.slice e)) (hi : P.info? e = some i) (hz : i.zero = some z)
    (hsize : i.size = 1) (hby : i.bytes = bytes) (hzs : z.cells.size = 1)
    (v : Value) (n : Nat) (xs : List Value) (hown : w.ownsRow base e 1 v n xs) (B : Nat) (x : Value) (ys : List (List Int)) (hr : RdW w B x ys)
    (h63 : n + ys.length ≤ maxLen) (hbytes : (n + ys.length) * bytes ≤ 140737488355328) (hbase : base ≤ w.heap.size) :
    ∃ A' c' w', (Builtin.append_ #[t, t] ty #[v, x]).run P w = .ok (.slice A' (n + ys.length) c') w' ∧ w'.ownsRow base e 1 (.slice A' (n + ys.length) c') (n + ys.length) (xs ++ ys.map wd) ∧ w.grownBy w' v.ownBlock ∧
      ((Value.slice A' (n + ys.length) c').ownBlock = v.ownBlock ∨ (Value.slice A' (n + ys.length) c').ownBlock = some w.heap.size) := by
  have hform : ∀ {w' : World} {v' : Value} {m : Nat} {zs : List Value}, w'.ownsRow base e 1 v' m zs → ∃ A c, v' = .slice A m c := by
    intro w' v' m zs h
    rcases h.2 with ⟨rfl, h0⟩ | ⟨g, cap, _, rfl, _⟩
    · exact ⟨none, 0, by rw [h0]⟩
    · exact ⟨_, _, rfl⟩
  obtain ⟨A, c, rfl, hc, hcell⟩ := hr
  rcases A with _ | ad
  · have h0 : ys.length = 0 := by
      rcases Nat.eq_zero_or_pos ys.length with h0 | h0
      · exact h0
      · obtain ⟨b, o, e, _⟩ := hcell h0
        cases e
    have hys : ys = [] := List.eq_nil_of_length_eq_zero h0
    subst hys
    obtain ⟨A', c', hv⟩ := hform hown
    refine ⟨A', c', w, ?_, by simpa [← hv] using hown, World.grownBy.refl w _, .inl (by rw [hv]; rfl)⟩
    simp only [List.length_nil, Nat.add_zero]
    rw [← hv]
    exact run_append_nilsrc w base t ty e i 1 ht hi v n xs hown c
  · have hnews : ∀ j u, (ys.map wd)[j]? = some u → w.cell? (ad.add j) = some u := by
      intro j u hu
      have hj : j < ys.length := by
        rcases Nat.lt_or_ge j ys.length with h | h
        · exact h
        · rw [List.getElem?_eq_none (by simpa using h)] at hu; cases hu
      obtain ⟨b, o, e, _, hx⟩ := hcell (by omega)
      injection e with e
      subst e
      rw [Go.WideShapes.add_plain, hx j hj]
      rw [List.getElem?_map, List.getElem?_eq_getElem hj] at hu
      exact hu
    obtain ⟨v', w', hrun, h2, h3, _, h5⟩ := run_append_own_at (P := P) w base t ty e i z 1 bytes ht hi hz hsize hby hzs (by decide) v n xs hown ad ys.length c (ys.map wd) (by simp) hnews
      (fun u hu => by simp at hu; obtain ⟨q, _, rfl⟩ := hu; rfl) h63 hbytes hbase
    obtain ⟨A', c', hv⟩ := hform h2
    subst hv
    exact ⟨A', c', w', hrun, h2, h3, h5⟩

theorem wpList_append_w {P : Program} {w : World} {ops : Array Oper} {rest : List Oper} {o : Oper} {a : Act} {Q : Exit → Act → World → Prop} (hgd : o.guard = none) (s x : Operand) (t : TypeId)
    (ho : o.op = .call { callee := .builtin .append, args := #[s, x], argTypes := #[t, t] })
    (base : Nat) (e : TypeId) (i : TypeInfo) (z : Value) (bytes : Nat) (ht : P.underlying t = some (.slice e)) (hi : P.info? e = some i) (hz : i.zero = some z)
    (hsize : i.size = 1) (hby : i.bytes = bytes) (hzs : z.cells.size = 1)
    (v : Value) (n : Nat) (xs : List Value) (hs : a.eval s = v) (hown : w.ownsRow base e 1 v n xs) (B : Nat) (xv : Value) (ys : List (List Int)) (hx : a.eval x = xv) (hr : RdW w B xv ys)
    (h63 : n + ys.length ≤ maxLen) (hbytes : (n + ys.length) * bytes ≤ 140737488355328) (hbase : base ≤ w.heap.size)
    (h : ∀ A' c' w', w'.ownsRow base e 1 (.slice A' (n + ys.length) c') (n + ys.length) (xs ++ ys.map wd) → w.grownBy w' v.ownBlock →
      ((Value.slice A' (n + ys.length) c').ownBlock = v.ownBlock ∨ (Value.slice A' (n + ys.length) c').ownBlock = some w.heap.size) → wpList P ops Q rest (a.put o.dst (.slice A' (n + ys.length) c')) w') : wpList P ops Q (o :: rest) a w := by
  refine wpList_plain hgd fun _ hK => ?_
  obtain ⟨A', c', w', hrun, h2, h3, h4⟩ := run_append_w (P := P) w base t o.type e i z bytes ht hi hz hsize hby hzs v n xs hown B xv ys hr h63 hbytes hbase
  unfold Oper.wp execOp
  simp only [ho, resolve, invoke, builtin, Sem.run_bind, Sem.run_pure, Result.andThen_ok, List.map_toArray, List.map_cons, List.map_nil, hs, hx, hrun]
  exact hK _ _ (h A' c' w' h2 h3 h4)

end Go.Proofs.YtofkcmihcgmmpaaGreat
/-
  solveFresh: what makes a body hold with some atom among new facts.
-/
namespace Go.Proofs.YtofkcmihcgmmpaaGreat
open Go.RowKit

theorem freshTo_step {ls : List LLit} {ag : List LAge} {k : Nat} {S S1 : List (List Int)} (h0 : (litD ls k).1 = 0) (h : ∀ b, b ∈ S ↔ FreshSolTo ls ag k b) (h1 : ∀ b, b ∈ S1 ↔ bindOk b = true ∧ DomL ls b ∧ FreshAt ls ag k b) (b : List Int) : b ∈ S ++ S1 ↔ FreshSolTo ls ag (k + 1) b := by
  rw [List.mem_append, h b, h1 b]
  unfold FreshSolTo
  constructor
  · rintro (⟨a1, a2, i, hi, a3⟩ | ⟨a1, a2, a3⟩)
    · exact ⟨a1, a2, i, by omega, a3⟩
    · exact ⟨a1, a2, k, by omega, h0, a3⟩
  · rintro ⟨a1, a2, i, hi, a3, a4⟩
    by_cases e : i = k
    · subst e
      exact .inr ⟨a1, a2, a4⟩
    · exact .inl ⟨a1, a2, i, by omega, a3, a4⟩
theorem freshTo_skip {ls : List LLit} {ag : List LAge} {k : Nat} (h0 : ¬ ((litD ls k).1 = 0 ∧ 0 < (ageD ag k).2.2.length)) (b : List Int) : FreshSolTo ls ag k b ↔ FreshSolTo ls ag (k + 1) b := by
  unfold FreshSolTo
  constructor
  · rintro ⟨a1, a2, i, hi, a3⟩
    exact ⟨a1, a2, i, by omega, a3⟩
  · rintro ⟨a1, a2, i, hi, a3, a4⟩
    refine ⟨a1, a2, i, ?_, a3, a4⟩
    rcases Nat.lt_or_ge i k with h | h
    · exact h
    · obtain rfl : i = k := by omega
      have h5 := ((hold_yes a3).1 a4.1).2
      exact absurd ⟨a3, List.length_pos_of_mem h5⟩ h0

set_option maxHeartbeats 4000000 in
set_option maxRecDepth 100000 in
theorem solveFresh_any (ga ca : Nat) (ls : List LLit) (ag : List LAge) (us : List AV) (v : Value) (w : World) (h : RdLits w w.heap.size v ls) (h2 : AtA w ga ca us) (h3 : RdAges w w.heap.size us ag) (hal : ag.length = ls.length) (hs : SafeB ls) (htl : totL ls ≤ 1048576) (hok : ∀ a ∈ ag, AgeOk a) :
    Calls Tryz.prog 19 #[v, .slice (some ⟨ga, 0, none⟩) ls.length ca] w fun e' w' =>
      ∃ (A : Option Addr) (c : Nat) (S : List (List Int)), e' = .returned (.slice A S.length c) ∧ OwnW w' w.heap.size w'.heap.size (.slice A S.length c) S ∧ Below w.heap.size w w' ∧ (∀ b, b ∈ S ↔ FreshSol ls ag b) ∧ S.length ≤ 262144 ∧ ((∀ j f, f ∈ (ageD ag j).2.1 → f ∉ (ageD ag j).2.2) → S.Nodup) := by
  obtain ⟨i0, hi0, hz0, hz1, hz2⟩ := info_parts Tryz.infoWord
  have hn := hs.few
  have HL := Lib.hid h
  have HA := Lib.hid h2
  have HR := Lib.hid h3
  have HAL := Lib.hid (And.intro hal h3.1)
  have HS := Lib.hid hs
  have HOK := Lib.hid hok
  obtain ⟨A, c, rfl, hc, _⟩ := h
  clear h2 h3 hal hs hok
  go_enter Tryz.func19, Tryz.ntmps19
  go_wp2_with fail
  go_loopw [5, 10] (fun q x wr => ∃ (k : Nat) (A' : Option Addr) (c' : Nat) (S : List (List Int)), k ≤ ls.length ∧ x = .int .i64 k ∧ q = .slice A' S.length c' ∧ OwnW wr w.heap.size wr.heap.size (.slice A' S.length c') S ∧ Below w.heap.size w wr ∧ (∀ b, b ∈ S ↔ FreshSolTo ls ag k b) ∧ S.length ≤ k * 65536 ∧ ((∀ j f, f ∈ (ageD ag j).2.1 → f ∉ (ageD ag j).2.2) → S.Nodup)) (fun _ x _ => ls.length - (intOf x).toNat)
  case atStart => exact ⟨0, none, 0, [], Nat.zero_le _, rfl, rfl, ⟨World.ownsRow_nil _ _ _ _, fun g hg => by cases hg⟩, Below.refl _ _, fun b => by simp [FreshSolTo], by simp, fun _ => List.nodup_nil⟩
  case round =>
    obtain ⟨k, A', c', S, hk, rfl, rfl, how, hbe, hmem, hlen, hnd⟩ := hrel
    have HO := Lib.hid how
    have HBE := Lib.hid hbe
    have HM := Lib.hid hmem
    have HND := Lib.hid hnd
    clear how hmem hnd
    by_cases hlt : k < ls.length
    · obtain ⟨b, o3, u0, u1, u2, rfl, hbB, k0, k1, k2, rfl, rfl, p3⟩ := (HL.out.below hbe (Nat.le_refl _)).get hlt
      obtain ⟨A4, c4, rfl, hc4, _⟩ := id p3
      obtain ⟨l, hle⟩ : ∃ l, l = litD ls k := ⟨_, rfl⟩
      have hli : l = ls[k] := by rw [hle, litD_lt hlt]
      rw [← hli] at k0 k1 k2 hc4
      have huk : k < us.length := by rw [HAL.out.2, HAL.out.1]; exact hlt
      have hak : k < ag.length := by rw [HAL.out.1]; exact hlt
      have hga : ga < w.heap.size := HA.out.lt
      have k3 := (hbe.cell (p := ⟨ga, k * 3 + 2, none⟩) hga).trans (HA.out.cells huk).2.2
      have hf3 := (HR.out.2 k huk hak).2.2
      rw [← ageD_lt hak] at hf3
      obtain ⟨A5, c5, e5, _, _⟩ := hf3
      rw [e5] at k3
      obtain ⟨n5, hn5⟩ : ∃ n5, n5 = (ageD ag k).2.2.length := ⟨_, rfl⟩
      rw [← hn5] at k3
      have HN5 := Lib.hid hn5
      have HLE := Lib.hid hle
      have k3' := (below1 wr (Obj.cells #[Value.int IntKind.i64 l.1, Value.int IntKind.i64 l.2.1, Value.slice A4 l.2.2.length c4] 38)).cell (p := ⟨ga, k * 3 + 2, none⟩) (by have := hbe.size; show ga < _; omega)
      rw [k3] at k3'
      clear hle hli p3 hbe e5 hn5
      by_cases hcond : l.1 = 0 ∧ 0 < n5
      · obtain ⟨hc1, hc2⟩ := hcond
        have hd1 : (l.1 == 0) = true := by simpa using hc1
        have hd2 : decide (0 < n5) = true := decide_eq_true hc2
        have HC1 := Lib.hid hc1
        clear hc1
        obtain ⟨w2, hw2⟩ : ∃ w2, w2 = wr.alloc (Obj.cells #[Value.int IntKind.i64 l.1, Value.int IntKind.i64 l.2.1, Value.slice A4 l.2.2.length c4] 38) := ⟨_, rfl⟩
        have HB2 := Lib.hid (show Below wr.heap.size wr w2 by rw [hw2]; exact below1 _ _)
        have HW2 := Lib.hid hw2
        clear hw2
        have CF := Lib.hid (freshQuestions_any ga ca k ls ag us (.slice (some ⟨b, o3, none⟩) ls.length c) w2 ((HL.out.on HBE.out).on HB2.out) ((HA.out.below HBE.out hga).below HB2.out (by have := HBE.out.size; omega)) ((HR.out.below HBE.out (Nat.le_refl _)).below HB2.out HBE.out.size |>.more (by have := HBE.out.size; have := HB2.out.size; omega)) HAL.out.1 hlt hn)
        go_upto_region 6 with fail
        rw [← HW2.out]
        go_wp2_with (first
          | (go_at_call 42; refine CF.out.mono ?_; rintro e3 w3 ⟨g2, c2, us2, rfl, hg2, at3, rd3, b3⟩
             have CS := solve_any g2 c2 w2.heap.size us2 (freshTo ls ag k ls.length) w3 at3 rd3 hg2 (by have := (freshTo_len ls ag k ls.length).1; omega) (freshQ_ok hlt HAL.out.1 HS.out htl HOK.out) (freshQ_safe hlt HS.out)
             rw [(freshTo_len ls ag k ls.length).2.1 hlt] at CS
             have HCS := Lib.hid CS
             have H3 := Lib.hid (And.intro hg2 b3)
             clear CS hg2 at3 rd3 b3)
          | (go_at_call 41; refine HCS.out.mono ?_; rintro e4 w4 ⟨A6, c6, S1, rfl, own4, on4, is4⟩
             have H4 := Lib.hid (And.intro own4 (And.intro on4 is4))
             clear own4 on4 is4
             have hs3 := H3.out.2.size
             have hs2 := HB2.out.size
             have hs4 := H4.out.2.1.size
             have hg2 := H3.out.1
             have hl4 : S1.length ≤ 65536 := binds_len H4.out.2.2.1 H4.out.2.2.ok
             have hsr := HBE.out.size
             have B4 : Below wr.heap.size wr w4 := (bthen HB2.out H3.out.2).trans (H4.out.2.1.below (by omega) (by omega))
             have HB4 := Lib.hid B4
             clear B4)
          | (at_builtin; refine wpList_append_w rfl (.tmp 27) (.tmp 32) 55 rfl w.heap.size 61 i0 (.int .u32 0) 4 Tryz.underlying55 hi0 hz0 hz1 hz2 rfl (.slice A' S.length c') S.length (S.map wd) rfl (HO.out.below HB4.out (Nat.le_refl _)).1 w4.heap.size (.slice A6 S1.length c6) S1 rfl H4.out.1.rd (by unfold maxLen; omega) (by omega) (by omega) ?_))
        intro A7 c7 w5 hown hgr hat
        obtain ⟨_, hmm⟩ := freshQ_is hlt H4.out.2.2
        have HF := Lib.hid (show OwnW w5 w.heap.size w5.heap.size (.slice A7 (S ++ S1).length c7) (S ++ S1) ∧ Below w.heap.size w w5 ∧ (∀ b, b ∈ S ++ S1 ↔ FreshSolTo ls ag (k + 1) b) ∧ (S ++ S1).length ≤ (k + 1) * 65536 ∧ ((∀ j f, f ∈ (ageD ag j).2.1 → f ∉ (ageD ag j).2.2) → (S ++ S1).Nodup) from by
          refine ⟨⟨?_, fun g hg => ?_⟩, ?_, freshTo_step (by rw [← HLE.out]; exact HC1.out) HM.out hmm, by simp; omega, fun hd => ?_⟩
          · rw [List.length_append, List.map_append]
            exact hown
          · rw [List.length_append] at hg
            exact (hown.lt g hg).2
          · refine (HBE.out.trans (HB4.out.mono hsr)).grown hgr (by omega) fun k hk => ?_
            exact ((HO.out.1).lt k hk).1
          · rw [List.nodup_append]
            refine ⟨HND.out hd, H4.out.2.2.1, fun x hx y hy e => ?_⟩
            subst e
            obtain ⟨_, _, i, hi, h0, hf⟩ := (HM.out x).1 hx
            exact fresh_apart (show i < ls.length by omega) hi h0 (hd i) hf ((hmm x).1 hy).2.2)
        have hlen2 : S.length + S1.length = (S ++ S1).length := by simp
        rw [hlen2]
        have HF2 := Lib.hid (And.intro hlen2 HF.out)
        clear hlen2 hown hgr hat hmm
        go_wp2_with fail
        go_roundw
        case rel => exact ⟨k + 1, A7, c7, S ++ S1, by omega, by go_num, rfl, HF.out.1, HF.out.2.1, HF.out.2.2.1, HF.out.2.2.2.1, HF.out.2.2.2.2⟩
        case measure => simp [intOf]; omega
      · have HNC := Lib.hid (show ∀ b, FreshSolTo ls ag k b ↔ FreshSolTo ls ag (k + 1) b from freshTo_skip (by rw [← HLE.out, ← HN5.out]; exact hcond))
        have hd : ((l.1 == 0) = true ∧ decide (0 < n5) = false) ∨ (l.1 == 0) = false := by
          by_cases e : l.1 = 0
          · exact .inl ⟨by simpa using e, by
              exact decide_eq_false fun h => hcond ⟨e, h⟩⟩
          · exact .inr (by simpa using e)
        clear hcond
        rcases hd with ⟨hd1, hd2⟩ | hd1
        all_goals
          go_wp2_with fail
          go_roundw
          case rel => exact ⟨k + 1, A', c', S, by omega, by go_num, rfl, (HO.out.below (below1 _ _) (Nat.le_refl _)).mono (Nat.le_refl _) (below1 _ _).size, bthen HBE.out (below1 _ _), fun b => (HM.out b).trans (HNC.out b), Nat.le_trans hlen (Nat.mul_le_mul_right _ (Nat.le_succ k)), HND.out⟩
          case measure => simp [intOf]; omega
    · obtain rfl : k = ls.length := by omega
      clear hbe
      go_wp2_with fail
      go_ret
      exact ⟨A', c', S, rfl, HO.out, HBE.out, HM.out, by omega, HND.out⟩

end Go.Proofs.YtofkcmihcgmmpaaGreat
/-
  slices.CompactFunc at facts by sameFact.
-/
namespace Go.Proofs.YtofkcmihcgmmpaaGreat
open Go.RowKit Go.Sort

/-- What a call of sameFact asks, at two places of a row, in any later world. -/
theorem same_at {w0 : World} {g c : Nat} {fs : List LFact} {av : List Value} (hrow : AtRow w0 g c fs av) (hrd : RdArgs w0 g av fs) (hl : ∀ k (hk : k < fs.length), fs[k].2.length ≤ 1048576) {i j : Nat} (hi : i < fs.length) (hj : j < fs.length)
    (hi' : i < av.length) (hj' : j < av.length) (x : Later w0) :
    Calls Tryz.prog 60 #[.agg #[.int .i64 fs[i].1, av[i]], .agg #[.int .i64 fs[j].1, av[j]]] x.val fun e w' => e = .returned (.bool (decide (fs[i] = fs[j]))) ∧ Below x.val.heap.size x.val w' := by
  have hg := Nat.le_of_lt hrow.lt
  have h1 := ((hrd.2 i hi hi' hi).more hg).on x.2
  have h2 := ((hrd.2 j hj hj' hj).more hg).on x.2
  refine (sameFact_grow _ _ fs[i] fs[j] x.val ⟨_, rfl, h1⟩ ⟨_, rfl, h2⟩ (hl i hi) (hl j hj)).mono fun e w' ⟨he, hG⟩ => ⟨by rw [he, same_iff], hG.below⟩

theorem AtRow.cells {w : World} {g c : Nat} {fs : List LFact} {av : List Value} (h : AtRow w g c fs av) (hl : av.length = fs.length) {k : Nat} (hk : k < fs.length) (hk' : k < av.length) :
    w.cell? ⟨g, k * 2, none⟩ = some (.int .i64 fs[k].1) ∧ w.cell? ⟨g, k * 2 + 1, none⟩ = some av[k] := by
  obtain ⟨c0, c1⟩ := flat_at fs av hl k hk hk'
  exact ⟨by rw [h.cell (by omega), c0], by rw [h.cell (by omega), c1]⟩

set_option maxHeartbeats 4000000 in
set_option maxRecDepth 100000 in
theorem compactF_any (g c : Nat) (fs : List LFact) (av : List Value) (w : World) (hrow : AtRow w g c fs av) (hrd : RdArgs w g av fs) (hn : fs.length ≤ 4194304) (hl : ∀ k (hk : k < fs.length), fs[k].2.length ≤ 1048576) :
    Calls Tryz.prog 59 #[.slice (some ⟨g, 0, none⟩) fs.length c, .func (.func 60) #[] #[]] w fun e w' =>
      ∃ av', e = .returned (.slice (some ⟨g, 0, none⟩) (compactL fs).length c) ∧ AtRow w' g c (compactL fs) av' ∧ RdArgs w' g av' (compactL fs) ∧ Only g (g + 1) w w' := by
  have hlc := hrow.len
  have hcm : c ≤ maxLen := by obtain ⟨_, _, _, h, _⟩ := hrow; exact h
  have hcm2 : c ≤ 9223372036854775807 := by unfold maxLen at hcm; omega
  by_cases h2 : fs.length < 2
  · have HE := Lib.hid (show compactL fs = fs by
      match fs, h2 with
      | [], _ => rfl
      | [f], _ => rfl)
    have h2I : (fs.length : Int) < 2 := by omega
    have HR := Lib.hid (And.intro hrow hrd)
    clear hrow hrd h2
    go_enter Tryz.func59, Tryz.ntmps59
    go_wp2_with (fail)
    go_ret
    rw [HE.out]
    exact ⟨av, rfl, HR.out.1, HR.out.2, Only.refl _ _ _⟩
  · have h2I : ¬ (fs.length : Int) < 2 := by omega
    have hg := hrow.lt
    have hav := hrd.1
    have HR := Lib.hid (And.intro hrow hrd)
    have HAV := Lib.hid hav
    clear hrow hrd h2 hav
    go_enter Tryz.func59, Tryz.ntmps59
    go_wp2_with (fail)
    go_loopw [5] (fun i wr => ∃ j : Nat, j + 1 ≤ fs.length ∧ i = .int .i64 ((j + 1 : Nat) : Int) ∧ compactL (fs.take (j + 1)) = fs.take (j + 1) ∧ Below w.heap.size w wr) (fun i _ => fs.length - (intOf i).toNat)
    case atStart => exact ⟨0, by omega, rfl, by
      rw [take_snoc fs 0 (by omega)]
      rfl, Below.refl _ _⟩
    case round =>
      obtain ⟨j, hj, rfl, hcp, hbe⟩ := hrel
      have hrow := HR.out.1.below hbe hg
      have hrd := HR.out.2.below hbe (Nat.le_of_lt hg)
      by_cases hlt : j + 1 < fs.length
      · have hj1 : j < fs.length := by omega
        have hja : j < av.length := by have := HAV.out; omega
        have hja1 : j + 1 < av.length := by have := HAV.out; omega
        obtain ⟨a0, a1⟩ := hrow.cells HAV.out hlt hja1
        obtain ⟨b0, b1⟩ := hrow.cells HAV.out hj1 hja
        have A0 := later_cell a0
        have A1 := later_cell a1
        have B0 := later_cell b0
        have B1 := later_cell b1
        have CS := Lib.hid (same_at hrow hrd hl hlt hj1 hja1 hja)
        have HC := Lib.hid hcp
        have HST := Lib.hid (compact_step hlt)
        have HRR := Lib.hid (And.intro hrow hrd)
        obtain ⟨va, hva⟩ : ∃ va, va = av[j + 1] := ⟨_, rfl⟩
        obtain ⟨vb, hvb⟩ : ∃ vb, vb = av[j] := ⟨_, rfl⟩
        rw [← hva] at A1 CS
        rw [← hvb] at B1 CS
        obtain ⟨Aa, ca, hfa, _⟩ := hrd.2 (j + 1) hlt hja1 hlt
        obtain ⟨Ab, cb, hfb, _⟩ := hrd.2 j hj1 hja hj1
        rw [← hva] at hfa
        rw [← hvb] at hfb
        subst hfa hfb
        clear hcp hrow hrd a0 a1 b0 b1 hva hvb
        by_cases he : fs[j + 1] = fs[j]
        · -- the first two that are the same
          have hd : decide (fs[j + 1] = fs[j]) = true := decide_eq_true he
          rw [hd] at CS
          have HE := Lib.hid he
          clear he hd
          go_wp2_with (fail)
          refine wp_region_later (by kernel_rfl) (by kernel_rfl) ?_
          repeat (go_big_quiet_step ((go_at_call 60; exact later_of (CS.out _))))
          refine wpQuiet_nil ?_
          rintro _ ⟨xq, rfl⟩
          go_wp2_with (fail)
          have HLN := Lib.hid (show compactL (fs.take (j + 1 + 1)) = fs.take (j + 1) by
            rw [show j + 1 + 1 = j + 2 from rfl, HST.out, if_pos HE.out.symm, HC.out])
          have HAll := Lib.hid (show ∀ f ∈ fs, f.2.length ≤ 1048576 from fun f hf => by
            obtain ⟨q, hq, rfl⟩ := List.getElem_of_mem hf
            exact hl q hq)
          clear A0 A1 B0 B1
          go_loopw [5, 7] (fun m k wr => ∃ (i m' : Nat) (fw : List LFact) (aw : List Value), i + 1 ≤ fs.length - (j + 1) ∧ k = .int .i64 ((i + 1 : Nat) : Int) ∧ m = .int .i64 (m' : Nat) ∧ m' ≤ j + 1 + i ∧ fw.length = fs.length ∧ fw.take m' = compactL (fs.take (j + 1 + i + 1)) ∧ m' = (compactL (fs.take (j + 1 + i + 1))).length ∧ fw.drop (j + 1 + i) = fs.drop (j + 1 + i) ∧
              (∀ f ∈ fw, f.2.length ≤ 1048576) ∧ AtRow wr g c fw aw ∧ RdArgs wr g aw fw ∧ Only g (g + 1) w wr) (fun _ k _ => fs.length - (intOf k).toNat)
          case atStart =>
            exact ⟨0, j + 1, fs, av, by omega, rfl, rfl, by omega, rfl, HLN.out.symm, by rw [HLN.out, List.length_take]; omega, rfl, HAll.out, HRR.out.1.keep (xq.2.block g (Nat.lt_of_lt_of_le hg hbe.size)), HRR.out.2.below xq.2 (Nat.le_trans (Nat.le_of_lt hg) hbe.size), (Only.of_below hbe).trans (Only.of_below xq.2)⟩
          case round =>
            obtain ⟨i, m, fw, aw, hi, rfl, rfl, hm, hfl, htk, hml, hdr, hal, hrow, hrd, hon⟩ := hrel
            have hgr := hrow.lt
            have haw := hrd.1
            by_cases hlt2 : i + 1 < fs.length - (j + 1)
            · have hq1 : j + 1 + i + 1 < fs.length := by omega
              have hq0 : j + 1 + i < fs.length := by omega
              have hq1f : j + 1 + i + 1 < fw.length := by omega
              have hq0f : j + 1 + i < fw.length := by omega
              have hq1a : j + 1 + i + 1 < aw.length := by omega
              have hq0a : j + 1 + i < aw.length := by omega
              have hma : m < aw.length := by omega
              have hmf : m < fw.length := by omega
              have e0 : fw[j + 1 + i] = fs[j + 1 + i] := by
                have h1 := congrArg (fun l => l[0]?) hdr
                simpa [hq0, hq0f] using h1
              have e1 : fw[j + 1 + i + 1] = fs[j + 1 + i + 1] := by
                have h1 := congrArg (fun l => l[1]?) hdr
                simpa [hq1, hq1f] using h1
              obtain ⟨a0, a1⟩ := hrow.cells haw hq1f hq1a
              obtain ⟨b0, b1⟩ := hrow.cells haw hq0f hq0a
              obtain ⟨d0, d1⟩ := hrow.cells haw hmf hma
              rw [show (j + 1 + i + 1) * 2 = (j + 1) * 2 + (i + 1) * 2 by omega] at a0 a1
              rw [show (j + 1 + i) * 2 = (j + 1) * 2 + i * 2 by omega] at b0 b1
              have CS2 := Lib.hid (same_at hrow hrd (fun k hk => hal _ (List.getElem_mem hk)) hq1f hq0f hq1a hq0a)
              have HST2 := Lib.hid (compact_step hq1)
              obtain ⟨va, hva⟩ : ∃ va, va = aw[j + 1 + i + 1] := ⟨_, rfl⟩
              obtain ⟨vb, hvb⟩ : ∃ vb, vb = aw[j + 1 + i] := ⟨_, rfl⟩
              obtain ⟨Aa, ca, hfa, hfx⟩ := hrd.2 (j + 1 + i + 1) hq1f hq1a hq1f
              obtain ⟨Ab, cb, hfb, _⟩ := hrd.2 (j + 1 + i) hq0f hq0a hq0f
              have RA := hrd.2 (j + 1 + i + 1) hq1f hq1a hq1f
              rw [← hva] at a1 CS2 hfa RA
              rw [← hvb] at b1 CS2 hfb
              subst hfa hfb
              rw [e1] at a0 a1 CS2 RA
              rw [e0] at b0 b1 CS2
              have A0 := later_cell a0
              have A1 := later_cell a1
              have B0 := later_cell b0
              have B1 := later_cell b1
              have HQ := Lib.hid (And.intro hrow (And.intro hrd (And.intro hon (And.intro htk (And.intro hml (And.intro hdr RA))))))
              have HAL := Lib.hid hal
              have HF := Lib.hid (And.intro hfl haw)
              clear hva hvb a0 a1 b0 b1 e0 e1 hrow hrd hon htk hml hdr RA hal hfx
              by_cases he2 : fs[j + 1 + i + 1] = fs[j + 1 + i]
              · have hd2 : decide (fs[j + 1 + i + 1] = fs[j + 1 + i]) = true := decide_eq_true he2
                rw [hd2] at CS2
                have HN := Lib.hid (show compactL (fs.take (j + 1 + (i + 1) + 1)) = compactL (fs.take (j + 1 + i + 1)) by
                  rw [show j + 1 + (i + 1) + 1 = j + 1 + i + 2 by omega, HST2.out, if_pos he2.symm])
                clear he2 hd2 d0 d1
                go_wp2_with (fail)
                refine wp_region_later (by kernel_rfl) (by kernel_rfl) ?_
                repeat (go_big_quiet_step ((go_at_call 60; exact later_of (CS2.out _))))
                refine wpQuiet_nil ?_
                rintro _ ⟨xr, rfl⟩
                go_wp2_with (fail)
                go_roundw
                case rel =>
                  obtain ⟨h1, h2, h3, h4, h5, h6, h7⟩ := HQ.out
                  refine ⟨i + 1, m, fw, aw, by omega, by go_num, rfl, by omega, HF.out.1, by rw [HN.out]; exact h4, by rw [HN.out]; exact h5, ?_, HAL.out, h1.keep (xr.2.block g hgr), h2.below xr.2 (Nat.le_of_lt hgr), h3.trans (Only.of_below xr.2)⟩
                  have := congrArg (List.drop 1) h6
                  rwa [List.drop_drop, List.drop_drop] at this
                case measure => simp [intOf]; omega
              · have hd2 : decide (fs[j + 1 + i + 1] = fs[j + 1 + i]) = false := decide_eq_false he2
                rw [hd2] at CS2
                have HN := Lib.hid (show compactL (fs.take (j + 1 + (i + 1) + 1)) = compactL (fs.take (j + 1 + i + 1)) ++ [fs[j + 1 + i + 1]] by
                  rw [show j + 1 + (i + 1) + 1 = j + 1 + i + 2 by omega, HST2.out, if_neg (fun e => he2 e.symm)])
                clear he2 hd2
                go_wp2_with (fail)
                refine wp_region_later (by kernel_rfl) (by kernel_rfl) ?_
                repeat (go_big_quiet_step ((go_at_call 60; exact later_of (CS2.out _))))
                refine wpQuiet_nil ?_
                rintro _ ⟨xr, rfl⟩
                have D0 := later_cell d0 xr
                have D1 := later_cell d1 xr
                have hrx := HQ.out.1.keep (xr.2.block g hgr)
                have F0 := hrx.frozen (m * 2)
                have F1 := hrx.frozen (m * 2 + 1)
                have hset := hrx.set HF.out.2 hmf fs[j + 1 + i + 1] (.slice Aa fs[j + 1 + i + 1].2.length ca)
                have HSET := Lib.hid hset
                have hbx := xr.2
                obtain ⟨Vd, hVd⟩ : ∃ Vd, Vd = aw[m] := ⟨_, rfl⟩
                rw [← hVd] at D1
                clear hset hrx d0 d1 hVd
                go_wp2_with (fail)
                go_roundw
                case rel =>
                  obtain ⟨h1, h2, h3, h4, h5, h6, h7⟩ := HQ.out
                  have o1 : Only g (g + 1) xr.val ((xr.val.setCell ⟨g, m * 2, none⟩ (.int .i64 fs[j + 1 + i + 1].1)).setCell ⟨g, m * 2 + 1, none⟩ (.slice Aa fs[j + 1 + i + 1].2.length ca)) :=
                    Only.setCell (p := ⟨g, m * 2 + 1, none⟩) (Only.setCell (p := ⟨g, m * 2, none⟩) (Only.refl g (g + 1) xr.val) ⟨Nat.le_refl g, Nat.lt_succ_self g⟩ _) ⟨Nat.le_refl g, Nat.lt_succ_self g⟩ _
                  have o2 := (h3.trans (Only.of_below xr.2)).trans o1
                  refine ⟨i + 1, m + 1, fw.set m fs[j + 1 + i + 1], aw.set m (.slice Aa fs[j + 1 + i + 1].2.length ca), by omega, by go_num, by go_num, by omega, by rw [List.length_set]; exact HF.out.1, ?_, ?_, ?_, ?_, HSET.out, ?_, o2⟩
                  · rw [HN.out, ← h4, List.take_set, take_snoc fw m hmf, List.set_append_right _ _ (by simp; omega)]
                    simp [Nat.min_eq_left (Nat.le_of_lt hmf)]
                  · rw [HN.out, List.length_append, ← h5]
                    rfl
                  · rw [List.drop_set_of_lt (by omega)]
                    have := congrArg (List.drop 1) h6
                    rwa [List.drop_drop, List.drop_drop] at this
                  · intro f hf
                    rcases List.mem_or_eq_of_mem_set hf with hf | rfl
                    · exact HAL.out f hf
                    · exact hl _ hq1
                  · have hbw : Below g wr ((xr.val.setCell ⟨g, m * 2, none⟩ (.int .i64 fs[j + 1 + i + 1].1)).setCell ⟨g, m * 2 + 1, none⟩ (.slice Aa fs[j + 1 + i + 1].2.length ca)) := ((Only.of_below xr.2).trans o1).below (Nat.le_refl _) (Nat.le_of_lt hgr)
                    have h2b := h2.below hbw (Nat.le_refl _)
                    refine ⟨by simp [h2.1], fun q q1 q2 q3 => ?_⟩
                    by_cases eq : m = q
                    · subst eq
                      simpa using h7.below hbw (Nat.le_refl _)
                    · have := h2b.2 q (by simpa using q1) (by simpa using q2) (by simpa using q3)
                      simpa [List.getElem_set_ne eq] using this
                case measure => simp [intOf]; omega
            · have hn1 : j + 1 + i + 1 = fs.length := by omega
              have hmn : m < fw.length := by omega
              obtain ⟨WC, hcl, hoc, hac⟩ := run_clear_facts hrow hmn (c - m)
              rw [hfl] at hcl
              have HX := Lib.hid (show fw.take m = compactL fs ∧ m = (compactL fs).length by
                rw [hn1, List.take_length] at htk hml
                exact ⟨htk, hml⟩)
              have HQ := Lib.hid (And.intro (hac haw) (And.intro hrd (And.intro (hon.trans hoc) (hoc.below (Nat.le_refl _) (Nat.le_of_lt hgr)))))
              have hmn2 : m ≤ fs.length := by omega
              have hmc : m ≤ c := by omega
              clear hrow hrd hon htk hml hdr hal hoc hac
              go_wp2_with (simp only [hcl])
              go_ret
              obtain ⟨h1, h2, h3, h4⟩ := HQ.out
              rw [← HX.out.1] at *
              refine ⟨aw.take m, ?_, h1, ?_, h3⟩
              · congr 2
                simp
                omega
              · have h2b := h2.below h4 (Nat.le_refl _)
                refine ⟨by simp [h2.1], fun q q1 q2 q3 => ?_⟩
                simp at q1 q2 q3
                have := h2b.2 q (by omega) (by omega) (by omega)
                simpa using this
        · have hd : decide (fs[j + 1] = fs[j]) = false := decide_eq_false he
          rw [hd] at CS
          have HN := Lib.hid (show compactL (fs.take (j + 1 + 1)) = fs.take (j + 1 + 1) by
            rw [show j + 1 + 1 = j + 2 from rfl, HST.out, if_neg (fun e => he e.symm), HC.out, ← take_snoc fs (j + 1) hlt])
          clear he hd
          go_wp2_with (fail)
          refine wp_region_later (by kernel_rfl) (by kernel_rfl) ?_
          repeat (go_big_quiet_step ((go_at_call 60; exact later_of (CS.out _))))
          refine wpQuiet_nil ?_
          rintro _ ⟨xq, rfl⟩
          go_wp2_with (fail)
          go_roundw
          case rel => exact ⟨j + 1, by omega, by go_num, HN.out, bthen hbe xq.2⟩
          case measure => simp [intOf]; omega
      · have HE := Lib.hid (show compactL fs = fs by
          have e : fs.take (j + 1) = fs := by rw [show j + 1 = fs.length by omega, List.take_length]
          rw [e] at hcp
          exact hcp)
        have HRR := Lib.hid (And.intro hrow hrd)
        clear hcp hrow hrd
        go_wp2_with (fail)
        go_ret
        rw [HE.out]
        exact ⟨av, rfl, HRR.out.1, HRR.out.2, Only.of_below hbe⟩

end Go.Proofs.YtofkcmihcgmmpaaGreat
/-
  copyFacts.
-/
namespace Go.Proofs.YtofkcmihcgmmpaaGreat
open Go.RowKit

set_option maxHeartbeats 400000 in
set_option maxRecDepth 100000 in
theorem copyFacts_any (v : Value) (fs : List LFact) (w : World) (h : RdFacts w w.heap.size v fs) (hl : fs.length ≤ 4194304) (hn : tot fs ≤ 1048576) :
    Calls Tryz.prog 32 #[v] w fun e w' => ∃ A' c', e = .returned (.slice A' fs.length c') ∧ OwnFacts w' w.heap.size w'.heap.size (.slice A' fs.length c') fs ∧ Below w.heap.size w w' := by
  obtain ⟨i0, hi0, hz0, hz1, hz2⟩ := info_parts Tryz.infoFact
  have hmk := fun W => run_make_rowN (P := Tryz.prog) 23 35 i0 (.agg #[.int .i64 0, .slice none 0 0]) Tryz.underlying23 hi0 hz0 .i64 .i64 fs.length fs.length (Nat.le_refl _) (by rw [hz2]; omega) (by omega) W
  rw [hz1] at hmk
  simp only [Value.cells] at hmk
  have H := Lib.hid h
  obtain ⟨A, c, rfl, hc, _⟩ := h
  go_enter Tryz.func32, Tryz.ntmps32
  go_wp2_with (fail)
  go_loopw [4, 5, 11] (fun _ _ i wr => ∃ (k : Nat) (av : List Value), k ≤ fs.length ∧ i = .int .i64 k ∧ ToRel w wr fs k av) (fun _ _ i _ => fs.length - (intOf i).toNat)
  case atStart => exact ⟨0, [], Nat.zero_le _, rfl, ToRel.start w fs⟩
  case round =>
    obtain ⟨k, av, hk, rfl, hr⟩ := hrel
    by_cases hlt : k < fs.length
    · obtain ⟨b, o, A3, c3, rfl, hbB, k1, k2, k3⟩ := (H.out.on hr.below).get hlt
      have K3 := Lib.hid (show RdFact wr wr.heap.size (.agg #[.int .i64 fs[k].1, .slice A3 fs[k].2.length c3]) fs[k] from ⟨_, rfl, k3⟩)
      have hln := len_le_tot fs k hlt
      clear k3
      go_wp2_with (fail)
      refine (copyFact_any _ fs[k] _ (K3.out.on (below1 _ _)) (by omega)).mono ?_
      rintro e w4 ⟨A4, c4, rfl, ho4, hb4⟩
      have hb5 := bthen (below1 _ _) hb4
      have ho5 : OwnInts w4 wr.heap.size w4.heap.size _ _ := ho4.mono (by simp) (Nat.le_refl _)
      obtain ⟨r1, r2, r3, r4⟩ := hr.room hlt hb5
      have hstep := hr.step hlt hb5 ho5
      clear ho4 ho5 hb4
      go_wp2_with (fail)
      go_roundw
      case rel => exact ⟨k + 1, _, by omega, by go_num, hstep⟩
      case measure => simp [intOf]; omega
    · have hkn : k = fs.length := by omega
      have HO := Lib.hid (show OwnFacts wr w.heap.size wr.heap.size (.slice (some ⟨w.heap.size, 0, none⟩) fs.length fs.length) fs from ToRel.done (by rw [← hkn]; exact hr) (by unfold maxLen; omega))
      have hbe := hr.below
      clear hkn hr
      go_wp2_with (fail)
      go_ret
      exact ⟨_, _, rfl, HO.out, hbe⟩

end Go.Proofs.YtofkcmihcgmmpaaGreat
/-
  factSet: cloned, sorted, compacted: the facts laid one after another. The program's FactsEither.
-/
namespace Go.Proofs.YtofkcmihcgmmpaaGreat
open Go.RowKit Go.Sort

theorem compactNil_any (w : World) :
    Calls Tryz.prog 59 #[.slice none 0 0, .func (.func 60) #[] #[]] w fun e w' => e = .returned (.slice none 0 0) ∧ w = w' := by
  go_enter Tryz.func59, Tryz.ntmps59
  go_wp2_with (fail)
  go_ret
  exact ⟨rfl, rfl⟩

theorem len_tot {fs : List LFact} {n : Nat} (h : tot fs ≤ n) : ∀ k (hk : k < fs.length), fs[k].2.length ≤ n := fun k hk => Nat.le_trans (len_le_tot fs k hk) h

set_option maxHeartbeats 1000000 in
set_option maxRecDepth 100000 in
theorem factSet_any (v : Value) (fs : List LFact) (w : World) (h : RdFacts w w.heap.size v fs) (hn : fs.length ≤ 2097152) (ht : tot fs ≤ 1048576) :
    Calls Tryz.prog 33 #[v] w fun e w' => ∃ A' c', e = .returned (.slice A' (setOf fs).length c') ∧ RdFacts w' w'.heap.size (.slice A' (setOf fs).length c') (setOf fs) ∧ Below w.heap.size w w' := by
  obtain ⟨A, c, av, rfl, ha, hc⟩ := h.heads
  have HA := Lib.hid (And.intro ha hc)
  clear h ha hc
  go_enter Tryz.func33, Tryz.ntmps33
  go_wp2_with (fail)
  refine (clone_av A c fs av w HA.out.1 HA.out.2 (by omega)).mono ?_
  rintro e w1 ⟨A1, c1, rfl, hrow, hb1⟩
  rcases hrow.row.2 with ⟨e1, h0⟩ | ⟨g, cap, cur, e1, hbg, hgg, r1, r2, r3, r4⟩
  · injection e1 with e1 _ e3
    subst e1
    subst e3
    have hfs : fs = [] := List.eq_nil_of_length_eq_zero h0
    subst hfs
    have HS := Lib.hid (show setOf [] = [] from rfl)
    have hs := AnyF.slices_SortFunc_none Tryz.sortFact none 0 (.func (.func 58) #[] #[]) w1
    clear hrow h0
    go_wp2_with (fail)
    refine Calls.mono hs ?_
    rintro e w2 ⟨rfl, rfl⟩
    go_wp2_with (fail)
    refine (compactNil_any _).mono ?_
    rintro e w2 ⟨rfl, rfl⟩
    go_wp2_with (fail)
    go_ret
    rw [HS.out]
    exact ⟨none, 0, rfl, ⟨none, 0, rfl, by simp, fun h => absurd h (by simp)⟩, hb1⟩
  · injection e1 with e1 _ e3
    subst e1
    subst e3
    have hat : AtRow w1 g c1 fs av := ⟨cur, hgg, r1, r2, r3, r4⟩
    have hrd : RdArgs w1 g av fs := ((HA.out.1.below hb1 (Nat.le_refl _)).more hbg)
    have hlen := len_tot ht
    have hs := sortF_any g c1 fs av w1 hat hrd (by omega) hlen
    clear hrow hat hgg r1 r2 r3 r4
    go_wp2_with (fail)
    refine hs.mono ?_
    rintro e w2 ⟨rfl, fs', av', hp, hup, hat2, hrd2, ho2⟩
    have hl2 : ∀ k (hk : k < fs'.length), fs'[k].2.length ≤ 1048576 := fun k hk => by
      obtain ⟨q, hq, e⟩ := List.getElem_of_mem (hp.mem_iff.1 (List.getElem_mem hk))
      rw [← e]
      exact hlen q hq
    have hk := compactF_any g c1 fs' av' w2 hat2 hrd2 (by rw [hp.length_eq]; omega) hl2
    have HC := Lib.hid (show compactL fs' = setOf fs from compact_setOf hup fun x => hp.mem_iff)
    rw [show fs.length = fs'.length from hp.length_eq.symm]
    have HB2 := Lib.hid (show Below w.heap.size w w2 from Only.then_ hb1 ho2 hbg)
    have hg1 := hat2.lt
    clear hs hp hup hat2 hrd2 hl2 hlen hrd
    go_wp2_with (fail)
    refine hk.mono ?_
    rw [HC.out]
    rintro e w3 ⟨av3, rfl, hat3, hrd3, ho3⟩
    have HR := Lib.hid (show RdFacts w3 w3.heap.size (.slice (some ⟨g, 0, none⟩) (setOf fs).length c1) (setOf fs) from
      (RowF.facts (base := 0) ⟨hat3.row hrd3.1 (Nat.zero_le _), hrd3.more (Nat.le_of_lt hat3.lt)⟩))
    have HB3 := Lib.hid (show Below w.heap.size w w3 from Only.then_ HB2.out ho3 hbg)
    clear hk hat3 hrd3 ho3 ho2
    go_wp2_with (fail)
    go_ret
    exact ⟨_, c1, rfl, HR.out, HB3.out⟩

set_option maxHeartbeats 1000000 in
set_option maxRecDepth 100000 in
theorem implFactsEither_any (v v2 : Value) (xs ys : List LFact) (w : World) (h : RdFacts w w.heap.size v xs) (h2 : RdFacts w w.heap.size v2 ys) (hn : xs.length + ys.length ≤ 1048576) (ht : tot xs + tot ys ≤ 1048576) :
    Calls Tryz.prog 11 #[v, v2] w fun e w' => ∃ A' c', e = .returned (.slice A' (setOf (xs ++ ys)).length c') ∧ OwnFacts w' w.heap.size w'.heap.size (.slice A' (setOf (xs ++ ys)).length c') (setOf (xs ++ ys)) ∧ Below w.heap.size w w' := by
  have H := Lib.hid h
  have H2 := Lib.hid h2
  obtain ⟨A, c, rfl, hc, _⟩ := h
  obtain ⟨A2, c2, rfl, hc2, _⟩ := h2
  obtain ⟨zs, hzs⟩ : ∃ zs, zs = xs ++ ys := ⟨_, rfl⟩
  have HZ := Lib.hid hzs
  have HZB := Lib.hid (show zs.length ≤ 2097152 ∧ tot zs ≤ 1048576 from ⟨by rw [hzs, List.length_append]; omega, by rw [hzs, tot_append]; exact ht⟩)
  have HL := Lib.hid (show (setOf zs).length ≤ 4194304 ∧ tot (setOf zs) ≤ 1048576 by
    have hbd := setOf_bound zs
    have := HZB.out
    omega)
  rw [← hzs]
  clear hzs
  go_enter Tryz.func11, Tryz.ntmps11
  go_wp2_with (fail)
  obtain ⟨w1, hw1⟩ : ∃ w1, w1 = w.alloc (Obj.cells #[Value.slice A xs.length c, Value.slice A2 ys.length c2] 23) := ⟨_, rfl⟩
  have B1 : Below w.heap.size w w1 := by rw [hw1]; exact below1 _ _
  have b1 : Blk w1 w.heap.size 23 #[.slice A xs.length c, .slice A2 ys.length c2] := by rw [hw1]; exact Blk.new _ _ _
  rw [← hw1]
  clear hw1
  refine (concat_any w.heap.size _ _ _ xs ys w1 (b1.cell 0) (b1.cell 1) (H.out.on B1) (H2.out.on B1) (by omega)).mono ?_
  rw [← HZ.out]
  rintro e w3 ⟨A3, c3, av3, rfl, hr3, hb3⟩
  have B3 := bthen B1 hb3
  have R3 := Lib.hid hr3.facts
  clear b1 hr3
  go_wp2_with (fail)
  refine (factSet_any _ zs w3 R3.out HZB.out.1 HZB.out.2).mono ?_
  rintro e w4 ⟨A4, c4, rfl, hr4, hb4⟩
  have B4 := bthen B3 hb4
  have R4 := Lib.hid hr4
  clear hr4
  go_wp2_with (fail)
  refine (copyFacts_any _ (setOf zs) w4 R4.out HL.out.1 HL.out.2).mono ?_
  rintro e w5 ⟨A5, c5, rfl, ho5, hb5⟩
  have HO := Lib.hid (And.intro ho5 (bthen B4 hb5))
  have s4 := B4.size
  clear ho5
  go_wp2_with (fail)
  go_ret
  exact ⟨A5, c5, rfl, HO.out.1.mono s4 (Nat.le_refl _), HO.out.2⟩

end Go.Proofs.YtofkcmihcgmmpaaGreat
/-
  slices.BinarySearchFunc at facts by FactOrder, setHas: found just if a member of the list that ascends.
-/
namespace Go.Proofs.YtofkcmihcgmmpaaGreat
open Go.RowKit Go.Sort

/-- All ahead of i stand ahead of f. -/
def LessTo (fs : List LFact) (f : LFact) (i : Nat) : Prop := ∀ k (h : k < fs.length), k < i → factOrder fs[k] f < 0
def MoreFrom (fs : List LFact) (f : LFact) (j : Nat) : Prop := ∀ k (h : k < fs.length), j ≤ k → ¬ factOrder fs[k] f < 0

theorem asc_lt {fs : List LFact} (h : Asc fs) {i j : Nat} (hi : i < fs.length) (hj : j < fs.length) (hij : i < j) : factOrder fs[i] fs[j] < 0 := List.pairwise_iff_getElem.1 h i j hi hj hij
theorem lessTo_mid {fs : List LFact} {f : LFact} (h : Asc fs) {m : Nat} (hm : m < fs.length) (e : factOrder fs[m] f < 0) : LessTo fs f (m + 1) := fun k hk hlt => by
  by_cases e2 : k = m
  · subst e2
    exact e
  · exact order_less (asc_lt h hk hm (by omega)) e
theorem moreFrom_mid {fs : List LFact} {f : LFact} (h : Asc fs) {m : Nat} (hm : m < fs.length) (e : ¬ factOrder fs[m] f < 0) : MoreFrom fs f m := fun k hk hle he => by
  by_cases e2 : m = k
  · subst e2
    exact e he
  · exact e (order_less (asc_lt h hm hk (by omega)) he)
/-- At the end: a member just if it stands at the place. -/
theorem has_at {fs : List LFact} {f : LFact} {i : Nat} (h1 : LessTo fs f i) (h2 : MoreFrom fs f i) (hi : i < fs.length) (h : Asc fs) : decide (f ∈ fs) = (factOrder fs[i] f == 0) := by
  by_cases e : factOrder fs[i] f = 0
  · have := order_eq e
    rw [e]
    simp [← this]
  · have hne : ¬ f ∈ fs := fun hm => by
      obtain ⟨k, hk, rfl⟩ := List.getElem_of_mem hm
      rcases Nat.lt_trichotomy k i with hlt | rfl | hgt
      · have := h1 k hk hlt
        rw [order_refl] at this
        omega
      · exact e (order_refl _)
      · have h3 := asc_lt h hi hk hgt
        exact h2 i hi (Nat.le_refl _) h3
    rw [decide_eq_false hne]
    simpa using e
theorem has_none {fs : List LFact} {f : LFact} {i : Nat} (h1 : LessTo fs f i) (hi : ¬ i < fs.length) : decide (f ∈ fs) = false := by
  refine decide_eq_false fun hm => ?_
  obtain ⟨k, hk, rfl⟩ := List.getElem_of_mem hm
  have := h1 k hk (by omega)
  rw [order_refl] at this
  omega

/-- What a call of FactOrder asks, in any later world. -/
theorem order_in {w0 : World} {v v2 : Value} {f g : LFact} (h : RdFact w0 w0.heap.size v f) (h2 : RdFact w0 w0.heap.size v2 g) (hn : f.2.length ≤ 1048576) (hn2 : g.2.length ≤ 1048576) (x : Later w0) :
    Calls Tryz.prog 58 #[v, v2] x.val fun e w' => e = .returned (.int .i64 (factOrder f g)) ∧ Below x.val.heap.size x.val w' :=
  (implFactOrder_grow v v2 f g x.val (h.on x.2) (h2.on x.2) hn hn2).mono fun _ _ ⟨he, hG⟩ => ⟨he, hG.below⟩

set_option maxHeartbeats 2000000 in
set_option maxRecDepth 100000 in
theorem binF_any (v v2 : Value) (fs : List LFact) (f : LFact) (w : World) (h : RdFacts w w.heap.size v fs) (h2 : RdFact w w.heap.size v2 f) (ha : Asc fs) (hn : fs.length ≤ 2097152) (hl : tot fs ≤ 1048576) (hf : f.2.length ≤ 1048576) :
    Calls Tryz.prog 98 #[v, v2, .func (.func 58) #[] #[]] w fun e w' =>
      (∃ i : Int, e = .returned (.tuple #[.int .i64 i, .bool (decide (f ∈ fs))])) ∧ Below w.heap.size w w' := by
  have H := Lib.hid h
  have H2 := Lib.hid h2
  have HA := Lib.hid ha
  obtain ⟨A, c, rfl, hc, _⟩ := h
  obtain ⟨u, rfl, A2, c2, rfl, hc2, _⟩ := h2
  obtain ⟨R, hR⟩ : ∃ R, R = decide (f ∈ fs) := ⟨_, rfl⟩
  rw [← hR]
  have HR := Lib.hid hR
  clear hR ha
  go_enter Tryz.func98, Tryz.ntmps98
  go_wp2_with (fail)
  obtain ⟨w1, hw1⟩ : ∃ w1, w1 = w.alloc (Obj.cells #[Value.int IntKind.i64 f.1, Value.slice A2 f.2.length c2] 35) := ⟨_, rfl⟩
  have B1 : Below w.heap.size w w1 := by rw [hw1]; exact below1 _ _
  have x1 : Blk w1 w.heap.size 35 #[.int .i64 f.1, .slice A2 f.2.length c2] := by rw [hw1]; exact Blk.new _ _ _
  rw [← hw1]
  clear hw1
  have HX := Lib.hid (And.intro B1 x1)
  clear B1 x1
  go_loopw [9, 10, 11] (fun i j _ wr => ∃ (p q : Nat), p ≤ q ∧ q ≤ fs.length ∧ i = .int .i64 (p : Nat) ∧ j = .int .i64 (q : Nat) ∧ LessTo fs f p ∧ MoreFrom fs f q ∧ Below w1.heap.size w1 wr) (fun i j _ _ => (intOf j).toNat - (intOf i).toNat)
  case atStart => exact ⟨0, fs.length, Nat.zero_le _, Nat.le_refl _, rfl, rfl, fun k _ hk => absurd hk (by omega), fun k hk hle => absurd hk (by omega), Below.refl _ _⟩
  case round =>
    obtain ⟨p, q, hpq, hq, rfl, rfl, hlo, hhi, hbe⟩ := hrel
    have BW := bthen HX.out.1 hbe
    have xr := HX.out.2.below hbe HX.out.2.lt
    have L0 := later_cell (xr.cell 0 : wr.cell? ⟨w.heap.size, 0, none⟩ = some (.int .i64 f.1))
    have L1 := later_cell (xr.cell 1 : wr.cell? ⟨w.heap.size, 1, none⟩ = some (.slice A2 f.2.length c2))
    clear xr
    by_cases hlt : p < q
    · obtain ⟨m, hm⟩ : ∃ m, m = (p + q) / 2 := ⟨_, rfl⟩
      have hm1 : p ≤ m := by omega
      have hm2 : m < q := by omega
      have hml : m < fs.length := by omega
      have HM := Lib.hid (show ((p : Int) + (q : Int)) / 2 = (m : Int) by omega)
      obtain ⟨b, o, A3, c3, rfl, hbB, k1, k2, k3⟩ := (H.out.on BW).get hml
      have hln := len_le_tot fs m hml
      have M0 := later_cell k1
      have M1 := later_cell k2
      have CO := Lib.hid (order_in (w0 := wr) (f := fs[m]) (g := f) ⟨_, rfl, k3⟩ (H2.out.on BW) (by omega) hf)
      have HLO := Lib.hid (And.intro hlo hhi)
      clear k1 k2 k3 hlo hhi hm
      by_cases ho : factOrder fs[m] f < 0
      · have hd : decide (factOrder fs[m] f < 0) = true := decide_eq_true ho
        have HN := Lib.hid (lessTo_mid HA.out hml ho)
        go_wp2_with (fail)
        rw [HM.out]
        refine wp_region_later (by kernel_rfl) (by kernel_rfl) ?_
        repeat (go_big_quiet_step ((go_at_call 58; exact later_of (CO.out _))))
        refine wpQuiet_nil ?_
        rintro _ ⟨xq, rfl⟩
        go_wp2_with (fail)
        go_roundw
        case rel => exact ⟨m + 1, q, by omega, hq, by go_num, rfl, HN.out, HLO.out.2, bthen hbe xq.2⟩
        case measure => simp [intOf]; omega
      · have hd : decide (factOrder fs[m] f < 0) = false := decide_eq_false ho
        have HN := Lib.hid (moreFrom_mid HA.out hml ho)
        go_wp2_with (fail)
        rw [HM.out]
        refine wp_region_later (by kernel_rfl) (by kernel_rfl) ?_
        repeat (go_big_quiet_step ((go_at_call 58; exact later_of (CO.out _))))
        refine wpQuiet_nil ?_
        rintro _ ⟨xq, rfl⟩
        go_wp2_with (fail)
        go_roundw
        case rel => exact ⟨p, m, hm1, by omega, rfl, rfl, HLO.out.1, HN.out, bthen hbe xq.2⟩
        case measure => simp [intOf]; omega
    · obtain rfl : p = q := by omega
      by_cases hpl : p < fs.length
      · have HE := Lib.hid (show R = (factOrder fs[p] f == 0) by rw [HR.out, has_at hlo hhi hpl HA.out])
        obtain ⟨b, o, A3, c3, rfl, hbB, k1, k2, k3⟩ := (H.out.on BW).get hpl
        have hln := len_le_tot fs p hpl
        have M0 := later_cell k1
        have M1 := later_cell k2
        have CO := Lib.hid (order_in (w0 := wr) (f := fs[p]) (g := f) ⟨_, rfl, k3⟩ (H2.out.on BW) (by omega) hf)
        clear k1 k2 k3 hlo hhi
        by_cases hz : factOrder fs[p] f = 0
        · have HT := Lib.hid (show R = true by rw [HE.out, hz]; rfl)
          rw [hz] at CO
          clear hz
          go_wp2_with (fail)
          refine wp_region_later (by kernel_rfl) (by kernel_rfl) ?_
          repeat (go_big_quiet_step ((go_at_call 58; exact later_of (CO.out _))))
          refine wpQuiet_nil ?_
          rintro _ ⟨xq, rfl⟩
          go_wp2_with (fail)
          go_ret2
          rw [HT.out]
          exact ⟨⟨_, rfl⟩, bthen BW xq.2⟩
        · have hz2 : (factOrder fs[p] f == 0) = false := by simpa using hz
          have HT := Lib.hid (show R = false by rw [HE.out, hz2])
          clear hz
          go_wp2_with (fail)
          refine wp_region_later (by kernel_rfl) (by kernel_rfl) ?_
          repeat (go_big_quiet_step ((go_at_call 58; exact later_of (CO.out _))))
          refine wpQuiet_nil ?_
          rintro _ ⟨xq, rfl⟩
          go_wp2_with (fail)
          go_ret2
          rw [HT.out]
          exact ⟨⟨_, rfl⟩, bthen BW xq.2⟩
      · have HT := Lib.hid (show R = false by rw [HR.out, has_none hlo hpl])
        clear hlo hhi
        go_wp2_with (fail)
        refine wp_region_later (by kernel_rfl) (by kernel_rfl) ?_
        repeat (go_big_quiet_step (fail))
        refine wpQuiet_nil ?_
        rintro _ ⟨xq, rfl⟩
        go_wp2_with (fail)
        go_ret2
        rw [HT.out]
        exact ⟨⟨_, rfl⟩, bthen BW xq.2⟩

set_option maxHeartbeats 400000 in
set_option maxRecDepth 100000 in
theorem setHas_any (v v2 : Value) (fs : List LFact) (f : LFact) (w : World) (h : RdFacts w w.heap.size v fs) (h2 : RdFact w w.heap.size v2 f) (ha : Asc fs) (hn : fs.length ≤ 2097152) (hl : tot fs ≤ 1048576) (hf : f.2.length ≤ 1048576) :
    Calls Tryz.prog 66 #[v, v2] w fun e w' => e = .returned (.bool (decide (f ∈ fs))) ∧ Below w.heap.size w w' := by
  have H := Lib.hid h
  have H2 := Lib.hid h2
  obtain ⟨A, c, rfl, hc, _⟩ := h
  obtain ⟨u, rfl, A2, c2, rfl, hc2, _⟩ := h2
  have HB := Lib.hid (fun W (hW : Below w.heap.size w W) => binF_any (.slice A fs.length c) (.agg #[.int .i64 f.1, .slice A2 f.2.length c2]) fs f W (H.out.on hW) (H2.out.on hW) ha hn hl hf)
  generalize decide (f ∈ fs) = R at HB ⊢
  go_enter Tryz.func66, Tryz.ntmps66
  go_wp2_with (fail)
  refine (HB.out _ (below1 _ _)).mono ?_
  rintro e w2 ⟨⟨i, rfl⟩, hb2⟩
  have B2 := bthen (below1 _ _) hb2
  clear hb2
  go_wp2_with (fail)
  go_ret
  exact ⟨rfl, B2⟩

end Go.Proofs.YtofkcmihcgmmpaaGreat
/-
  factsByOther; the program's FactsBoth and FactsLess.
-/
namespace Go.Proofs.YtofkcmihcgmmpaaGreat
open Go.RowKit Go.Sort

theorem factsHas_mem (ys : List LFact) (f : LFact) : factsHas ys f = decide (f ∈ ys) := by
  unfold factsHas
  by_cases h : f ∈ ys
  · rw [decide_eq_true h, List.any_eq_true]
    exact ⟨f, h, by rw [order_refl]; rfl⟩
  · rw [decide_eq_false h, List.any_eq_false]
    intro g hg e
    refine h ?_
    rw [← order_eq (f := g) (g := f) (by simpa using e)]
    exact hg
/-- The facts of a list, each once, that another has, or has not. -/
def byOther (xs ys : List LFact) (b : Bool) : List LFact := xs.filter fun f => decide (f ∈ ys) == b
theorem byOther_pick (xs ys : List LFact) (b : Bool) : byOther (setOf xs) (setOf ys) b = pickL xs ys b := by
  unfold byOther pickL
  refine Asc.unique ((setOf_asc xs).filter _) (setOf_asc _) fun f => ?_
  have : decide (f ∈ setOf ys) = decide (f ∈ ys) := by
    by_cases h : f ∈ ys
    · rw [decide_eq_true h, decide_eq_true ((setOf_mem ys f).2 h)]
    · rw [decide_eq_false h, decide_eq_false (fun e => h ((setOf_mem ys f).1 e))]
  rw [List.mem_filter, setOf_mem xs f, this, setOf_mem (xs.filter fun f => factsHas ys f == b) f, List.mem_filter, factsHas_mem]
theorem byOther_yes {xs ys : List LFact} {b : Bool} {k : Nat} (h : k < xs.length) (e : decide (xs[k] ∈ ys) = b) : byOther (xs.take (k + 1)) ys b = byOther (xs.take k) ys b ++ [xs[k]] := by
  unfold byOther
  rw [take_snoc xs k h, List.filter_append]
  simp [e]
theorem byOther_no {xs ys : List LFact} {b : Bool} {k : Nat} (h : k < xs.length) (e : decide (xs[k] ∈ ys) ≠ b) : byOther (xs.take (k + 1)) ys b = byOther (xs.take k) ys b := by
  unfold byOther
  rw [take_snoc xs k h, List.filter_append]
  simp [e]
theorem byOther_length (xs ys : List LFact) (b : Bool) (k : Nat) : (byOther (xs.take k) ys b).length ≤ k := by
  unfold byOther
  refine Nat.le_trans (List.length_filter_le _ _) ?_
  simp
  omega

set_option maxHeartbeats 2000000 in
set_option maxRecDepth 100000 in
theorem factsByOther_any (v v2 : Value) (xs ys : List LFact) (b : Bool) (w : World) (h : RdFacts w w.heap.size v xs) (h2 : RdFacts w w.heap.size v2 ys) (hn : xs.length + ys.length ≤ 1048576) (ht : tot xs + tot ys ≤ 1048576) :
    Calls Tryz.prog 40 #[v, v2, .bool b] w fun e w' => ∃ A' c', e = .returned (.slice A' (pickL xs ys b).length c') ∧ OwnFacts w' w.heap.size w'.heap.size (.slice A' (pickL xs ys b).length c') (pickL xs ys b) ∧ Below w.heap.size w w' := by
  obtain ⟨i0, hi0, hz0, hz1, hz2⟩ := info_parts Tryz.infoFact
  have H := Lib.hid h
  have H2 := Lib.hid h2
  obtain ⟨A, c, rfl, hc, _⟩ := h
  obtain ⟨A2, c2, rfl, hc2, _⟩ := h2
  obtain ⟨fs, hfs⟩ : ∃ fs, fs = setOf xs := ⟨_, rfl⟩
  obtain ⟨gs, hgs⟩ : ∃ gs, gs = setOf ys := ⟨_, rfl⟩
  have HFS := Lib.hid hfs
  have HGS := Lib.hid hgs
  have HAS := Lib.hid (show Asc gs by rw [hgs]; exact setOf_asc ys)
  have HPK := Lib.hid (show byOther fs gs b = pickL xs ys b by rw [hfs, hgs]; exact byOther_pick xs ys b)
  rw [← HPK.out]
  have hfb : fs.length ≤ 1048576 ∧ tot fs ≤ 1048576 := by have := setOf_bound xs; rw [hfs]; omega
  have hgb : gs.length ≤ 1048576 ∧ tot gs ≤ 1048576 := by have := setOf_bound ys; rw [hgs]; omega
  obtain ⟨hfl, hft⟩ := hfb
  obtain ⟨hgl, hgt⟩ := hgb
  clear hfs hgs
  go_enter Tryz.func40, Tryz.ntmps40
  go_wp2_with (fail)
  refine (factSet_any _ ys w H2.out (by omega) (by omega)).mono ?_
  rw [← HGS.out]
  rintro e w1 ⟨Ag, cg, rfl, hrg, hb1⟩
  have HG := Lib.hid hrg
  clear hrg
  go_wp2_with (fail)
  refine (factSet_any _ xs w1 (H.out.on hb1) (by omega) (by omega)).mono ?_
  rw [← HFS.out]
  rintro e w2 ⟨Af, cf, rfl, hrf, hb2⟩
  have HF := Lib.hid hrf
  have HG2 := Lib.hid (HG.out.on hb2)
  have B2 := bthen hb1 hb2
  clear hrf
  go_wp2_with (fail)
  go_loopw [8, 10, 16] (fun o _ i wr => ∃ (k : Nat) (A' : Option Addr) (c' : Nat) (av : List Value), k ≤ fs.length ∧ i = .int .i64 k ∧ o = .slice A' (byOther (fs.take k) gs b).length c' ∧ ColRel w2 wr (byOther (fs.take k) gs b) A' c' av) (fun _ _ i _ => fs.length - (intOf i).toNat)
  case atStart => exact ⟨0, _, 0, [], Nat.zero_le _, rfl, by simp [byOther], ColRel.nil w2⟩
  case round =>
    obtain ⟨k, A', c', av, hk, rfl, rfl, hr⟩ := hrel
    by_cases hlt : k < fs.length
    · obtain ⟨bb, o, A3, c3, rfl, hbB, k1, k2, k3⟩ := (HF.out.on hr.below).get hlt
      have hln := len_le_tot fs k hlt
      have hgl2 := byOther_length fs gs b k
      have K3 := Lib.hid (show RdFact wr wr.heap.size (.agg #[.int .i64 fs[k].1, .slice A3 fs[k].2.length c3]) fs[k] from ⟨_, rfl, k3⟩)
      have HSH := Lib.hid (fun W (hW : Below wr.heap.size wr W) => setHas_any (.slice Ag gs.length cg) (.agg #[.int .i64 fs[k].1, .slice A3 fs[k].2.length c3]) gs fs[k] W ((HG2.out.on hr.below).on hW) (K3.out.on hW) HAS.out (by omega) hgt (by omega))
      have HR := Lib.hid hr
      clear k3 hr
      go_wp2_with (fail)
      obtain ⟨w3, hw3⟩ : ∃ w3, w3 = wr.alloc (Obj.cells #[Value.int IntKind.i64 fs[k].1, Value.slice A3 fs[k].2.length c3] 35) := ⟨_, rfl⟩
      have B3 : Below wr.heap.size wr w3 := by rw [hw3]; exact below1 _ _
      have x3 : Blk w3 wr.heap.size 35 #[.int .i64 fs[k].1, .slice A3 fs[k].2.length c3] := by rw [hw3]; exact Blk.new _ _ _
      rw [← hw3]
      clear hw3 k1 k2
      refine (HSH.out w3 B3).mono ?_
      rintro e w4 ⟨rfl, hb4⟩
      have B4 := bthen B3 hb4
      have x4 := x3.below hb4 x3.lt
      have q0 : w4.cell? ⟨wr.heap.size, 0, none⟩ = some (.int .i64 fs[k].1) := x4.cell 0
      have q1 : w4.cell? ⟨wr.heap.size, 1, none⟩ = some (.slice A3 fs[k].2.length c3) := x4.cell 1
      have HP := Lib.hid (HR.out.on B4)
      have K4 := Lib.hid (K3.out.on B4)
      clear x3 x4
      by_cases he : decide (fs[k] ∈ gs) = b
      · have HS := Lib.hid (byOther_yes hlt he)
        have hq : (b == b) = true := by simp
        rw [he]
        clear he
        go_wp2_with (fail)
        refine (copyFact_any _ fs[k] _ K4.out (by omega)).mono ?_
        rintro e w5 ⟨A4, c4, rfl, ho4, hb5⟩
        have hz5 := hb5.size
        clear q0 q1
        go_wp2_with (at_builtin; refine wpList_append_lies _ rfl (.tmp 25) (.tmp 28) 23 rfl w2.heap.size 35 i0 (.agg #[.int .i64 0, .slice none 0 0]) 2 32 Tryz.underlying23 hi0 hz0 hz1 hz2 rfl (by decide) (.slice A' (byOther (fs.take k) gs b).length c') (byOther (fs.take k) gs b).length (flat (byOther (fs.take k) gs b) av) rfl ?c1 ⟨w5.heap.size, 0, none⟩ 1 1 [.int .i64 fs[k].1, .slice A4 fs[k].2.length c4] rfl rfl (news2 _ _ _ _) ?c2 (by omega) (by unfold maxLen; omega) (by omega) ?c3 _ rfl ?_)
        case c1 => exact (ownsRow_below HP.out.own.row HP.out.own.lt hb5 (Nat.le_refl _)).alloc _
        case c2 => intro u hu; simp at hu; rcases hu with rfl | rfl <;> rfl
        case c3 => have := HP.out.below.size; simp; omega
        intro g cap w6 hown hg _ _
        obtain ⟨av', hcol, hlen⟩ := HP.out.push HS.out hb5 ho4 hg hown
        rw [hlen]
        have HC := Lib.hid hcol
        clear hcol hlen hown hg
        go_wp2_with (fail)
        go_roundw
        case rel => exact ⟨k + 1, _, _, _, by omega, by go_num, rfl, HC.out⟩
        case measure => simp [intOf]; omega
      · have heb : (decide (fs[k] ∈ gs) == b) = false := by simpa using he
        have HS := Lib.hid (byOther_no hlt he)
        generalize decide (fs[k] ∈ gs) = D at heb
        clear he
        go_wp2_with (fail)
        go_roundw
        case rel => exact ⟨k + 1, _, _, _, by omega, by go_num, by rw [HS.out], by rw [HS.out]; exact HP.out⟩
        case measure => simp [intOf]; omega
    · have hkn : k = fs.length := by omega
      have HO := Lib.hid (show OwnFacts wr w2.heap.size wr.heap.size (.slice A' (byOther fs gs b).length c') (byOther fs gs b) ∧ byOther (fs.take k) gs b = byOther fs gs b by
        have e : fs.take k = fs := by rw [hkn, List.take_length]
        have := hr.own.own
        rw [e] at this ⊢
        exact ⟨this, rfl⟩)
      have hbe := hr.below
      have hs2 := B2.size
      rw [HO.out.2]
      clear hkn hr
      go_wp2_with (fail)
      go_ret
      exact ⟨_, _, rfl, HO.out.1.mono hs2 (Nat.le_refl _), bthen B2 hbe⟩

theorem implFactsLess_any (v v2 : Value) (xs ys : List LFact) (w : World) (h : RdFacts w w.heap.size v xs) (h2 : RdFacts w w.heap.size v2 ys) (hn : xs.length + ys.length ≤ 1048576) (ht : tot xs + tot ys ≤ 1048576) :
    Calls Tryz.prog 18 #[v, v2] w fun e w' => ∃ A' c', e = .returned (.slice A' (pickL xs ys false).length c') ∧ OwnFacts w' w.heap.size w'.heap.size (.slice A' (pickL xs ys false).length c') (pickL xs ys false) ∧ Below w.heap.size w w' := by
  have H := Lib.hid h
  have H2 := Lib.hid h2
  obtain ⟨A, c, rfl, hc, _⟩ := h
  obtain ⟨A2, c2, rfl, hc2, _⟩ := h2
  go_enter Tryz.func18, Tryz.ntmps18
  go_wp2_with (fail)
  refine (factsByOther_any _ _ xs ys false _ H.out H2.out hn ht).mono ?_
  rintro e w1 ⟨A', c', rfl, ho, hb⟩
  have HO := Lib.hid (And.intro ho hb)
  clear ho hb
  go_wp2_with (fail)
  go_ret
  exact ⟨A', c', rfl, HO.out.1, HO.out.2⟩

end Go.Proofs.YtofkcmihcgmmpaaGreat
/-
  The specification's l7Uses, l7Fresh, FreshSolutions.
-/
namespace Go.Proofs.YtofkcmihcgmmpaaGreat
open Go.RowKit

theorem usesF_snoc {fr : List LFact} {ls : List LLit} {b : List Int} {k : Nat} (h : k < ls.length) : usesF fr (ls.take (k + 1)) b = (usesF fr (ls.take k) b || (decide (ls[k].1 = 0) && (headOk ls[k].2 b && factsHas fr (headOf ls[k].2 b)))) := by
  unfold usesF
  rw [take_snoc ls k h, List.any_append]
  simp
theorem usesF_at {fr : List LFact} {ls : List LLit} {b : List Int} {k : Nat} (h : k < ls.length) (e : (decide (ls[k].1 = 0) && (headOk ls[k].2 b && factsHas fr (headOf ls[k].2 b))) = true) : usesF fr ls b = true := by
  unfold usesF
  rw [List.any_eq_true]
  exact ⟨ls[k], List.getElem_mem h, e⟩

set_option maxHeartbeats 2000000 in
set_option maxRecDepth 100000 in
theorem l7Uses_any (v v2 v3 : Value) (fr : List LFact) (ls : List LLit) (bs : List Int) (w : World) (h : RdFacts w w.heap.size v fr) (h2 : RdLits w w.heap.size v2 ls) (h3 : RdInts w w.heap.size v3 bs) (hn : fr.length ≤ 1048576) (ht : tot fr ≤ 1048576) (hl : ls.length + totL ls ≤ 1048576) (hb : bs.length ≤ 1048576) :
    Calls Tryz.prog 49 #[v, v2, v3] w fun e w' => e = .returned (.bool (usesF fr ls bs)) ∧ Below w.heap.size w w' := by
  have H := Lib.hid h
  have H2 := Lib.hid h2
  have H3 := Lib.hid h3
  obtain ⟨A, c, rfl, hc, _⟩ := h
  obtain ⟨A2, c2, rfl, hc2, _⟩ := h2
  obtain ⟨A3, c3, rfl, hc3, _⟩ := h3
  obtain ⟨R, hR⟩ : ∃ R, R = usesF fr ls bs := ⟨_, rfl⟩
  have HR := Lib.hid hR
  rw [← hR]
  clear hR
  go_enter Tryz.func49, Tryz.ntmps49
  go_wp2_with (fail)
  go_loopw [7] (fun i wr => ∃ k : Nat, k ≤ ls.length ∧ i = .int .i64 k ∧ usesF fr (ls.take k) bs = false ∧ Below w.heap.size w wr) (fun i _ => ls.length - (intOf i).toNat)
  case atStart => exact ⟨0, Nat.zero_le _, rfl, rfl, Below.refl _ _⟩
  case round =>
    obtain ⟨k, hk, rfl, hs, hbe⟩ := hrel
    have HS := Lib.hid hs
    have HBE := Lib.hid hbe
    clear hs
    by_cases hlt : k < ls.length
    · obtain ⟨b, o, u0, u1, u2, rfl, hbB, k0, k1, k2, rfl, rfl, p3⟩ := (H2.out.on hbe).get hlt
      have HA := Lib.hid p3
      obtain ⟨A4, c4, rfl, hc4, _⟩ := p3
      have hle := len_le_totL ls k hlt
      have HN := Lib.hid (usesF_snoc (fr := fr) (b := bs) hlt)
      have HAT := Lib.hid (usesF_at (fr := fr) (b := bs) hlt)
      clear hbe hbB
      by_cases he : ls[k].1 = 0
      · have CH := Lib.hid (fun W (hW : Below wr.heap.size wr W) => specHeadOf_any (.agg #[.int .i64 ls[k].2.1, .slice A4 ls[k].2.2.length c4]) (.slice A3 bs.length c3) ls[k].2 bs W ⟨_, rfl, HA.out.on hW⟩ (H3.out.on (bthen HBE.out hW)) (by omega) hb)
        obtain ⟨hd, hhd⟩ : ∃ hd, hd = headOf ls[k].2 bs := ⟨_, rfl⟩
        obtain ⟨ok, hok⟩ : ∃ ok, ok = headOk ls[k].2 bs := ⟨_, rfl⟩
        have hdl : hd.2.length ≤ 1048576 := by rw [hhd]; unfold headOf; split <;> simp <;> omega
        rw [← hhd, ← hok] at CH HN HAT
        have he0 : ((ls[k].1 : Int) == 0) = true := by simp [he]
        have HE := Lib.hid he
        clear hhd hok
        cases ok
        · have HS2 := Lib.hid (show usesF fr (ls.take (k + 1)) bs = false from by rw [HN.out, HS.out]; simp)
          clear he
          go_wp2_with (go_at_call 86; refine (CH.out _ (Below.refl _ _)).mono ?_; rintro e w1 ⟨A5, c5, rfl, o5, b5⟩; have H5 := Lib.hid (And.intro o5 b5); clear o5 b5)
          go_roundw
          case rel => exact ⟨k + 1, by omega, by go_num, HS2.out, bthen (bthen HBE.out H5.out.2) (below1 _ _)⟩
          case measure => simp [intOf]; omega
        · obtain ⟨fh, hfh⟩ : ∃ fh, fh = factsHas fr hd := ⟨_, rfl⟩
          have HFH := Lib.hid hfh
          rw [← hfh] at HN HAT
          clear he
          have CFH := Lib.hid (fun W (hW : Below wr.heap.size wr W) (A5 : Option Addr) (c5 : Nat) (hq : RdInts W W.heap.size (.slice A5 hd.2.length c5) hd.2) => specFactsHas_any (.slice A fr.length c) (.agg #[.int .i64 hd.1, .slice A5 hd.2.length c5]) fr hd W (H.out.on (bthen HBE.out hW)) ⟨_, rfl, hq⟩ hn ht hdl)
          rw [← hfh] at CFH
          clear hfh
          cases fh
          · have HS2 := Lib.hid (show usesF fr (ls.take (k + 1)) bs = false from by rw [HN.out, HS.out]; simp)
            go_wp2_with (first
              | (go_at_call 86; refine (CH.out _ (Below.refl _ _)).mono ?_; rintro e w1 ⟨A5, c5, rfl, o5, b5⟩; have H5 := Lib.hid (And.intro (o5.rd.on (below1 w1 (.cells #[.int .i64 hd.1, .slice A5 hd.2.length c5] 35))) (bthen b5 (below1 w1 (.cells #[.int .i64 hd.1, .slice A5 hd.2.length c5] 35)))); clear o5 b5)
              | (go_at_call 87; refine (CFH.out _ H5.out.2 _ _ H5.out.1).mono ?_; rintro e w2 ⟨rfl, b6⟩; have H6 := Lib.hid b6; clear b6))
            go_roundw
            case rel => exact ⟨k + 1, by omega, by go_num, HS2.out, bthen (bthen HBE.out H5.out.2) H6.out⟩
            case measure => simp [intOf]; omega
          · have HT := Lib.hid (show true = R by rw [HR.out, HAT.out (by simp [HE.out])])
            go_wp2_with (first
              | (go_at_call 86; refine (CH.out _ (Below.refl _ _)).mono ?_; rintro e w1 ⟨A5, c5, rfl, o5, b5⟩; have H5 := Lib.hid (And.intro (o5.rd.on (below1 w1 (.cells #[.int .i64 hd.1, .slice A5 hd.2.length c5] 35))) (bthen b5 (below1 w1 (.cells #[.int .i64 hd.1, .slice A5 hd.2.length c5] 35)))); clear o5 b5)
              | (go_at_call 87; refine (CFH.out _ H5.out.2 _ _ H5.out.1).mono ?_; rintro e w2 ⟨rfl, b6⟩; have H6 := Lib.hid b6; clear b6))
            go_ret
            exact ⟨ret_bool HT.out, bthen (bthen HBE.out H5.out.2) H6.out⟩
      · have he0 : ((ls[k].1 : Int) == 0) = false := by rw [beq_eq_false_iff_ne]; exact he
        have HS2 := Lib.hid (show usesF fr (ls.take (k + 1)) bs = false from by rw [HN.out, HS.out]; simp [he])
        clear he
        go_wp2_with (fail)
        go_roundw
        case rel => exact ⟨k + 1, by omega, by go_num, HS2.out, HBE.out⟩
        case measure => simp [intOf]; omega
    · have hkn : k = ls.length := by omega
      have HE := Lib.hid (show R = false by rw [HR.out]; have := HS.out; rw [hkn, List.take_length] at this; exact this)
      clear hkn
      go_wp2_with (fail)
      go_ret
      exact ⟨ret_bool HE.out.symm, HBE.out⟩

theorem filter_yes {α : Type} {f : α → Bool} {l : List α} {k : Nat} (h : k < l.length) (e : f l[k] = true) : (l.take (k + 1)).filter f = (l.take k).filter f ++ [l[k]] := by
  rw [take_snoc l k h, List.filter_append]
  simp [e]
theorem filter_no {α : Type} {f : α → Bool} {l : List α} {k : Nat} (h : k < l.length) (e : f l[k] = false) : (l.take (k + 1)).filter f = (l.take k).filter f := by
  rw [take_snoc l k h, List.filter_append]
  simp [e]

set_option maxHeartbeats 4000000 in
set_option maxRecDepth 100000 in
theorem l7Fresh_any (v v2 v3 : Value) (fs fr : List LFact) (ls : List LLit) (gs : List LFact) (S : List (List Int)) (hgs : gs = setOf (fs ++ fr)) (hS : S = solsOf gs ls) (w : World) (h : RdFacts w w.heap.size v fs) (h2 : RdFacts w w.heap.size v2 fr) (h3 : RdLits w w.heap.size v3 ls)
    (hn : fs.length + fr.length ≤ 1048576) (ht : tot fs + tot fr ≤ 1048576) (hl : ls.length + totL ls ≤ 1048576) (hc : ∀ f ∈ gs, f.2.all constOk = true) (hT : ∀ l ∈ ls, l.2.2.all termOk = true) (hok : ∀ b ∈ S, bindOk b = true) (hSl : S.length ≤ 65536) :
    Calls Tryz.prog 24 #[v, v2, v3] w fun e w' => ∃ A c, e = .returned (.slice A (S.filter (usesF fr ls)).length c) ∧ WkRows w' w.heap.size w'.heap.size (.slice A (S.filter (usesF fr ls)).length c) (S.filter (usesF fr ls)) ∧ Below w.heap.size w w' := by
  obtain ⟨i0, hi0, hz0, hz1, hz2⟩ := info_parts Tryz.infoIntS
  have H := Lib.hid h
  have H2 := Lib.hid h2
  have H3 := Lib.hid h3
  obtain ⟨A, c, rfl, hc1, _⟩ := h
  obtain ⟨A2, c2, rfl, hc2, _⟩ := h2
  obtain ⟨A3, c3, rfl, hc3, _⟩ := h3
  have CE := Lib.hid (specFactsEither_any (.slice A fs.length c) (.slice A2 fr.length c2) fs fr w H.out H2.out hn ht)
  have hbd := setOf_bound (fs ++ fr)
  have hap : (fs ++ fr).length = fs.length + fr.length ∧ tot (fs ++ fr) = tot fs + tot fr := ⟨List.length_append, tot_append fs fr⟩
  have hnd := asc_nodup (setOf_asc (fs ++ fr))
  rw [← hgs] at CE hbd hnd
  have HP := Lib.hid (And.intro hS (And.intro hc (And.intro hnd hT)))
  have HOK := Lib.hid hok
  clear hgs hS hc hT hok hnd
  go_enter Tryz.func24, Tryz.ntmps24
  go_upto_region 2 with (first
    | (go_at_call 48; refine CE.out.mono ?_; rintro e w3 ⟨A4, c4, rfl, o4, b4⟩
       have HS := Lib.hid (l3Solutions_any (.slice A4 gs.length c4) (.slice A3 ls.length c3) gs ls S HP.out.1 w3 o4.rd (H3.out.on b4) (by omega) (by omega) hl HP.out.2.1 HP.out.2.2.1 HP.out.2.2.2)
       have HB3 := Lib.hid b4
       clear o4 b4)
    | (go_at_call 47; refine HS.out.mono ?_; rintro e w5 ⟨A5, c5, rfl, o5, b5⟩; have H5 := Lib.hid (And.intro (o5.mono HB3.out.size (Nat.le_refl _)) (bthen HB3.out b5)); clear o5 b5))
  have C0 := Lib.hid (ColS.empty (lo := w.heap.size) (Below.refl w5.heap.size w5))
  go_wp2_with (fail)
  go_loopw [8, 9] (fun o i wr => ∃ (k : Nat) (A' : Option Addr) (c' : Nat) (av : List Value), k ≤ S.length ∧ i = .int .i64 k ∧ o = .slice A' ((S.take k).filter (usesF fr ls)).length c' ∧ ColS w.heap.size w5 wr ((S.take k).filter (usesF fr ls)) A' c' av) (fun _ i _ => S.length - (intOf i).toNat)
  case atStart => exact ⟨0, _, 0, [], Nat.zero_le _, rfl, rfl, C0.out⟩
  case round =>
    obtain ⟨k, A', c', av, hk, rfl, rfl, hcol⟩ := hrel
    have HC := Lib.hid hcol
    have hbe := hcol.below
    clear hcol
    by_cases hlt : k < S.length
    · obtain ⟨g, A6, c6, rfl, hg, q0, o6⟩ := H5.out.1.get hlt
      have q0 := (hbe.cell (p := ⟨g, k, none⟩) hg).trans q0
      have hki : (k : Int) < (S.length : Int) := by omega
      have hbl : S[k].length ≤ 1048576 := by rw [bindOk_len (HOK.out _ (List.getElem_mem hlt))]; decide
      have HO6 := Lib.hid ((o6.below hbe (Nat.le_refl _)).mono (Nat.le_refl _) hbe.size)
      have CU := Lib.hid (l7Uses_any (.slice A2 fr.length c2) (.slice A3 ls.length c3) (.slice A6 S[k].length c6) fr ls S[k] wr (H2.out.on (bthen H5.out.2 hbe)) (H3.out.on (bthen H5.out.2 hbe)) HO6.out.rd (by omega) (by omega) hl hbl)
      have HY := Lib.hid (filter_yes (f := usesF fr ls) hlt)
      have HN := Lib.hid (filter_no (f := usesF fr ls) hlt)
      obtain ⟨u, hu⟩ : ∃ u, u = usesF fr ls S[k] := ⟨_, rfl⟩
      rw [← hu] at CU HY HN
      have h5s := H5.out.2.size
      clear o6 hu hg
      obtain ⟨x, hx⟩ : ∃ x, x = S[k] := ⟨_, rfl⟩
      rw [← hx] at CU HY HO6 q0 hbl
      clear hx
      obtain ⟨Q, hQ⟩ : ∃ Q, Q = (S.take k).filter (usesF fr ls) := ⟨_, rfl⟩
      have hQl : Q.length ≤ 65536 := by rw [hQ]; have := List.length_filter_le (usesF fr ls) (S.take k); rw [List.length_take] at this; omega
      rw [← hQ] at HC HY HN ⊢
      clear hQ
      cases u
      · go_wp2_with (go_at_call 49; refine CU.out.mono ?_; rintro e w6 ⟨rfl, b6⟩; have H6 := Lib.hid b6; clear b6)
        go_roundw
        case rel => exact ⟨k + 1, _, _, av, by omega, by go_num, by rw [HN.out (by first | trivial | rfl)], by rw [HN.out (by first | trivial | rfl)]; exact HC.out.on H6.out⟩
        case measure => simp [intOf]; omega
      · go_upto_region 7 with (go_at_call 49; refine CU.out.mono ?_; rintro e w6 ⟨rfl, b6⟩; have H6 := Lib.hid b6; clear b6)
        have q0 := (H6.out.cell (World.block_lt_of_cell? _ _ q0)).trans q0
        have HC6 := Lib.hid (HC.out.on H6.out)
        have hrow := HC6.out.row
        go_wp2_with (at_builtin; go_loud (refine wpList_append_lies _ rfl (.tmp 29) (.tmp 34) 27 rfl w5.heap.size 33 i0 (.slice none 0 0) 1 24 Tryz.underlying27 hi0 hz0 hz1 hz2 rfl (by decide) (.slice A' Q.length c') Q.length av rfl ?c1 ⟨w6.heap.size, 0, none⟩ 1 1 [.slice A6 x.length c6] rfl rfl (news1 _ _ _) ?c2 (by omega) (by unfold maxLen; omega) (by omega) ?c3 _ rfl ?_))
        case c1 => exact hrow.alloc _
        case c2 => intro u hu; simp at hu; subst hu; rfl
        case c3 => have := HC6.out.below.size; simp; omega
        intro g2 cap w7 hown hg2 _ _
        have hpush := HC6.out.push (HY.out (by first | trivial | rfl)) (Below.refl _ _) ((HO6.out.below H6.out (Nat.le_refl _)).mono (Nat.le_refl _) H6.out.size) hg2 hown
        have HPU := Lib.hid hpush.1
        rw [hpush.2]
        clear hpush hown hg2 hrow
        go_wp2_with (fail)
        go_roundw
        case rel => exact ⟨k + 1, _, _, _, by omega, by go_num, rfl, HPU.out⟩
        case measure => simp [intOf]; omega
    · have hkn : k = S.length := by omega
      have HQ := Lib.hid (show (S.take k).filter (usesF fr ls) = S.filter (usesF fr ls) by rw [hkn, List.take_length])
      rw [HQ.out] at HC ⊢
      have HR := Lib.hid (HC.out.rows H5.out.2.size)
      have HBX := Lib.hid (bthen H5.out.2 hbe)
      clear hkn
      go_wp2_with (fail)
      go_ret
      exact ⟨_, _, rfl, HR.out, HBX.out⟩

theorem freshL_no {fs fr : List LFact} {ls : List LLit} (h : (bodySafe ls && (constsL fs && constsL fr)) = false) : freshL fs fr ls = [] := by
  unfold freshL
  rw [if_neg (by rw [h]; decide)]

set_option maxHeartbeats 2000000 in
set_option maxRecDepth 100000 in
theorem specFreshSolutions_any (v v2 v3 : Value) (fs fr : List LFact) (ls : List LLit) (R : List (List Int)) (hR : R = freshL fs fr ls) (w : World) (h : RdFacts w w.heap.size v fs) (h2 : RdFacts w w.heap.size v2 fr) (h3 : RdLits w w.heap.size v3 ls) (hn : fs.length + fr.length ≤ 1048576) (ht : tot fs + tot fr ≤ 1048576) (hl : ls.length + totL ls ≤ 1048576) :
    Calls Tryz.prog 7 #[v, v2, v3] w fun e w' => ∃ A c, e = .returned (.slice A R.length c) ∧ WkRows w' w.heap.size w'.heap.size (.slice A R.length c) R ∧ Below w.heap.size w w' := by
  have H := Lib.hid h
  have H2 := Lib.hid h2
  have H3 := Lib.hid h3
  have HR := Lib.hid hR
  obtain ⟨A, c, rfl, hc, _⟩ := h
  obtain ⟨A2, c2, rfl, hc2, _⟩ := h2
  obtain ⟨A3, c3, rfl, hc3, _⟩ := h3
  clear hR
  obtain ⟨sf, hsf⟩ : ∃ sf, sf = bodySafe ls := ⟨_, rfl⟩
  obtain ⟨cf, hcf⟩ : ∃ cf, cf = constsL fs := ⟨_, rfl⟩
  obtain ⟨cr, hcr⟩ : ∃ cr, cr = constsL fr := ⟨_, rfl⟩
  have CB := Lib.hid (specBodySafe_any (.slice A3 ls.length c3) ls w H3.out hl)
  rw [← hsf] at CB
  have CH := Lib.hid (fun W (hW : Below w.heap.size w W) => l3Consts_is hcf.symm (.slice A fs.length c) w.heap.size W (H.out.below hW (Nat.le_refl _)) (by omega) (by omega))
  have CH2 := Lib.hid (fun W (hW : Below w.heap.size w W) => l3Consts_is hcr.symm (.slice A2 fr.length c2) w.heap.size W (H2.out.below hW (Nat.le_refl _)) (by omega) (by omega))
  have HSF := Lib.hid hsf
  have HCF := Lib.hid hcf
  have HCR := Lib.hid hcr
  clear hsf hcf hcr
  cases sf
  · have HE := Lib.hid (show R = [] by rw [HR.out]; exact freshL_no (by rw [← HSF.out]; rfl))
    go_enter Tryz.func7, Tryz.ntmps7
    go_wp2_with (go_at_call 9; refine CB.out.mono ?_; rintro e w1 ⟨rfl, hb1⟩; have HB1 := Lib.hid hb1; clear hb1)
    go_ret
    rw [HE.out]
    exact ⟨none, 0, rfl, WkRows.none _ _ _, HB1.out⟩
  · cases cf
    · have HE := Lib.hid (show R = [] by rw [HR.out]; exact freshL_no (by rw [← HSF.out, ← HCF.out]; rfl))
      go_enter Tryz.func7, Tryz.ntmps7
      go_wp2_with (first
        | (go_at_call 9; refine CB.out.mono ?_; rintro e w1 ⟨rfl, hb1⟩; have HB1 := Lib.hid hb1; clear hb1)
        | (go_at_call 23; refine (CH.out _ HB1.out).mono ?_; rintro e w2 ⟨rfl, rfl⟩))
      go_ret
      rw [HE.out]
      exact ⟨none, 0, rfl, WkRows.none _ _ _, HB1.out⟩
    · cases cr
      · have HE := Lib.hid (show R = [] by rw [HR.out]; exact freshL_no (by rw [← HCF.out, ← HCR.out]; simp))
        go_enter Tryz.func7, Tryz.ntmps7
        go_wp2_with (first
          | (go_at_call 9; refine CB.out.mono ?_; rintro e w1 ⟨rfl, hb1⟩; have HB1 := Lib.hid hb1; clear hb1)
          | (go_at_call 23; first
             | (refine (CH.out _ HB1.out).mono ?_; rintro e w2 ⟨rfl, rfl⟩; clear CH)
             | (refine (CH2.out _ HB1.out).mono ?_; rintro e w2 ⟨rfl, rfl⟩)))
        go_ret
        rw [HE.out]
        exact ⟨none, 0, rfl, WkRows.none _ _ _, HB1.out⟩
      · have hsz := freshL_all (fs := fs) (fr := fr) (ls := ls) HSF.out.symm HCF.out.symm HCR.out.symm
        have CF := Lib.hid (fun W (hW : Below w.heap.size w W) => l7Fresh_any (.slice A fs.length c) (.slice A2 fr.length c2) (.slice A3 ls.length c3) fs fr ls (setOf (fs ++ fr)) (solsOf (setOf (fs ++ fr)) ls) rfl rfl W (H.out.on hW) (H2.out.on hW) (H3.out.on hW) hn ht hl
          (fun f hf => consts_append HCF.out.symm HCR.out.symm f ((setOf_mem _ f).1 hf)) (SafeB.of HSF.out.symm).terms hsz.2.ok (binds_len hsz.2.1 hsz.2.ok))
        rw [← freshL_yes HSF.out.symm HCF.out.symm HCR.out.symm, ← HR.out] at CF
        clear hsz
        go_enter Tryz.func7, Tryz.ntmps7
        go_wp2_with (first
          | (go_at_call 9; refine CB.out.mono ?_; rintro e w1 ⟨rfl, hb1⟩; have HB1 := Lib.hid hb1; clear hb1)
          | (go_at_call 23; first
             | (refine (CH.out _ HB1.out).mono ?_; rintro e w2 ⟨rfl, rfl⟩; clear CH)
             | (refine (CH2.out _ HB1.out).mono ?_; rintro e w2 ⟨rfl, rfl⟩))
          | (go_at_call 24; refine (CF.out _ HB1.out).mono ?_; rintro e w5 ⟨A5, c5, rfl, o5, b5⟩; have H5 := Lib.hid (And.intro o5 b5); clear o5 b5))
        go_ret
        exact ⟨_, _, rfl, H5.out.1.mono HB1.out.size (Nat.le_refl _), bthen HB1.out H5.out.2⟩

end Go.Proofs.YtofkcmihcgmmpaaGreat
