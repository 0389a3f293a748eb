/-
  Texts that the claim's last one imports, laid together: part 11 of 12. No condition of its own.
-/
import Derived.Deep.RegionHeld3
import Derived.Deep.DeepCutAuto
import Derived.Deep.RegionWith
import Derived.Deep.RegionLaw
import Derived.Laws.BitsAllLaws
import Derived.Laws.CopyOwn
import Derived.Deep.WholeRow
import Derived.Shelf.Spec.TrailingZeros
import Derived.Laws.Bits64b
import Derived.Test.YtokmmloakahkhaaGreatMSs1
import Derived.Test.YtokmmloakahkhaaGreatMSs2
import Derived.Test.YtokmmloakahkhaaGreatMSs3
import Derived.Test.YtokmmloakahkhaaGreatMSs5
import Derived.Test.YtokmmloakahkhaaGreatMSs6
import Derived.Test.YtokmmloakahkhaaGreatMSs7
import Derived.Test.YtokmmloakahkhaaGreatMSs9
import Derived.Test.YtokmmloakahkhaaGreatMSs10
/-
  The specification's FactsEither and l1Pick: facts laid into a list one after another.
-/
namespace Go.Proofs.YtokmmloakahkhaaGreat
open Go.RowKit

theorem foldWith_bound : ∀ (l out : List LFact), (l.foldl factsWith out).length ≤ out.length + l.length ∧ tot (l.foldl factsWith out) ≤ tot out + tot l
  | [], out => by simp [tot]
  | f :: l, out => by
    have h1 := factsWith_bound out f
    have h2 := foldWith_bound l (factsWith out f)
    rw [tot_cons]
    simp only [List.foldl_cons, List.length_cons]
    omega
theorem setOf_bound (l : List LFact) : (setOf l).length ≤ l.length ∧ tot (setOf l) ≤ tot l := by
  have := foldWith_bound l []
  unfold setOf
  simpa [tot] using this
theorem setOf_snoc (l : List LFact) (f : LFact) : setOf (l ++ [f]) = factsWith (setOf l) f := by simp [setOf, List.foldl_append]

set_option maxHeartbeats 1000000 in
set_option maxRecDepth 100000 in
theorem specFactsEither_any (v v2 : Value) (xs ys : List LFact) (w : World) (h : RdFacts w w.heap.size v xs) (h2 : RdFacts w w.heap.size v2 ys) (hn : xs.length + ys.length ≤ 1048576) (ht : tot xs + tot ys ≤ 1048576) :
    Calls Tryz.prog 46 #[v, v2] w fun e w' => ∃ A' c', e = .returned (.slice A' (setOf (xs ++ ys)).length c') ∧ OwnFacts w' w.heap.size w'.heap.size (.slice A' (setOf (xs ++ ys)).length c') (setOf (xs ++ ys)) ∧ Below w.heap.size w w' := by
  have H := Lib.hid h
  have H2 := Lib.hid h2
  obtain ⟨A, c, rfl, hc, _⟩ := h
  obtain ⟨A2, c2, rfl, hc2, _⟩ := h2
  go_enter Tryz.func46, Tryz.ntmps46
  go_wp2_with (fail)
  go_loopw [5, 6] (fun o i wr => ∃ (k : Nat) (gs : List LFact) (A' : Option Addr) (c' : Nat), k ≤ xs.length ∧ i = .int .i64 k ∧ gs = setOf (xs.take k) ∧ o = .slice A' gs.length c' ∧ OwnFacts wr w.heap.size wr.heap.size (.slice A' gs.length c') gs ∧ Below w.heap.size w wr) (fun _ i _ => xs.length - (intOf i).toNat)
  case atStart => exact ⟨0, [], _, 0, Nat.zero_le _, rfl, rfl, rfl, (ColRel.empty w).own.own.mono (Nat.le_refl _) (Nat.le_refl _), below1 _ _⟩
  case round =>
    obtain ⟨k, gs, A', c', hk, rfl, hgs, rfl, ho, hbe⟩ := hrel
    have hbd := setOf_bound (xs.take k)
    rw [← hgs, List.length_take] at hbd
    have htk := tot_take_le xs k
    have HO := Lib.hid ho
    have HG := Lib.hid hgs
    clear ho hgs
    by_cases hlt : k < xs.length
    · obtain ⟨b, o, A3, c3, rfl, hbB, k1, k2, k3⟩ := (H.out.on hbe).get hlt
      have hln := len_le_tot xs k hlt
      have K3 := Lib.hid (show RdFact wr wr.heap.size (.agg #[.int .i64 xs[k].1, .slice A3 xs[k].2.length c3]) xs[k] from ⟨_, rfl, k3⟩)
      clear k3
      go_wp2_with (fail)
      refine (specFactsWith_any _ _ gs xs[k] _ HO.out.rd K3.out (by omega) (by omega) (by omega)).mono ?_
      rintro e w2 ⟨A4, c4, rfl, ho4, hb4⟩
      have HR := Lib.hid (show OwnFacts w2 w.heap.size w2.heap.size _ _ from ho4.mono hbe.size (Nat.le_refl _))
      have HB := Lib.hid (bthen hbe hb4)
      have HE := Lib.hid (show factsWith gs xs[k] = setOf (xs.take (k + 1)) by rw [take_snoc xs k hlt, setOf_snoc, ← HG.out])
      clear ho4 hb4
      go_wp2_with (fail)
      go_roundw
      case rel => exact ⟨k + 1, factsWith gs xs[k], _, _, by omega, by go_num, HE.out, rfl, HR.out, HB.out⟩
      case measure => simp [intOf]; omega
    · have hkn : k = xs.length := by omega
      subst hkn
      have HX := Lib.hid (show gs = setOf xs by rw [HG.out, List.take_length])
      clear HG
      go_wp2_with (fail)
      go_loopw [5, 7] (fun o i wq => ∃ (k : Nat) (gs : List LFact) (A' : Option Addr) (c' : Nat), k ≤ ys.length ∧ i = .int .i64 k ∧ gs = setOf (xs ++ ys.take k) ∧ o = .slice A' gs.length c' ∧ OwnFacts wq w.heap.size wq.heap.size (.slice A' gs.length c') gs ∧ Below w.heap.size w wq) (fun _ i _ => ys.length - (intOf i).toNat)
      case atStart => exact ⟨0, gs, _, _, Nat.zero_le _, rfl, by simpa using HX.out, rfl, HO.out, hbe⟩
      case round =>
        obtain ⟨k, gs, A', c', hk, rfl, hgs, rfl, ho, hbe⟩ := hrel
        have hbd := setOf_bound (xs ++ ys.take k)
        rw [← hgs, tot_append, List.length_append, List.length_take] at hbd
        have htk := tot_take_le ys k
        have HO := Lib.hid ho
        have HG := Lib.hid hgs
        clear ho hgs
        by_cases hlt : k < ys.length
        · obtain ⟨b, o, A3, c3, rfl, hbB, k1, k2, k3⟩ := (H2.out.on hbe).get hlt
          have hln := len_le_tot ys k hlt
          have K3 := Lib.hid (show RdFact _ _ (.agg #[.int .i64 ys[k].1, .slice A3 ys[k].2.length c3]) ys[k] from ⟨_, rfl, k3⟩)
          clear k3
          go_wp2_with (fail)
          refine (specFactsWith_any _ _ gs ys[k] _ HO.out.rd K3.out (by omega) (by omega) (by omega)).mono ?_
          rintro e w2 ⟨A4, c4, rfl, ho4, hb4⟩
          have HR := Lib.hid (show OwnFacts w2 w.heap.size w2.heap.size _ _ from ho4.mono hbe.size (Nat.le_refl _))
          have HB := Lib.hid (bthen hbe hb4)
          have HE := Lib.hid (show factsWith gs ys[k] = setOf (xs ++ ys.take (k + 1)) by rw [take_snoc ys k hlt, ← List.append_assoc, setOf_snoc, ← HG.out])
          clear ho4 hb4
          go_wp2_with (fail)
          go_roundw
          case rel => exact ⟨k + 1, factsWith gs ys[k], _, _, by omega, by go_num, HE.out, rfl, HR.out, HB.out⟩
          case measure => simp [intOf]; omega
        · have hkn : k = ys.length := by omega
          subst hkn
          have HY := Lib.hid (show gs = setOf (xs ++ ys) by rw [HG.out, List.take_length])
          have HB := Lib.hid hbe
          clear HG
          go_wp2_with (fail)
          go_ret
          rw [← HY.out]
          exact ⟨A', c', rfl, HO.out, HB.out⟩

end Go.Proofs.YtokmmloakahkhaaGreat
/-
  The specification's l3Solutions and Solutions.
-/
namespace Go.Proofs.YtokmmloakahkhaaGreat
open Go.RowKit

/-- A row of literals whose integers stand elsewhere. -/
def flatR : List LLit → List Value → List Value
  | l :: ls, u :: us => .int .i64 l.1 :: .int .i64 l.2.1 :: u :: flatR ls us
  | _, _ => []
theorem flatR_snoc : ∀ (ls : List LLit) (us : List Value) (_ : us.length = ls.length) (l : LLit) (u : Value), flatR (ls ++ [l]) (us ++ [u]) = flatR ls us ++ [.int .i64 l.1, .int .i64 l.2.1, u]
  | [], [], _, l, u => by simp [flatR]
  | [], u' :: us, h, _, _ => by simp at h
  | l :: ls, [], h, _, _ => by simp at h
  | l :: ls, u :: us, h, m, b => by simp [flatR, flatR_snoc ls us (by simpa using h) m b]
theorem flatR_at : ∀ (ls : List LLit) (us : List Value) (_ : us.length = ls.length) (k : Nat) (hk : k < ls.length) (hk' : k < us.length),
    (flatR ls us)[k * 3]? = some (.int .i64 ls[k].1) ∧ (flatR ls us)[k * 3 + 1]? = some (.int .i64 ls[k].2.1) ∧ (flatR ls us)[k * 3 + 2]? = some us[k]
  | l :: ls, u :: us, h, 0, _, _ => ⟨rfl, rfl, rfl⟩
  | l :: ls, u :: us, h, k + 1, h1, h2 => by
    have ih := flatR_at ls us (by simpa using h) k (by simpa using h1) (by simpa using h2)
    have e : ∀ r, (flatR (l :: ls) (u :: us))[(k + 1) * 3 + r]? = (flatR ls us)[k * 3 + r]? := fun r => by
      rw [show (k + 1) * 3 + r = (k * 3 + r) + 1 + 1 + 1 by omega]
      rfl
    have e0 := e 0
    rw [Nat.add_zero, Nat.add_zero] at e0
    rw [e0, e 1, e 2]
    exact ih
/-- The relation of a loop that collects literals that stand elsewhere. -/
structure ColLR (w wr : World) (ls : List LLit) (A : Option Addr) (c : Nat) (us : List Value) : Prop where
  below : Below w.heap.size w wr
  len : us.length = ls.length
  inn : ∀ i (h : i < ls.length) (h' : i < us.length), RdInts wr w.heap.size us[i] ls[i].2.2
  row : wr.ownsRow w.heap.size 35 3 (.slice A ls.length c) ls.length (flatR ls us)
theorem ColLR.empty (w wr : World) (hb : Below w.heap.size w wr) : ColLR w (wr.alloc (.cells #[] 35)) [] (some ⟨wr.heap.size, 0, none⟩) 0 [] :=
  ⟨hb.alloc hb.size _, rfl, fun i h => absurd h (by simp), World.ownsRow_made wr #[] 0 hb.size (by decide) rfl⟩
theorem ColLR.on {w wr w2 : World} {ls : List LLit} {A : Option Addr} {c : Nat} {us : List Value} (h : ColLR w wr ls A c us) (hb : Below wr.heap.size wr w2) : ColLR w w2 ls A c us :=
  ⟨bthen h.below hb, h.len, fun i a b => (h.inn i a b).below hb h.below.size, ownsRow_below h.row (fun g hg => (h.row.lt g hg).2) hb (Nat.le_refl _)⟩
theorem ColLR.push {w wr w2 w4 : World} {ls ls' : List LLit} {A : Option Addr} {c g cap : Nat} {l : LLit} {u : Value} {o : Obj} {us : List Value} (h : ColLR w wr ls A c us) (e : ls' = ls ++ [l]) (hb : Below wr.heap.size wr w2) (hu : RdInts w2 w.heap.size u l.2.2)
    (hg : (w2.alloc o).grownBy w4 (Value.slice A ls.length c).ownBlock) (hown : w4.ownsRow w.heap.size 35 3 (.slice (some ⟨g, 0, none⟩) (ls.length + 1) cap) (ls.length + 1) (flatR ls us ++ [.int .i64 l.1, .int .i64 l.2.1, u])) :
    ColLR w w4 ls' (some ⟨g, 0, none⟩) cap (us ++ [u]) ∧ ls.length + 1 = ls'.length := by
  subst e
  have h2 := h.on hb
  have hl : (ls ++ [l]).length = ls.length + 1 := by simp
  have hB : Below w.heap.size w2 w4 := by
    have hg' := grown_from_alloc hg
    refine ⟨hg'.os, hg'.tape, hg'.output, hg'.size, fun k hk => hg'.block k (by have := h2.below.size; omega) (fun e => ?_)⟩
    have := (h2.row.lt k e.symm).1
    omega
  refine ⟨⟨h2.below.trans hB, by simp [h.len], fun i h1 h3 => ?_, by rw [hl, flatR_snoc ls us h.len]; exact hown⟩, hl.symm⟩
  by_cases e : i < ls.length
  · have e' : i < us.length := by rw [h.len]; exact e
    rw [List.getElem_append_left e', List.getElem_append_left e]
    exact (h2.inn i e e').below hB (Nat.le_refl _)
  · have e2 : i = ls.length := by simp at h1; omega
    subst e2
    have := h.len
    simp [← this]
    exact hu.below hB (Nat.le_refl _)
theorem ColLR.rd {w wr : World} {ls : List LLit} {A : Option Addr} {c : Nat} {us : List Value} (h : ColLR w wr ls A c us) : RdLits wr wr.heap.size (.slice A ls.length c) ls := by
  have hcells := @World.ownsRow.cells wr w.heap.size 35 3 (.slice A ls.length c) ls.length (flatR ls us) h.row
  have hl := h.len
  have hsz := h.below.size
  obtain ⟨hfl, hr⟩ := h.row
  rcases hr with ⟨e, h0⟩ | ⟨g, cap, cur, e, hb, hgg, hn, _⟩
  · have : ls = [] := List.eq_nil_of_length_eq_zero h0
    subst this
    injection e with e1 _ e3
    subst e1 e3
    exact ⟨none, 0, rfl, by simp, fun h => absurd h (by simp)⟩
  · injection e with e1 _ e3
    subst e1 e3
    refine ⟨_, c, rfl, hn, fun _ => ⟨g, 0, rfl, Blk.lt hgg, fun k hk => ?_⟩⟩
    obtain ⟨c0, c1, c2⟩ := flatR_at ls us hl k hk (by omega)
    have d0 := hcells (g := g) rfl _ _ c0
    have d1 := hcells (g := g) rfl _ _ c1
    have d2 := hcells (g := g) rfl _ _ c2
    rw [Go.WideShapes.add_plain] at d0 d1 d2
    exact ⟨_, _, _, d0, d1, d2, rfl, rfl, (h.inn k hk (by omega)).more hsz⟩
theorem news3s (w : World) (x y z : Value) (t : TypeId) (n : Nat) (hn : w.heap.size = n) : ∀ j u, [x, y, z][j]? = some u → (w.alloc (.cells #[x, y, z] t)).cell? ((⟨n, 0, none⟩ : Addr).add j) = some u :=
  hn ▸ World.news_of_block (cs := #[x, y, z]) (heap_alloc_new w _)

theorem totL_sub : ∀ {xs ys : List LLit}, xs.Sublist ys → totL xs ≤ totL ys
  | _, _, .slnil => Nat.le_refl _
  | _, _, .cons a h => by have := totL_sub h; simp only [totL, List.map_cons, List.sum_cons] at this ⊢; omega
  | _, _, .cons_cons a h => by have := totL_sub h; simp only [totL, List.map_cons, List.sum_cons] at this ⊢; omega
/-- What the lists ahead of k, and list k with the facts ahead of j, become. -/
def nextTo (a : LFact) (fs : List LFact) (B : List (List Int)) (k j : Nat) : List (List Int) := nextL a fs (B.take k) ++ (fs.take j).filterMap fun f => matchL a f (B.getD k [])
theorem nextTo_none {a : LFact} {fs : List LFact} {B : List (List Int)} {k j : Nat} (hj : j < fs.length) (hk : k < B.length) (e : matchL a fs[j] B[k] = none) : nextTo a fs B k (j + 1) = nextTo a fs B k j := by
  unfold nextTo
  rw [take_snoc fs j hj, List.filterMap_append]
  simp [hk, e]
theorem nextTo_some {a : LFact} {fs : List LFact} {B : List (List Int)} {k j : Nat} {r : List Int} (hj : j < fs.length) (hk : k < B.length) (e : matchL a fs[j] B[k] = some r) : nextTo a fs B k (j + 1) = nextTo a fs B k j ++ [r] := by
  unfold nextTo
  rw [take_snoc fs j hj, List.filterMap_append]
  simp [hk, e]
theorem nextTo_row {a : LFact} {fs : List LFact} {B : List (List Int)} {k : Nat} (hk : k < B.length) : nextTo a fs B k fs.length = nextTo a fs B (k + 1) 0 := by
  have hd : B.getD k [] = B[k] := by simp [hk]
  unfold nextTo nextL
  rw [List.take_length, take_snoc B k hk, hd, List.flatMap_append]
  simp
theorem nextTo_start (a : LFact) (fs : List LFact) (B : List (List Int)) : nextTo a fs B 0 0 = [] := by simp [nextTo, nextL]
theorem nextTo_end (a : LFact) (fs : List LFact) (B : List (List Int)) : nextTo a fs B B.length 0 = nextL a fs B := by simp [nextTo]
theorem nextTo_len {a : LFact} {fs : List LFact} {B : List (List Int)} {k j : Nat} (hk : k < B.length) : (nextTo a fs B k j).length ≤ (nextL a fs B).length := by
  have e : B = B.take k ++ B[k] :: B.drop (k + 1) := by
    rw [← List.drop_eq_getElem_cons hk, List.take_append_drop]
  have h1 : (nextL a fs B).length = (nextL a fs (B.take k)).length + ((fs.filterMap fun f => matchL a f B[k]).length + (nextL a fs (B.drop (k + 1))).length) := by
    have key : ∀ (B1 B2 : List (List Int)) (b : List Int), (nextL a fs (B1 ++ b :: B2)).length = (nextL a fs B1).length + ((fs.filterMap fun f => matchL a f b).length + (nextL a fs B2).length) := fun B1 B2 b => by
      unfold nextL
      rw [List.flatMap_append, List.flatMap_cons, List.length_append, List.length_append]
    have := key (B.take k) (B.drop (k + 1)) B[k]
    rwa [← e] at this
  have h2 : ((fs.take j).filterMap fun f => matchL a f (B.getD k [])).length ≤ (fs.filterMap fun f => matchL a f B[k]).length := by
    have hd : B.getD k [] = B[k] := by simp [hk]
    rw [hd]
    exact ((List.take_sublist j fs).filterMap _).length_le
  unfold nextTo
  rw [List.length_append]
  omega

theorem WkRows.one {w : World} {lo : Nat} {u : Value} {xs : List Int} (h : OwnInts w lo w.heap.size u xs) (hl : lo ≤ w.heap.size) : WkRows (w.alloc (.cells #[u] 31)) lo (w.heap.size + 1) (.slice (some ⟨w.heap.size, 0, none⟩) 1 1) [xs] :=
  ⟨[u], ⟨rfl, fun i h1 h2 => by
    have : i = 0 := by simp at h1; omega
    subst this
    exact (h.below (below1 w _) (Nat.le_refl _)).mono (Nat.le_refl _) (by omega)⟩, ⟨rfl, .inr ⟨w.heap.size, 1, _, rfl, hl, heap_alloc_new w _, Nat.le_refl _, by decide, rfl, rfl⟩⟩, fun g hg => by simp [Value.ownBlock] at hg; omega⟩
theorem WkRows.empty (w : World) : WkRows (w.alloc (.cells #[] 31)) w.heap.size (w.heap.size + 1) (.slice (some ⟨w.heap.size, 0, none⟩) 0 0) [] :=
  ⟨[], ⟨rfl, fun i h => absurd h (by simp)⟩, World.ownsRow_made w #[] 0 (Nat.le_refl _) (by decide) rfl, fun g hg => by simp [Value.ownBlock] at hg; omega⟩

/-- What the outer loop has. -/
structure SolAt (w0 wr : World) (gs : List LFact) (ls : List LLit) (k : Nat) (Ab : Option Addr) (cb : Nat) (Ar : Option Addr) (cr : Nat) (us : List Value) : Prop where
  below : Below w0.heap.size w0 wr
  binds : WkRows wr w0.heap.size wr.heap.size (.slice Ab (bindsTo gs ls k).length cb) (bindsTo gs ls k)
  rest : ColLR w0 wr (restTo ls k) Ar cr us

set_option maxHeartbeats 16000000 in
set_option maxRecDepth 100000 in
theorem l3Solutions_any (v v2 : Value) (gs : List LFact) (ls : List LLit) (R : List (List Int)) (hR : R = solsOf gs ls) (w : World) (h : RdFacts w w.heap.size v gs) (h2 : RdLits w w.heap.size v2 ls) (hn : gs.length ≤ 1048576) (ht : tot gs ≤ 1048576) (hl : ls.length + totL ls ≤ 1048576)
    (hc : ∀ f ∈ gs, f.2.all constOk = true) (hnd : gs.Nodup) (hT : ∀ l ∈ ls, l.2.2.all termOk = true) :
    Calls Tryz.prog 45 #[v, v2] w fun e w' => ∃ A c, e = .returned (.slice A R.length c) ∧ WkRows w' w.heap.size w'.heap.size (.slice A R.length c) R ∧ Below w.heap.size w w' := by
  obtain ⟨i0, hi0, hz0, hz1, hz2⟩ := info_parts Tryz.infoIntS
  obtain ⟨i1, hi1, hy0, hy1, hy2⟩ := info_parts Tryz.infoLit
  have HR := Lib.hid hR
  have HC := Lib.hid hc
  have HT := Lib.hid hT
  have HOK := Lib.hid (fun k (hk : k ≤ ls.length) => bindsTo_ok hc hnd hT hk)
  have H00 := Lib.hid (And.intro h h2)
  obtain ⟨A, c, rfl, hcA, _⟩ := h
  obtain ⟨A2, c2, rfl, hc2, _⟩ := h2
  clear hR hc hT hnd
  go_enter Tryz.func45, Tryz.ntmps45
  go_upto_region 2 with fail
  have HO0 := Lib.hid (WkRows.empty w)
  obtain ⟨wA, hwA⟩ : ∃ wA, wA = w.alloc (Obj.cells #[] 31) := ⟨_, rfl⟩
  have hBA := Lib.hid (show Below w.heap.size w wA by rw [hwA]; exact below1 _ _)
  have hsA : wA.heap.size = w.heap.size + 1 := by rw [hwA]; simp
  rw [← hwA] at HO0 ⊢
  clear hwA
  have HSA := Lib.hid hsA
  have hsA2 : w.heap.size < wA.heap.size := by omega
  clear hsA
  have H := Lib.hid (H00.out.1.on hBA.out)
  have H2 := Lib.hid (H00.out.2.on hBA.out)
  clear H00
  go_upto_region 3 with (first
    | (go_at_call 86; refine (l3None_any _).mono ?_; rintro e w2 ⟨A4, c4, rfl, o4, b4⟩; have H4 := Lib.hid (And.intro o4 b4); clear o4 b4))
  obtain ⟨w3, hw3⟩ : ∃ w3, w3 = w2.alloc (Obj.cells #[Value.slice A4 4 c4] 31) := ⟨_, rfl⟩
  have HS0 := Lib.hid (show Below wA.heap.size wA w3 ∧ WkRows w3 wA.heap.size w3.heap.size (.slice (some ⟨w2.heap.size, 0, none⟩) 1 1) [noneB] from by
    obtain ⟨o4, b4⟩ := H4.out
    refine ⟨by rw [hw3]; exact bthen b4 (below1 _ _), ?_⟩
    have := WkRows.one o4 b4.size
    rw [hw3]
    exact this.mono (Nat.le_refl _) (by simp))
  rw [← hw3]
  clear hw3 H4
  go_upto_region 4 with fail
  have HSOL := Lib.hid (show SolAt wA (w3.alloc (Obj.cells #[] 35)) gs ls 0 (some ⟨w2.heap.size, 0, none⟩) 1 (some ⟨w3.heap.size, 0, none⟩) 0 [] from
    ⟨bthen HS0.out.1 (below1 _ _), (HS0.out.2.below (below1 _ _) (Nat.le_refl _)).mono (Nat.le_refl _) (by simp), ColLR.empty _ _ HS0.out.1⟩)
  clear HS0
  go_wp2_with fail
  go_loopw [6, 7, 8] (fun vb vr vi wr => ∃ (k : Nat) (Ab : Option Addr) (cb : Nat) (Ar : Option Addr) (cr : Nat) (us : List Value), k ≤ ls.length ∧ vi = .int .i64 k ∧ vb = .slice Ab (bindsTo gs ls k).length cb ∧ vr = .slice Ar (restTo ls k).length cr ∧ SolAt wA wr gs ls k Ab cb Ar cr us) (fun _ _ vi _ => ls.length - (intOf vi).toNat)
  case atStart => exact ⟨0, _, _, _, _, [], Nat.zero_le _, rfl, rfl, rfl, HSOL.out⟩
  case round =>
    obtain ⟨k, Ab, cb, Ar, cr, us, hk, rfl, rfl, rfl, hat⟩ := hrel
    have HAT := Lib.hid hat
    clear hat HSOL
    have hrl := restTo_length ls k
    by_cases hlt : k < ls.length
    · obtain ⟨b, o, u0, u1, u2, rfl, hbB, k0, k1, k2, rfl, rfl, p3⟩ := (H2.out.below HAT.out.below (Nat.le_refl _)).get hlt
      have HP3 := Lib.hid p3
      obtain ⟨A5, c5, rfl, hc5, _⟩ := p3
      have hln := len_le_totL ls k hlt
      by_cases h0 : ls[k].1 = 0
      · have hd : (ls[k].1 != 0) = false := by simp [h0]
        have HY := Lib.hid (bindsTo_yes (fs := gs) hlt h0)
        have HRY := Lib.hid (restTo_yes hlt h0)
        have hta := HT.out _ (List.getElem_mem hlt)
        have HLN := Lib.hid (HOK.out (k + 1) (by omega)).2
        have HBK := Lib.hid (HOK.out k (by omega))
        obtain ⟨B, hB⟩ : ∃ B, B = bindsTo gs ls k := ⟨_, rfl⟩
        have HBB := Lib.hid (show WkRows wr wA.heap.size wr.heap.size (.slice Ab B.length cb) B by rw [hB]; exact HAT.out.binds)
        rw [← hB] at HY HBK ⊢
        rw [HY.out] at HLN
        have HBE := Lib.hid hB
        have hbn : B.length ≤ 65536 := HBK.out.2
        clear hB
        go_wp2_with fail
        rename World => w1
        have C0 := Lib.hid (ColS.empty (lo := w1.heap.size) (Below.refl w1.heap.size w1))
        go_loopw [9, 10] (fun vn vp wr => ∃ (p : Nat) (An : Option Addr) (cn : Nat) (av : List Value), p ≤ B.length ∧ vp = .int .i64 p ∧ vn = .slice An (nextTo ls[k].2 gs B p 0).length cn ∧ ColS w1.heap.size w1 wr (nextTo ls[k].2 gs B p 0) An cn av) (fun _ vp _ => B.length - (intOf vp).toNat)
        case atStart =>
          refine ⟨0, some ⟨w1.heap.size, 0, none⟩, 0, [], Nat.zero_le _, rfl, ?_, ?_⟩
          · rw [nextTo_start]; rfl
          · rw [nextTo_start]; exact C0.out
        case round =>
          obtain ⟨p, An, cn, av, hp, rfl, rfl, hcol⟩ := hrel
          by_cases hltp : p < B.length
          · have HCOL := Lib.hid hcol
            clear hcol
            go_wp2_with fail
            rename World => w5
            go_loopw [9, 11] (fun vn vj wr => ∃ (j : Nat) (An : Option Addr) (cn : Nat) (av : List Value), j ≤ gs.length ∧ vj = .int .i64 j ∧ vn = .slice An (nextTo ls[k].2 gs B p j).length cn ∧ ColS w1.heap.size w1 wr (nextTo ls[k].2 gs B p j) An cn av) (fun _ vj _ => gs.length - (intOf vj).toNat)
            case atStart => exact ⟨0, An, cn, av, Nat.zero_le _, rfl, rfl, HCOL.out⟩
            case round =>
              obtain ⟨j, An, cn, av, hj, rfl, rfl, hcol⟩ := hrel
              have HCO := Lib.hid hcol
              have B1 := hcol.below
              clear hcol
              have BW := bthen HAT.out.below B1
              by_cases hltj : j < gs.length
              · obtain ⟨b3, o3, A6, c6, rfl, hb3, f0, f1, p6⟩ := (H.out.below BW (Nat.le_refl _)).get hltj
                obtain ⟨gb, A7, c7, rfl, hgb, r0, o7⟩ := (HBB.out.below B1 (Nat.le_refl _)).get hltp
                have hsz1 := B1.size
                have hszA := HAT.out.below.size
                have hlf := len_le_tot gs j hltj
                have hcf := HC.out _ (List.getElem_mem hltj)
                have hbok := HBK.out.1 _ (List.getElem_mem hltp)
                have hb4 := bindOk_len hbok
                have hbl : b < wr.heap.size := by omega
                have hb3l : b3 < wr.heap.size := by omega
                have hgl : gb < wr.heap.size := hgb
                have k1' : wr.cell? ⟨b, o + k * 3 + 1, none⟩ = some (.int .i64 ls[k].2.1) := (B1.cell (p := ⟨b, o + k * 3 + 1, none⟩) (by show b < w1.heap.size; omega)).trans k1
                have k2' : wr.cell? ⟨b, o + k * 3 + 2, none⟩ = some (.slice A5 ls[k].2.2.length c5) := (B1.cell (p := ⟨b, o + k * 3 + 2, none⟩) (by show b < w1.heap.size; omega)).trans k2
                have HS := Lib.hid (show ∀ W, Below wr.heap.size wr W → (Below wr.heap.size wr W ∧ W.cell? ⟨b, o + k * 3 + 1, none⟩ = some (.int .i64 ls[k].2.1) ∧ W.cell? ⟨b, o + k * 3 + 2, none⟩ = some (.slice A5 ls[k].2.2.length c5) ∧ W.cell? ⟨b3, o3 + j * 2, none⟩ = some (.int .i64 gs[j].1) ∧ W.cell? ⟨b3, o3 + j * 2 + 1, none⟩ = some (.slice A6 gs[j].2.length c6) ∧ W.cell? ⟨gb, p, none⟩ = some (.slice A7 B[p].length c7)) from fun W hW =>
                  ⟨hW, (hW.cell (p := ⟨b, o + k * 3 + 1, none⟩) hbl).trans k1', (hW.cell (p := ⟨b, o + k * 3 + 2, none⟩) hbl).trans k2', (hW.cell (p := ⟨b3, o3 + j * 2, none⟩) hb3l).trans f0, (hW.cell (p := ⟨b3, o3 + j * 2 + 1, none⟩) hb3l).trans f1, (hW.cell (p := ⟨gb, p, none⟩) hgl).trans r0⟩)
                obtain ⟨Rm, hRm⟩ : ∃ Rm, Rm = (matchL ls[k].2 gs[j] B[p]).getD [] := ⟨_, rfl⟩
                obtain ⟨ok, hok⟩ : ∃ ok, ok = (matchL ls[k].2 gs[j] B[p]).isSome := ⟨_, rfl⟩
                have HM := Lib.hid (show ∀ W, Below wr.heap.size wr W → Calls Tryz.prog 87 #[.agg #[.int .i64 ls[k].2.1, .slice A5 ls[k].2.2.length c5], .agg #[.int .i64 gs[j].1, .slice A6 gs[j].2.length c6], .slice A7 B[p].length c7] W fun e w' => ∃ A' c', e = .returned (.tuple #[.slice A' Rm.length c', .bool ok]) ∧ OwnInts w' wr.heap.size w'.heap.size (.slice A' Rm.length c') Rm ∧ Below wr.heap.size wr w' from fun W hW =>
                  (l3Match_n _ _ _ ls[k].2 gs[j] B[p] Rm ok hRm hok W hbok ⟨_, rfl, (HP3.out.below (bthen B1 hW) (by omega)).more (by have := hW.size; omega)⟩ ⟨_, rfl, (p6.below hW (by omega)).more (by have := hW.size; omega)⟩ ((o7.below hW (by omega)).rd.more (by have := hW.size; omega)) hta hcf (by omega) (by omega)).mono fun e w' ⟨A', c', he, ho, hb⟩ => ⟨A', c', he, ho.mono hW.size (Nat.le_refl _), bthen hW hb⟩)
                have HLE := Lib.hid (Nat.le_trans (nextTo_len (a := ls[k].2) (fs := gs) (j := j) hltp) HLN.out)
                have HMM := Lib.hid (And.intro hRm hok)
                clear p6 o7 hRm hok hcf hbok hb4 hln
                go_upto_region 16 with fail
                go_cut [12, 13] (fun s0 s1 wx => ∃ (Q : Option Addr) (f : Nat), s0 = .slice Q Rm.length f ∧ s1 = .bool ok ∧ OwnInts wx wr.heap.size wx.heap.size (.slice Q Rm.length f) Rm ∧ Below wr.heap.size wr wx)
                case first =>
                  clear k0 k1 k2 k1' k2' f0 f1 r0
                  go_region_held3 (fun W => Below wr.heap.size wr W ∧ W.cell? ⟨b, o + k * 3 + 1, none⟩ = some (.int .i64 ls[k].2.1) ∧ W.cell? ⟨b, o + k * 3 + 2, none⟩ = some (.slice A5 ls[k].2.2.length c5) ∧ W.cell? ⟨b3, o3 + j * 2, none⟩ = some (.int .i64 gs[j].1) ∧ W.cell? ⟨b3, o3 + j * 2 + 1, none⟩ = some (.slice A6 gs[j].2.length c6) ∧ W.cell? ⟨gb, p, none⟩ = some (.slice A7 B[p].length c7))
                    (first | exact HS.out _ (Below.refl _ _) | exact HS.out _ (Below.refl _ _).drew | exact HS.out _ (bthen (And.left (by assumption)) (by assumption)) | exact HS.out _ (by assumption))
                    (first
                      | (go_at_call 87; refine (HM.out _ (And.left (by assumption))).mono ?_; rintro e w_r ⟨Q, f, rfl, oo, hb_r⟩))
                  all_goals (go_wp2_with fail; go_meet; exact ⟨_, _, rfl, rfl, oo, hb_r⟩)
                case rest =>
                  obtain ⟨Q, f, rfl, rfl, oo, hb_r⟩ := hcut
                  clear HS HM k0 k1 k2 k1' k2' f0 f1 r0
                  generalize wc = w6 at *
                  have HOO := Lib.hid (And.intro oo hb_r)
                  clear oo hb_r
                  obtain ⟨hRm, hok⟩ := HMM.out
                  cases hm : matchL ls[k].2 gs[j] B[p] with
                  | none =>
                    rw [hm] at hok
                    have hokf : ok = false := hok
                    subst hokf
                    have HE := Lib.hid (nextTo_none hltj hltp hm)
                    clear hm hRm hok
                    go_wp2_with fail
                    go_roundw
                    case rel => exact ⟨j + 1, An, cn, av, by omega, by go_num, by rw [HE.out], by rw [HE.out]; exact HCO.out.on HOO.out.2⟩
                    case measure => simp [intOf]; omega
                  | some r =>
                    rw [hm] at hok hRm
                    have hokf : ok = true := hok
                    subst hokf
                    have hRr : Rm = r := hRm
                    subst hRr
                    have HE := Lib.hid (nextTo_some hltj hltp hm)
                    clear hm hRm hok
                    obtain ⟨zs, hzs⟩ : ∃ zs, zs = nextTo ls[k].2 gs B p j := ⟨_, rfl⟩
                    have hzl : zs.length ≤ 65536 := by rw [hzs]; exact HLE.out
                    rw [← hzs] at HCO HE ⊢
                    have HZ := Lib.hid hzs
                    clear hzs
                    go_wp2_with (at_builtin; refine wpList_append_lies _ rfl (.tmp 69) (.tmp 71) 27 rfl w1.heap.size 31 i0 (.slice none 0 0) 1 24 Tryz.underlying27 hi0 hz0 hz1 hz2 rfl (by decide) (.slice An zs.length cn) zs.length av rfl ?c1 ⟨_, 0, none⟩ 1 1 [.slice Q Rm.length f] rfl rfl (news1s _ _ _ _ (by simp)) ?c2 (by omega) (by unfold maxLen; omega) (by omega) ?c3 _ rfl ?_)
                    case c1 => exact (HCO.out.on HOO.out.2).row.alloc _
                    case c2 => intro u hu; simp at hu; subst hu; rfl
                    case c3 => have := HCO.out.below.size; have := HOO.out.2.size; simp; omega
                    intro g2 cap w8 hown hg _ _
                    obtain ⟨hcol, hlen⟩ := (HCO.out.on HOO.out.2).push HE.out (Below.refl _ _) (HOO.out.1.mono (by have := HCO.out.below.size; omega) (Nat.le_refl _)) hg hown
                    rw [hlen]
                    have HC2 := Lib.hid hcol
                    clear hcol hown hg
                    go_wp2_with fail
                    go_roundw
                    case rel => exact ⟨j + 1, _, _, _, by omega, by go_num, rfl, HC2.out⟩
                    case measure => simp [intOf]; omega
              · have HE := Lib.hid (show nextTo ls[k].2 gs B p j = nextTo ls[k].2 gs B (p + 1) 0 by rw [show j = gs.length by omega]; exact nextTo_row hltp)
                go_wp2_with fail
                go_roundw
                case rel => exact ⟨p + 1, An, cn, av, by omega, by go_num, by rw [HE.out], by rw [← HE.out]; exact HCO.out⟩
                case measure => simp [intOf]; omega
          · have HE := Lib.hid (show nextTo ls[k].2 gs B p 0 = bindsTo gs ls (k + 1) by rw [show p = B.length by omega, nextTo_end, HY.out])
            have HCOL := Lib.hid hcol
            have BW := bthen HAT.out.below hcol.below
            have HRE := Lib.hid (HAT.out.rest.on hcol.below)
            have hszA := HAT.out.below.size
            clear hcol
            go_wp2_with fail
            go_roundw
            case rel => exact ⟨k + 1, An, cn, Ar, cr, us, by omega, by go_num, by rw [HE.out], by rw [HRY.out], BW, by
              have := (HCOL.out.rows (Nat.le_refl _)).mono hszA (Nat.le_refl _)
              rw [HE.out] at this
              exact this, by rw [HRY.out]; exact HRE.out⟩
            case measure => simp [intOf]; omega
      · have hd : (ls[k].1 != 0) = true := by simp [h0]
        have HY := Lib.hid (bindsTo_no (fs := gs) hlt h0)
        have HRY := Lib.hid (restTo_no hlt h0)
        obtain ⟨zs, hzs⟩ : ∃ zs, zs = restTo ls k := ⟨_, rfl⟩
        have hzl : zs.length ≤ 1048576 := by rw [hzs]; omega
        have HRE := Lib.hid (show ColLR wA wr zs Ar cr us by rw [hzs]; exact HAT.out.rest)
        rw [← hzs] at HRY ⊢
        clear hzs
        go_wp2_with (at_builtin; refine wpList_append_lies _ rfl (.tmp 31) (.tmp 36) 24 rfl wA.heap.size 35 i1 (.agg #[.int .i64 0, .int .i64 0, .slice none 0 0]) 3 40 Tryz.underlying24 hi1 hy0 hy1 hy2 rfl (by decide) (.slice Ar zs.length cr) zs.length (flatR zs us) rfl ?c1 ⟨_, 0, none⟩ 1 1 [.int .i64 ls[k].1, .int .i64 ls[k].2.1, .slice A5 ls[k].2.2.length c5] rfl rfl (news3s _ _ _ _ _ _ (by simp)) ?c2 (by omega) (by unfold maxLen; omega) (by omega) ?c3 _ rfl ?_)
        case c1 => exact HRE.out.row.alloc _
        case c2 => intro u hu; simp at hu; rcases hu with rfl | rfl | rfl <;> rfl
        case c3 => have := HRE.out.below.size; simp; omega
        intro g2 cap w8 hown hg _ _
        obtain ⟨hcol, hlen⟩ := HRE.out.push HRY.out (Below.refl _ _) HP3.out hg hown
        rw [hlen]
        have HC2 := Lib.hid hcol
        have HB8 := Lib.hid (show WkRows w8 wA.heap.size w8.heap.size (.slice Ab (bindsTo gs ls k).length cb) (bindsTo gs ls k) from by
          have hg' := grown_from_alloc hg
          obtain ⟨av, ⟨a1, a2⟩, a3, a4⟩ := HAT.out.binds
          have hne : ∀ {v : Value} {n m : Nat} {e : TypeId} {xs : List Value} {lo : Nat}, wr.ownsRow lo e m v n xs → e ≠ 35 → ∀ q, v.ownBlock = some q → w8.heap[q]? = wr.heap[q]? := fun {v n m e xs lo} hv hne q hq => hg'.block q (hv.lt q hq).2 fun e2 => by
            rcases HRE.out.row.2 with ⟨e3, _⟩ | ⟨g1, c1, cur1, e3, _, h1, _⟩
            · rw [e3] at e2; cases e2
            · rw [e3] at e2
              have e4 : g1 = q := by simpa [Value.ownBlock] using e2.symm
              subst e4
              exact blk_ne_row hv (show Blk wr g1 35 cur1 from h1) hne hq
          exact ⟨av, ⟨a1, fun i x y => ((a2 i x y).kept (hne (a2 i x y).1 (by decide))).mono (Nat.le_refl _) hg'.size⟩, ownsRow_only a3 (hne a3 (by decide)), fun q hq => Nat.lt_of_lt_of_le (a4 q hq) hg'.size⟩)
        clear hcol hown hg
        go_wp2_with fail
        go_roundw
        case rel => exact ⟨k + 1, Ab, cb, _, _, _, by omega, by go_num, by rw [HY.out], rfl, HC2.out.below, by rw [HY.out]; exact HB8.out, HC2.out⟩
        case measure => simp [intOf]; omega
    · rename World => w1
      have hkn : k = ls.length := by omega
      subst hkn
      obtain ⟨B, hB⟩ : ∃ B, B = bindsTo gs ls ls.length := ⟨_, rfl⟩
      obtain ⟨rs, hrs⟩ : ∃ rs, rs = restTo ls ls.length := ⟨_, rfl⟩
      have HBB := Lib.hid (show WkRows w1 wA.heap.size w1.heap.size (.slice Ab B.length cb) B by rw [hB]; exact HAT.out.binds)
      have HRS := Lib.hid (show RdLits w1 w1.heap.size (.slice Ar rs.length cr) rs by rw [hrs]; exact HAT.out.rest.rd)
      have HBK := Lib.hid (show (∀ b ∈ B, bindOk b = true) ∧ B.length ≤ 65536 by rw [hB]; exact HOK.out _ (Nat.le_refl _))
      have hsub : ∀ l ∈ rs, l ∈ ls := fun l hl => by
        rw [hrs] at hl
        unfold restTo at hl
        rw [List.take_length] at hl
        exact (List.mem_filter.1 hl).1
      have HTR := Lib.hid (show ∀ l ∈ rs, l.2.2.all termOk = true from fun l hl => HT.out l (hsub l hl))
      have htr : totL rs ≤ totL ls := by
        have : rs.Sublist ls := by
          rw [hrs]
          unfold restTo
          rw [List.take_length]
          exact List.filter_sublist
        exact totL_sub this
      have hrn : rs.length ≤ 1048576 := by rw [hrs]; omega
      have HRR := Lib.hid (show R = triedTo gs rs B B.length by rw [HR.out, hrs, hB]; rfl)
      have hbn := HBK.out.2
      have HO1 := Lib.hid ((HO0.out.below HAT.out.below (by have := HSA.out; omega)).mono (lo' := w.heap.size) (hi' := w1.heap.size) (Nat.le_refl _) (by have := HSA.out; have := HAT.out.below.size; omega))
      rw [← hB, ← hrs]
      clear hB hrs hsub hrl
      go_wp2_with fail
      go_loopw [5, 14] (fun vo vk wr => ∃ (k : Nat) (Ao : Option Addr) (co : Nat), k ≤ B.length ∧ vk = .int .i64 k ∧ vo = .slice Ao (triedTo gs rs B k).length co ∧ WkRows wr w.heap.size wr.heap.size (.slice Ao (triedTo gs rs B k).length co) (triedTo gs rs B k) ∧ Below w1.heap.size w1 wr) (fun _ vk _ => B.length - (intOf vk).toNat)
      case atStart => exact ⟨0, _, 0, Nat.zero_le _, rfl, rfl, HO1.out, Below.refl _ _⟩
      case round =>
        obtain ⟨q, Ao, co, hq, rfl, rfl, hout, hbe⟩ := hrel
        have hszA := HAT.out.below.size
        have hsz := hbe.size
        by_cases hltq : q < B.length
        · obtain ⟨gb, A7, c7, rfl, hgb, r0, o7⟩ := (HBB.out.below hbe (Nat.le_refl _)).get hltq
          have hbok := HBK.out.1 _ (List.getElem_mem hltq)
          have HB4 := Lib.hid (bindOk_len hbok)
          have hb4l : B[q].length ≤ 1048576 := by have := HB4.out; omega
          obtain ⟨bo, hbo⟩ : ∃ bo, bo = (rs.all fun l => litHolds gs l B[q]) := ⟨_, rfl⟩
          have CT := Lib.hid (l3Try_any (.slice A gs.length c) (.slice Ar rs.length cr) (.slice A7 B[q].length c7) gs rs B[q] bo hbo wr (H.out.on (bthen HAT.out.below hbe)) (HRS.out.on hbe) (o7.rd.more (by omega)) HB4.out HTR.out hn ht hrn (by omega))
          obtain ⟨T, hTe⟩ : ∃ T, T = triedTo gs rs B q := ⟨_, rfl⟩
          have hTn : T.length ≤ 65536 := by
            have hup := (triedTo_is gs rs B q hq).1
            rw [hTe]
            exact binds_len hup.nodup fun b hb => HBK.out.1 b (triedTo_sub hq b hb)
          have hTl : ∀ s ∈ T, s.length ≤ 1048576 := fun s hs => by
            rw [hTe] at hs
            rw [bindOk_len (HBK.out.1 s (triedTo_sub hq s hs))]
            decide
          have HOUT := Lib.hid (show WkRows wr w.heap.size wr.heap.size (.slice Ao T.length co) T by rw [hTe]; exact hout)
          have HO7 := Lib.hid (show OwnInts wr w.heap.size wr.heap.size (.slice A7 B[q].length c7) B[q] from o7.mono (by omega) (by omega))
          have HBE := Lib.hid hbe
          have HTL := Lib.hid hTl
          have HTE := Lib.hid hTe
          rw [← hTe]
          clear o7 hbe hout hTl hTe hbok
          cases bo
          · have HE := Lib.hid (triedTo_no hltq hbo.symm)
            clear hbo
            go_wp2_with (go_at_call 58; refine CT.out.mono ?_; rintro e w2 ⟨rfl, hb2⟩; have HB2 := Lib.hid hb2; clear hb2)
            go_roundw
            case rel => exact ⟨q + 1, Ao, co, by omega, by go_num, by rw [HE.out, HTE.out], by rw [HE.out, ← HTE.out]; exact (HOUT.out.below HB2.out (Nat.le_refl _)).mono (Nat.le_refl _) HB2.out.size, bthen HBE.out HB2.out⟩
            case measure => simp [intOf]; omega
          · have HE := Lib.hid (triedTo_yes hltq hbo.symm)
            clear hbo
            obtain ⟨T2, hT2⟩ : ∃ T2, T2 = putB T B[q] := ⟨_, rfl⟩
            have HT2 := Lib.hid hT2
            have HPUT := Lib.hid (show ∀ W, Below wr.heap.size wr W → Calls Tryz.prog 88 #[.slice Ao T.length co, .slice A7 B[q].length c7] W fun e w' => ∃ A c, e = .returned (.slice A T2.length c) ∧ WkRows w' w.heap.size w'.heap.size (.slice A T2.length c) T2 ∧ Below W.heap.size W w' from fun W hW =>
              l3Put_any _ _ T B[q] T2 hT2 w.heap.size wr.heap.size W (HOUT.out.below hW (Nat.le_refl _)) (HO7.out.below hW (Nat.le_refl _)) hW.size (by have := hW.size; omega) (by omega) HTL.out (by omega))
            clear hT2
            have r0' : ∀ W, Below wr.heap.size wr W → W.cell? ⟨gb, q, none⟩ = some (.slice A7 B[q].length c7) := fun W hW => (hW.cell (p := ⟨gb, q, none⟩) hgb).trans r0
            have HR0 := Lib.hid r0'
            clear r0'
            go_wp2_with (first
              | (go_at_call 58; refine CT.out.mono ?_; rintro e w2 ⟨rfl, hb2⟩
                 have r2 := HR0.out w2 hb2
                 have HB2 := Lib.hid hb2
                 clear hb2)
              | (go_at_call 88; refine (HPUT.out _ HB2.out).mono ?_; rintro e w3 ⟨A8, c8, rfl, o8, b8⟩
                 have HO8 := Lib.hid (And.intro o8 b8)
                 clear o8 b8))
            go_roundw
            case rel => exact ⟨q + 1, A8, c8, by omega, by go_num, by rw [HE.out, ← HTE.out, ← HT2.out], by rw [HE.out, ← HTE.out, ← HT2.out]; exact HO8.out.1, bthen HBE.out (bthen HB2.out HO8.out.2)⟩
            case measure => simp [intOf]; omega
        · have HF := Lib.hid (show WkRows wr w.heap.size wr.heap.size (.slice Ao R.length co) R ∧ triedTo gs rs B q = R by
            have : q = B.length := by omega
            rw [this] at hout ⊢
            rw [HRR.out]
            exact ⟨hout, rfl⟩)
          have HBE := Lib.hid (bthen hBA.out (bthen HAT.out.below hbe))
          rw [HF.out.2]
          clear hout hbe
          go_wp2_with fail
          go_ret
          exact ⟨_, _, rfl, HF.out.1, HBE.out⟩

end Go.Proofs.YtokmmloakahkhaaGreat
/-
  The specification's l4Of, l4All: the heads of rules.
-/
namespace Go.Proofs.YtokmmloakahkhaaGreat
open Go.RowKit

/-- The heads for the first k lists. -/
def headsTo (a : LFact) (S : List (List Int)) : Nat → List LFact
  | 0 => []
  | k + 1 => if headOk a (S.getD k []) then factsWith (headsTo a S k) (headOf a (S.getD k [])) else headsTo a S k
theorem headsTo_yes {a : LFact} {S : List (List Int)} {k : Nat} (h : k < S.length) (e : headOk a S[k] = true) : headsTo a S (k + 1) = factsWith (headsTo a S k) (headOf a S[k]) := by
  have hd : S.getD k [] = S[k] := by simp [h]
  show (if _ then _ else _) = _
  rw [hd, if_pos e]
theorem headsTo_no {a : LFact} {S : List (List Int)} {k : Nat} (h : k < S.length) (e : headOk a S[k] = false) : headsTo a S (k + 1) = headsTo a S k := by
  have hd : S.getD k [] = S[k] := by simp [h]
  show (if _ then _ else _) = _
  rw [hd, if_neg (by rw [e]; simp)]
theorem headsTo_bound {a : LFact} {S : List (List Int)} (ha : a.2.length ≤ 2) : ∀ k, (headsTo a S k).length ≤ k ∧ tot (headsTo a S k) ≤ k * 2
  | 0 => ⟨Nat.le_refl _, Nat.le_refl _⟩
  | k + 1 => by
    have ih := headsTo_bound (S := S) ha k
    show List.length (if _ then _ else _) ≤ _ ∧ tot (if _ then _ else _) ≤ _
    split
    · have hb := factsWith_bound (headsTo a S k) (headOf a (S.getD k []))
      have hl := headOf_length a (S.getD k [])
      omega
    · omega
/-- The heads of a rule. -/
def headsL (r : LRule) (gs : List LFact) : List LFact := headsTo r.1 (solsOf gs r.2) (solsOf gs r.2).length

end Go.Proofs.YtokmmloakahkhaaGreat
/-
  The walks of FactsOf: the program's and the specification's.
-/
namespace Go.Proofs.YtokmmloakahkhaaGreat
open Go.RowKit

def factsOf (fs : List LFact) (p : Int) : List LFact := fs.filter fun f => f.1 == p
theorem factsOf_yes {fs : List LFact} {p : Int} {k : Nat} (h : k < fs.length) (e : fs[k].1 = p) : factsOf (fs.take (k + 1)) p = factsOf (fs.take k) p ++ [fs[k]] := by
  unfold factsOf
  rw [take_snoc fs k h, List.filter_append]
  congr 1
  simp [e]
theorem factsOf_no {fs : List LFact} {p : Int} {k : Nat} (h : k < fs.length) (e : fs[k].1 ≠ p) : factsOf (fs.take (k + 1)) p = factsOf (fs.take k) p := by
  unfold factsOf
  rw [take_snoc fs k h, List.filter_append, List.filter_cons_of_neg (by simpa using e)]
  simp
theorem factsOf_length (fs : List LFact) (p : Int) (k : Nat) : (factsOf (fs.take k) p).length ≤ k := by
  have h1 := List.length_filter_le (fun f : LFact => f.1 == p) (fs.take k)
  have h2 : (fs.take k).length ≤ k := by rw [List.length_take]; omega
  unfold factsOf
  omega

end Go.Proofs.YtokmmloakahkhaaGreat
/-
  What FactsWith and FactsOf leave, plain mathematics.
-/
namespace Go.Proofs.YtokmmloakahkhaaGreat
open Go.RowKit

theorem withStep_mem (f : LFact) : ∀ (l : List LFact) (out : List LFact) (b : Bool), (b = true → f ∈ out) → ∀ x, x ∈ endW f (l.foldl (withStep f) (out, b)) ↔ x ∈ out ∨ x ∈ l ∨ x = f
  | [], out, b, hb, x => by
    cases b
    · simp [endW]
    · have := hb rfl
      simp only [List.foldl_nil, endW, if_true, List.not_mem_nil, false_or]
      constructor
      · exact .inl
      · rintro (h | rfl) <;> assumption
  | g :: l, out, b, hb, x => by
    rw [List.foldl_cons]
    have e : withStep f (out, b) g = ((withStep f (out, b) g).1, (withStep f (out, b) g).2) := rfl
    rw [e, withStep_mem f l _ _ ?_ x]
    · unfold withStep
      cases b
      · rcases Int.lt_trichotomy (factOrder f g) 0 with h1 | h1 | h1
        · simp [show factOrder f g ≤ 0 by omega, show factOrder f g ≠ 0 by omega]
          grind
        · have e2 := order_eq h1
          subst e2
          simp [order_refl]
          grind
        · simp [show ¬ factOrder f g ≤ 0 by omega, show factOrder f g ≠ 0 by omega]
          grind
      · have hf := hb rfl
        by_cases h1 : factOrder f g = 0
        · have e2 := order_eq h1
          subst e2
          simp [order_refl]
          grind
        · simp [h1]
          grind
    · intro hb2
      unfold withStep at hb2 ⊢
      cases b
      · have h1 : factOrder f g ≤ 0 := by simpa using hb2
        simp [h1]
      · exact List.mem_append_left _ (by simpa using hb rfl)
theorem factsWith_mem (fs : List LFact) (f x : LFact) : x ∈ factsWith fs f ↔ x ∈ fs ∨ x = f := by
  have := withStep_mem f fs [] false (by simp) x
  unfold endW at this
  unfold factsWith withTo
  rw [List.take_length]
  simpa using this
theorem has_mem (ys : List LFact) (f : LFact) : factsHas ys f = decide (f ∈ ys) := by
  unfold factsHas
  by_cases h : f ∈ ys
  · rw [decide_eq_true h]
    exact List.any_eq_true.2 ⟨f, h, by rw [order_refl]; rfl⟩
  · rw [decide_eq_false h]
    refine List.any_eq_false.2 fun g hg e => h ?_
    have e0 : factOrder g f = 0 := by simpa using e
    rw [← order_eq e0]
    exact hg
theorem with_has_new (fs : List LFact) (f : LFact) : factsHas (factsWith fs f) f = true := by
  rw [has_mem]
  exact decide_eq_true ((factsWith_mem fs f f).2 (.inr rfl))
theorem with_has_old (fs : List LFact) (f : LFact) {k : Nat} (h : k < fs.length) : factsHas (factsWith fs f) fs[k] = true := by
  rw [has_mem]
  exact decide_eq_true ((factsWith_mem fs f _).2 (.inl (List.getElem_mem h)))
theorem factsOf_few (fs : List LFact) (p : Int) : (factsOf fs p).length ≤ fs.length ∧ tot (factsOf fs p) ≤ tot fs := by
  refine ⟨List.length_filter_le _ _, ?_⟩
  unfold factsOf
  induction fs with
  | nil => simp
  | cons g fs ih =>
    rw [List.filter_cons, tot_cons]
    split
    · rw [tot_cons]; omega
    · omega

end Go.Proofs.YtokmmloakahkhaaGreat
/-
  The heads of all rules: how many they are, and the specification's l4All.
-/
namespace Go.Proofs.YtokmmloakahkhaaGreat
open Go.RowKit

theorem place_short {ar : List Int} {p : Int} {n : Nat} (ha : arityOk ar = true) (h : 0 ≤ p ∧ p < ar.length ∧ (n : Int) = ar.getD p.toNat 0) : n ≤ 2 := by
  obtain ⟨h0, h1, h2⟩ := h
  simp only [arityOk, Bool.and_eq_true, List.all_eq_true] at ha
  have hlt : p.toNat < ar.length := by omega
  have hp := ha.2 _ (List.getElem_mem hlt)
  simp only [placeOk, decide_eq_true_eq] at hp
  have hd : ar.getD p.toNat 0 = ar[p.toNat] := by simp [hlt]
  rw [hd] at h2
  omega
theorem fits_parts {ar : List Int} {f : LFact} (h : factFits ar f = true) : (0 ≤ f.1 ∧ f.1 < ar.length ∧ (f.2.length : Int) = ar.getD f.1.toNat 0) ∧ f.2.all constOk = true := by
  simp only [factFits, Bool.and_eq_true, decide_eq_true_eq] at h
  exact h
theorem fits_short {ar : List Int} {f : LFact} (ha : arityOk ar = true) (h : factFits ar f = true) : f.2.length ≤ 2 := place_short ha (fits_parts h).1
/-- A fact's number. -/
def encF (f : LFact) : Nat := f.1.toNat * 64 + (match f.2 with | [] => 0 | [x] => x.toNat + 1 | x :: y :: _ => x.toNat + 1 + 7 * (y.toNat + 1))
theorem const_range {x : Int} (h : constOk x = true) : 0 ≤ x ∧ x ≤ 5 := by simpa [constOk] using h
theorem encF_lt {ar : List Int} {f : LFact} (ha : arityOk ar = true) (h : factFits ar f = true) : encF f < 1536 := by
  have hs := fits_short ha h
  obtain ⟨⟨h0, h1, _⟩, h2⟩ := fits_parts h
  have hl : ar.length ≤ 24 := by simp only [arityOk, Bool.and_eq_true, decide_eq_true_eq] at ha; exact ha.1
  obtain ⟨p, xs⟩ := f
  rcases xs with _ | ⟨x, _ | ⟨y, _ | ⟨z, xs⟩⟩⟩
  · simp only [encF] at *; omega
  · simp only [List.all_cons, Bool.and_eq_true] at h2
    have := const_range h2.1
    simp only [encF] at *; omega
  · simp only [List.all_cons, Bool.and_eq_true] at h2
    have := const_range h2.1
    have := const_range h2.2.1
    simp only [encF] at *; omega
  · simp at hs
theorem split64 {a b c d : Nat} (e : a * 64 + c = b * 64 + d) (hc : c < 64) (hd : d < 64) : a = b ∧ c = d := by omega
theorem split7 {a b c d : Nat} (e : a + 1 + 7 * (c + 1) = b + 1 + 7 * (d + 1)) (ha : a < 6) (hb : b < 6) : a = b ∧ c = d := by omega
theorem encF_inj {ar : List Int} {f g : LFact} (ha : arityOk ar = true) (hf : factFits ar f = true) (hg : factFits ar g = true) (e : encF f = encF g) : f = g := by
  have hs := fits_short ha hf
  have hs' := fits_short ha hg
  obtain ⟨⟨h0, _, _⟩, h2⟩ := fits_parts hf
  obtain ⟨⟨h0', _, _⟩, h2'⟩ := fits_parts hg
  obtain ⟨p, xs⟩ := f
  obtain ⟨q, ys⟩ := g
  rcases xs with _ | ⟨x, _ | ⟨y, _ | ⟨z, xs⟩⟩⟩ <;> rcases ys with _ | ⟨x', _ | ⟨y', _ | ⟨z', ys⟩⟩⟩ <;> (try (simp at hs; done)) <;> (try (simp at hs'; done)) <;>
    simp only [List.all_cons, List.all_nil, Bool.and_eq_true, and_true] at h2 h2' <;> simp only [encF] at e h0 h0'
  · obtain ⟨e1, _⟩ := split64 e (by omega) (by omega); simp; omega
  · have := const_range h2'; obtain ⟨_, e2⟩ := split64 e (by omega) (by omega); omega
  · have := const_range h2'.1; have := const_range h2'.2; obtain ⟨_, e2⟩ := split64 e (by omega) (by omega); omega
  · have := const_range h2; obtain ⟨_, e2⟩ := split64 e (by omega) (by omega); omega
  · have := const_range h2; have := const_range h2'; obtain ⟨e1, e2⟩ := split64 e (by omega) (by omega); simp; omega
  · have := const_range h2; have := const_range h2'.1; have := const_range h2'.2; obtain ⟨_, e2⟩ := split64 e (by omega) (by omega); omega
  · have := const_range h2.1; have := const_range h2.2; obtain ⟨_, e2⟩ := split64 e (by omega) (by omega); omega
  · have := const_range h2.1; have := const_range h2.2; have := const_range h2'; obtain ⟨_, e2⟩ := split64 e (by omega) (by omega); omega
  · have := const_range h2.1; have := const_range h2.2; have := const_range h2'.1; have := const_range h2'.2
    obtain ⟨e1, e2⟩ := split64 e (by omega) (by omega)
    obtain ⟨e3, e4⟩ := split7 e2 (by omega) (by omega)
    simp; omega
theorem tot_short : ∀ {l : List LFact}, (∀ f ∈ l, f.2.length ≤ 2) → tot l ≤ l.length * 2
  | [], _ => by simp [tot]
  | f :: l, h => by
    have h1 := h f (List.mem_cons_self ..)
    have h2 := tot_short fun g hg => h g (List.mem_cons_of_mem _ hg)
    rw [tot_cons, List.length_cons]
    omega
/-- Facts that fit, no two alike: few. -/
theorem facts_few {ar : List Int} {l : List LFact} (ha : arityOk ar = true) (hn : l.Nodup) (h : ∀ f ∈ l, factFits ar f = true) : l.length ≤ 1536 ∧ tot l ≤ 3072 := by
  have h1 := nodup_len 1536 (l.map encF) (by
    unfold List.Nodup
    rw [List.pairwise_map]
    exact List.Pairwise.imp_of_mem (fun {a b} hx hy hne e => hne (encF_inj ha (h a hx) (h b hy) e)) hn) fun x hx => by
      obtain ⟨b, hb, rfl⟩ := List.mem_map.1 hx
      exact encF_lt ha (h b hb)
  rw [List.length_map] at h1
  have h2 := tot_short fun f hf => fits_short ha (h f hf)
  omega

theorem headOf_fits {ar : List Int} {a : LFact} {bs : List Int} (ha : atomFits ar a = true) (e : headOk a bs = true) : factFits ar (headOf a bs) = true := by
  rw [headOf_yes e]
  simp only [atomFits, Bool.and_eq_true, decide_eq_true_eq] at ha
  simp only [headOk, Bool.and_eq_true] at e
  simp only [factFits, Bool.and_eq_true, decide_eq_true_eq, List.length_map]
  exact ⟨ha.1, e.2⟩
theorem headsTo_asc (a : LFact) (S : List (List Int)) : ∀ k, Asc (headsTo a S k)
  | 0 => List.Pairwise.nil
  | k + 1 => by
    have ih := headsTo_asc a S k
    show Asc (if _ then _ else _)
    split
    · exact (foldWith [headOf a (S.getD k [])] _ ih).1
    · exact ih
theorem headsTo_fits {ar : List Int} {a : LFact} {S : List (List Int)} (ha : atomFits ar a = true) : ∀ k, ∀ f ∈ headsTo a S k, factFits ar f = true
  | 0 => fun f hf => by cases hf
  | k + 1 => by
    have ih := headsTo_fits (S := S) ha k
    intro f hf
    have hf : f ∈ (if headOk a (S.getD k []) then factsWith (headsTo a S k) (headOf a (S.getD k [])) else headsTo a S k) := hf
    split at hf
    · rename_i e
      rcases (factsWith_mem _ _ _).1 hf with h | rfl
      · exact ih f h
      · exact headOf_fits ha e
    · exact ih f hf
theorem headsL_fits {ar : List Int} {r : LRule} (gs : List LFact) (h : ruleFits ar r = true) : ∀ f ∈ headsL r gs, factFits ar f = true := by
  simp only [ruleFits, Bool.and_eq_true] at h
  exact headsTo_fits h.1 _
theorem headsL_few {ar : List Int} {r : LRule} (gs : List LFact) (ha : arityOk ar = true) (h : ruleFits ar r = true) : (headsL r gs).length ≤ 1536 ∧ tot (headsL r gs) ≤ 3072 :=
  facts_few ha (asc_nodup (headsTo_asc _ _ _)) (headsL_fits gs h)
/-- The heads of rules. -/
def headsAll (rs : List LRule) (gs : List LFact) : List LFact := setOf (rs.flatMap fun r => headsL r gs)
theorem setOf_more (xs ys : List LFact) : setOf (setOf xs ++ ys) = setOf (xs ++ ys) :=
  (setOf_asc _).unique (setOf_asc _) fun f => by rw [setOf_mem, setOf_mem, List.mem_append, List.mem_append, setOf_mem]
theorem headsAll_snoc (rs : List LRule) (gs : List LFact) (k : Nat) (h : k < rs.length) : headsAll (rs.take (k + 1)) gs = setOf (headsAll (rs.take k) gs ++ headsL rs[k] gs) := by
  unfold headsAll
  rw [take_snoc rs k h, List.flatMap_append, setOf_more]
  simp
theorem headsAll_fits {ar : List Int} {rs : List LRule} (gs : List LFact) (h : ∀ r ∈ rs, ruleFits ar r = true) : ∀ f ∈ headsAll rs gs, factFits ar f = true := by
  intro f hf
  obtain ⟨r, hr, hm⟩ := List.mem_flatMap.1 ((setOf_mem _ _).1 hf)
  exact headsL_fits gs (h r hr) f hm
theorem headsAll_few {ar : List Int} {rs : List LRule} (gs : List LFact) (ha : arityOk ar = true) (h : ∀ r ∈ rs, ruleFits ar r = true) : (headsAll rs gs).length ≤ 1536 ∧ tot (headsAll rs gs) ≤ 3072 :=
  facts_few ha (asc_nodup (setOf_asc _)) (headsAll_fits gs h)
theorem lit_terms {ar : List Int} {l : LLit} (h : litFits ar l = true) : l.2.2.all termOk = true := by
  unfold litFits at h
  split at h
  · simp only [atomFits, Bool.and_eq_true] at h; exact h.2
  · split at h
    · simp only [Bool.and_eq_true] at h; exact h.2
    · cases h

end Go.Proofs.YtokmmloakahkhaaGreat
/-
  The walks of FactsOk: the program's and the specification's.
-/
namespace Go.Proofs.YtokmmloakahkhaaGreat
open Go.RowKit

def roundOk (ar : List Int) (fs : List LFact) (k : Nat) : Bool := factFits ar (fs.getD k (0, [])) && (decide (k = 0) || decide (factOrder (fs.getD (k - 1) (0, [])) (fs.getD k (0, [])) < 0))
def factsOk (ar : List Int) (fs : List LFact) : Bool := arityOk ar && (List.range fs.length).all (roundOk ar fs)
def OkTo (ar : List Int) (fs : List LFact) (k : Nat) : Prop := (List.range k).all (roundOk ar fs) = true
theorem OkTo.step {ar : List Int} {fs : List LFact} {k : Nat} (h : OkTo ar fs k) (e : roundOk ar fs k = true) : OkTo ar fs (k + 1) := by
  unfold OkTo at h ⊢
  rw [List.range_succ, List.all_append, h]
  simp [e]
theorem round_not {ar : List Int} {fs : List LFact} {k : Nat} (hk : k < fs.length) (e : roundOk ar fs k = false) : factsOk ar fs = false := by
  unfold factsOk
  have : (List.range fs.length).all (roundOk ar fs) = false := by
    rw [List.all_eq_false]
    exact ⟨k, List.mem_range.2 hk, by simp [e]⟩
  rw [this, Bool.and_false]
theorem getD_at {α : Type} {l : List α} {k : Nat} (h : k < l.length) {d : α} : l.getD k d = l[k] := by simp [h]
theorem round_first {ar : List Int} {fs : List LFact} {k : Nat} (hk : k < fs.length) (h : factFits ar fs[k] = true) (h0 : k = 0) : roundOk ar fs k = true := by
  unfold roundOk
  rw [getD_at hk, h]
  simp [h0]
theorem round_next {ar : List Int} {fs : List LFact} {j : Nat} (hk : j + 1 < fs.length) (hj : j < fs.length) (h : factFits ar fs[j + 1] = true) : roundOk ar fs (j + 1) = decide (factOrder fs[j] fs[j + 1] < 0) := by
  unfold roundOk
  rw [getD_at hk, h, Nat.add_sub_cancel, getD_at hj]
  simp
theorem round_unfit {ar : List Int} {fs : List LFact} {k : Nat} (hk : k < fs.length) (h : factFits ar fs[k] = false) : roundOk ar fs k = false := by
  unfold roundOk
  rw [getD_at hk, h]
  simp
theorem later_fact {w0 : World} {v : Value} {f : LFact} (h : RdFact w0 w0.heap.size v f) (x : Later w0) : RdFact x.val x.val.heap.size v f := h.on x.2
theorem later_ints {w0 : World} {v : Value} {f : List Int} (h : RdInts w0 w0.heap.size v f) (x : Later w0) : RdInts x.val x.val.heap.size v f := h.on x.2

end Go.Proofs.YtokmmloakahkhaaGreat
/-
  The specification's l1Pick, FactsBoth and FactsLess.
-/
namespace Go.Proofs.YtokmmloakahkhaaGreat
open Go.RowKit

theorem filter_tot_le (p : LFact → Bool) : ∀ l : List LFact, tot (l.filter p) ≤ tot l
  | [] => by simp [tot]
  | f :: l => by
    have := filter_tot_le p l
    by_cases h : p f = true <;> simp [h, tot_cons] <;> omega

/-- The facts of a list that another has, or has not. -/
def pickL (xs ys : List LFact) (b : Bool) : List LFact := setOf (xs.filter fun f => factsHas ys f == b)
theorem pickL_bound (xs ys : List LFact) (b : Bool) : (pickL xs ys b).length ≤ xs.length ∧ tot (pickL xs ys b) ≤ tot xs := by
  have h := setOf_bound (xs.filter fun f => factsHas ys f == b)
  have h1 := List.length_filter_le (fun f => factsHas ys f == b) xs
  have h2 := filter_tot_le (fun f => factsHas ys f == b) xs
  unfold pickL
  omega
theorem pickL_yes {xs ys : List LFact} {b : Bool} {k : Nat} (h : k < xs.length) (e : factsHas ys xs[k] = b) : pickL (xs.take (k + 1)) ys b = factsWith (pickL (xs.take k) ys b) xs[k] := by
  unfold pickL
  rw [take_snoc xs k h, List.filter_append, ← setOf_snoc]
  simp [e]
theorem pickL_no {xs ys : List LFact} {b : Bool} {k : Nat} (h : k < xs.length) (e : factsHas ys xs[k] ≠ b) : pickL (xs.take (k + 1)) ys b = pickL (xs.take k) ys b := by
  unfold pickL
  rw [take_snoc xs k h, List.filter_append]
  simp [e]

end Go.Proofs.YtokmmloakahkhaaGreat
/-
  The specification's Consequences and Closed.
-/
namespace Go.Proofs.YtokmmloakahkhaaGreat
open Go.RowKit

/-- The heads that follow. -/
def consL (p : LProg) (fs : List LFact) : List LFact := if progOk p && factsOk p.1 fs then headsAll p.2 fs else []
def closedL (p : LProg) (fs : List LFact) : Bool := progOk p && (factsOk p.1 fs && decide ((pickL (headsAll p.2 fs) fs false).length = 0))

theorem factsOk_parts {ar : List Int} {fs : List LFact} (h : factsOk ar fs = true) : arityOk ar = true ∧ (∀ f ∈ fs, factFits ar f = true) ∧ Asc fs := by
  simp only [factsOk, Bool.and_eq_true, List.all_eq_true, List.mem_range] at h
  obtain ⟨h1, h2⟩ := h
  refine ⟨h1, fun f hf => ?_, ?_⟩
  · obtain ⟨k, hk, rfl⟩ := List.getElem_of_mem hf
    have := h2 k hk
    unfold roundOk at this
    rw [getD_at hk, Bool.and_eq_true] at this
    exact this.1
  · have hs : ∀ k (h0 : k + 1 < fs.length), factOrder (fs[k]'(by omega)) fs[k + 1] < 0 := fun k h0 => by
      have := h2 (k + 1) h0
      unfold roundOk at this
      rw [getD_at h0, Nat.add_sub_cancel, getD_at (show k < fs.length by omega), Bool.and_eq_true] at this
      simpa using this.2
    have hd : ∀ d k (h0 : k + d + 1 < fs.length), factOrder (fs[k]'(by omega)) fs[k + d + 1] < 0 := fun d => by
      induction d with
      | zero => intro k h0; exact hs k h0
      | succ d ih =>
        intro k h0
        exact order_less (ih k (by omega)) (hs (k + d + 1) h0)
    unfold Asc
    rw [List.pairwise_iff_getElem]
    intro i j hi hj hij
    obtain ⟨d, rfl⟩ : ∃ d, j = i + d + 1 := ⟨j - i - 1, by omega⟩
    exact hd d i hj
theorem prog_parts {p : LProg} (h : progOk p = true) : arityOk p.1 = true ∧ p.2.length ≤ 60 ∧ ∀ r ∈ p.2, ruleFits p.1 r = true := by
  simp only [progOk, Bool.and_eq_true, decide_eq_true_eq, List.all_eq_true] at h
  exact ⟨h.1, h.2.1, h.2.2⟩

end Go.Proofs.YtokmmloakahkhaaGreat
/-
  The heads of a rule by its solutions: plain mathematics.
-/
namespace Go.Proofs.YtokmmloakahkhaaGreat
open Go.RowKit

theorem safeTo_or {a b y : Nat} (h : safeTo (a ||| b) y 4 = true) : safeTo b y 4 = true := by
  rw [safeTo_iff] at h ⊢
  intro v hv hb
  exact h v hv (by rw [Nat.testBit_or, hb, Bool.or_true])
/-- A rule that fits has a body that can be asked. -/
theorem fits_body {ar : List Int} {r : LRule} (h : ruleFits ar r = true) : bodySafe r.2 = true := by
  simp only [ruleFits, Bool.and_eq_true, decide_eq_true_eq] at h
  obtain ⟨_, h4, hl, hs⟩ := h
  unfold bodySafe
  rw [Bool.and_eq_true, Bool.and_eq_true, decide_eq_true_eq, List.all_eq_true]
  refine ⟨⟨fun l hm => ?_, h4⟩, ?_⟩
  · have hf := List.all_eq_true.1 hl l hm
    refine litFine_yes ?_ (lit_terms hf)
    unfold litFits at hf
    split at hf
    · omega
    · split at hf
      · omega
      · cases hf
  · rw [ruleSafe_eq] at hs ⊢
    rw [ruleMask_body]
    exact safeTo_or hs
/-- The variables of the head stand in an atom that is to hold. -/
theorem fits_head {ar : List Int} {r : LRule} (h : ruleFits ar r = true) : ∀ v, v < 4 → (maskOf r.1.2).testBit v = true → ∃ l ∈ r.2, l.1 = 0 ∧ (maskOf l.2.2).testBit v = true := by
  simp only [ruleFits, Bool.and_eq_true, decide_eq_true_eq] at h
  obtain ⟨_, _, _, hs⟩ := h
  rw [ruleSafe_eq, safeTo_iff] at hs
  intro v hv hm
  have := hs v hv (by unfold ruleMask; rw [Nat.testBit_or, hm, Bool.true_or])
  unfold yesMask at this
  rw [yesMask_bit] at this
  simpa using this
/-- A solution makes a head. -/
theorem sols_head {ar : List Int} {r : LRule} {fs : List LFact} {S : List (List Int)} (h : ruleFits ar r = true) (hS : IsSols (questL fs r.2) S) : ∀ b ∈ S, headOk r.1 b = true := by
  intro b hb
  obtain ⟨h1, h2, _⟩ := (hS.2 b).1 hb
  have hf := h
  simp only [ruleFits, atomFits, Bool.and_eq_true, decide_eq_true_eq] at hf
  refine headOk_yes h1 hf.1.2 (List.all_eq_true.2 fun x hx => ?_)
  obtain ⟨t, ht, rfl⟩ := List.mem_map.1 hx
  have htk : termOk t = true := List.all_eq_true.1 hf.1.2 t ht
  have hbd := termVal_bounds h1 htk
  rcases term_cases htk with h' | ⟨v, hv, rfl⟩
  · rw [termVal_const h'.1]
    simp [constOk]
    exact h'
  · have hm : (maskOf r.1.2).testBit v = true := by unfold maskOf; rw [maskFrom_bit hv]; exact .inr ht
    obtain ⟨l, hl, _, hlm⟩ := fits_head h v hv hm
    have hne := (h2 v hv).2 ⟨(l, fs), List.mem_map.2 ⟨l, hl, rfl⟩, hlm⟩
    rw [termVal_v] at hbd ⊢
    unfold constOk
    exact decide_eq_true (by omega)
theorem headsTo_mem (a : LFact) (S : List (List Int)) (f : LFact) : ∀ k, k ≤ S.length → (f ∈ headsTo a S k ↔ ∃ b ∈ S.take k, headOk a b = true ∧ f = headOf a b)
  | 0, _ => by simp [headsTo]
  | k + 1, hk => by
    have ih := headsTo_mem a S f k (by omega)
    have hlt : k < S.length := by omega
    rw [take_snoc S k hlt]
    cases e : headOk a S[k]
    · rw [headsTo_no hlt e, ih]
      constructor
      · rintro ⟨b, hb, h⟩; exact ⟨b, List.mem_append_left _ hb, h⟩
      · rintro ⟨b, hb, h⟩
        rcases List.mem_append.1 hb with hb | hb
        · exact ⟨b, hb, h⟩
        · obtain rfl : b = S[k] := by simpa using hb
          rw [e] at h; cases h.1
    · rw [headsTo_yes hlt e, factsWith_mem, ih]
      constructor
      · rintro (⟨b, hb, h⟩ | rfl)
        · exact ⟨b, List.mem_append_left _ hb, h⟩
        · exact ⟨S[k], List.mem_append_right _ (List.mem_singleton_self _), e, rfl⟩
      · rintro ⟨b, hb, h⟩
        rcases List.mem_append.1 hb with hb | hb
        · exact .inl ⟨b, hb, h⟩
        · obtain rfl : b = S[k] := by simpa using hb
          exact .inr h.2
/-- The heads, by whatever list of the solutions. -/
theorem headsL_mem {ar : List Int} {r : LRule} {fs : List LFact} {S : List (List Int)} (h : ruleFits ar r = true) (hS : IsSols (questL fs r.2) S) (hc : ∀ f ∈ fs, f.2.all constOk = true) (hn : fs.Nodup) (f : LFact) :
    f ∈ headsL r fs ↔ ∃ b ∈ S, f = (r.1.1, r.1.2.map (termVal b)) := by
  obtain ⟨_, h2⟩ := solsOf_is (fs := fs) (gs := fs) (SafeB.of (fits_body h)) hc hn (fun _ => Iff.rfl)
  unfold headsL
  rw [headsTo_mem _ _ _ _ (Nat.le_refl _), List.take_length]
  constructor
  · rintro ⟨b, hb, e, rfl⟩
    exact ⟨b, (hS.2 b).2 ((h2.2 b).1 hb), headOf_yes e⟩
  · rintro ⟨b, hb, rfl⟩
    have e := sols_head h hS b hb
    exact ⟨b, (h2.2 b).2 ((hS.2 b).1 hb), e, (headOf_yes e).symm⟩

end Go.Proofs.YtokmmloakahkhaaGreat
/-
  Tables of facts: a word for each predicate.
-/
namespace Go.Proofs.YtokmmloakahkhaaGreat
open Go.RowKit

/-- The words of a table, with one fact more. -/
def setBit (T : List Nat) (p n : Nat) : List Nat := T.set p (T.getD p 0 ||| 2 ^ n)
def tabCells (T : List Nat) : Array Value := (T.map fun x => Value.int .u64 ((x : Nat) : Int)).toArray
theorem bit_one_t (x n : Nat) (hx : x < 18446744073709551616) : (bits .and .u64 ((x : Int) / 2 ^ n) 1 == 1) = x.testBit n := by
  have e : ((x : Int) / 2 ^ n) = ((x / 2 ^ n : Nat) : Int) := by simp
  have h1 : x / 2 ^ n < 18446744073709551616 := Nat.lt_of_le_of_lt (Nat.div_le_self _ _) hx
  rw [e, show (1 : Int) = ((1 : Nat) : Int) from rfl, u64_and_nat _ 1 h1 (by decide), Nat.and_one_is_mod]
  have h2 : x.testBit n = decide (x / 2 ^ n % 2 = 1) := by
    rw [Nat.testBit, Nat.shiftRight_eq_div_pow, Nat.one_and_eq_mod_two]
    have := Nat.mod_two_eq_zero_or_one (x / 2 ^ n)
    rcases this with h | h <;> simp [h]
  rw [h2, Bool.eq_iff_iff, beq_iff_eq, decide_eq_true_eq]
  omega

end Go.Proofs.YtokmmloakahkhaaGreat
/-
  A table of facts is filled: constantsNumber, addAll.
-/
namespace Go.Proofs.YtokmmloakahkhaaGreat
open Go.RowKit

/-- The number of which constants are the digits. -/
def numF (xs : List Int) : Nat := xs.foldl (fun n c => n * 6 + c.toNat) 0
theorem numF_take {xs : List Int} {k : Nat} (h : k < xs.length) : numF (xs.take (k + 1)) = numF (xs.take k) * 6 + xs[k].toNat := by
  unfold numF
  rw [take_snoc xs k h, List.foldl_append]
  rfl
theorem numF_lt {xs : List Int} (hc : xs.all constOk = true) : ∀ k, k ≤ xs.length → numF (xs.take k) < 6 ^ k
  | 0, _ => by simp [numF]
  | k + 1, hk => by
    have ih := numF_lt hc k (by omega)
    rw [numF_take (by omega), Nat.pow_succ]
    have : 0 ≤ xs[k] ∧ xs[k] ≤ 5 := by simpa [constOk] using List.all_eq_true.1 hc _ (List.getElem_mem (show k < xs.length by omega))
    omega

/-- The facts of a table's predicates. -/
def TabFact (f : LFact) : Prop := 0 ≤ f.1 ∧ f.1 < 24 ∧ f.2.all constOk = true ∧ f.2.length ≤ 2
def tabWith (T : List Nat) (fs : List LFact) : List Nat := fs.foldl (fun T f => setBit T f.1.toNat (numF f.2)) T
theorem tabWith_take {T : List Nat} {fs : List LFact} {k : Nat} (h : k < fs.length) : tabWith T (fs.take (k + 1)) = setBit (tabWith T (fs.take k)) fs[k].1.toNat (numF fs[k].2) := by
  unfold tabWith
  rw [take_snoc fs k h, List.foldl_append]
  rfl
theorem numF_64 {xs : List Int} (hc : xs.all constOk = true) (hl : xs.length ≤ 2) : numF xs < 64 := by
  have := numF_lt hc xs.length (Nat.le_refl _)
  rw [List.take_length] at this
  have h2 : (6 : Nat) ^ xs.length ≤ 6 ^ 2 := Nat.pow_le_pow_right (by decide) hl
  omega

end Go.Proofs.YtokmmloakahkhaaGreat
/-
  The walk of Solutions.
-/
namespace Go.Proofs.YtokmmloakahkhaaGreat
open Go.RowKit

/-- A row of slices that make laid and a loop fills: k of them stand. -/
structure FillS (g n : Nat) (wr : World) (xss : List (List Int)) (av : List Value) : Prop where
  args : OwnArgs wr (g + 1) wr.heap.size av xss
  row : ∃ cur, wr.heap[g]? = some (.cells cur 31 (0, 0)) ∧ cur.size = n ∧ cur.toList.take xss.length = av
theorem FillS.start (w : World) (cs : Array Value) (n : Nat) (h : cs.size = n) : FillS w.heap.size n (w.alloc (.cells cs 31)) [] [] :=
  ⟨OwnArgs.nil, cs, heap_alloc_new w _, h, by simp⟩
theorem FillS.lt {g n : Nat} {wr : World} {xss : List (List Int)} {av : List Value} (h : FillS g n wr xss av) : g < wr.heap.size := by
  obtain ⟨_, cur, hg, _⟩ := h
  exact Blk.lt hg
theorem FillS.on {g n : Nat} {wr w4 : World} {xss : List (List Int)} {av : List Value} (h : FillS g n wr xss av) (hb : Below wr.heap.size wr w4) : FillS g n w4 xss av := by
  have hlt := h.lt
  obtain ⟨ha, cur, hg, h1, h2⟩ := h
  exact ⟨(ha.below hb (Nat.le_refl _)).mono (Nat.le_refl _) hb.size, cur, (hb.block g hlt).trans hg, h1, h2⟩
theorem FillS.free {g n : Nat} {wr : World} {xss : List (List Int)} {av : List Value} (h : FillS g n wr xss av) {k : Nat} (hk : k < n) : (∃ x, wr.cell? ⟨g, k, none⟩ = some x) ∧ wr.frozen? ⟨g, k, none⟩ = false := by
  obtain ⟨_, cur, hg, h1, _⟩ := h
  exact ⟨⟨cur[k]'(by omega), by rw [Blk.cell hg, Array.getElem?_eq_getElem]⟩, Blk.frozen hg k⟩
theorem FillS.step {g n k : Nat} {wr w4 : World} {xss : List (List Int)} {xs : List Int} {av : List Value} {u : Value} (h : FillS g n wr xss av) (hk : xss.length = k) (hkn : k < n) (hb : Below wr.heap.size wr w4) (hu : OwnInts w4 wr.heap.size w4.heap.size u xs) :
    FillS g n (w4.setCell ⟨g, k, none⟩ u) (xss ++ [xs]) (av ++ [u]) := by
  have hlt := h.lt
  have hl := h.args.len
  have h4 := (h.args.below hb (Nat.le_refl _)).snoc hu (by omega) hb.size
  obtain ⟨_, cur, hg, h1, h2⟩ := h
  have hg4 : Blk w4 g 31 cur := (hb.block g hlt).trans hg
  refine ⟨by simpa using h4.set (p := ⟨g, k, none⟩) (.inl (Nat.lt_succ_self g)) u, _, hg4.set_ k u, by simpa using h1, ?_⟩
  have hlen : (xss ++ [xs]).length = k + 1 := by simp [hk]
  rw [hlen, Array.toList_setIfInBounds]
  rw [hk] at h2
  apply List.ext_getElem?
  intro j
  by_cases hj : j < k
  · rw [List.getElem?_take_of_lt (by omega), List.getElem?_set_ne (by omega), List.getElem?_append_left (by omega), ← h2, List.getElem?_take_of_lt hj]
  · by_cases hj2 : j = k
    · subst hj2
      rw [List.getElem?_take_of_lt (by omega), List.getElem?_set_self (by simp; omega), List.getElem?_append_right (by omega)]
      simp [hl, hk]
    · rw [List.getElem?_eq_none (by simp; omega), List.getElem?_eq_none (by simp; omega)]
theorem FillS.done {g n : Nat} {wr : World} {xss : List (List Int)} {av : List Value} (h : FillS g n wr xss av) (hn : xss.length = n) (hm : n ≤ maxLen) : OwnRows wr g wr.heap.size (.slice (some ⟨g, 0, none⟩) xss.length n) xss := by
  have hlt := h.lt
  have hl := h.args.len
  obtain ⟨ha, cur, hg, h1, h2⟩ := h
  exact ⟨av, ha.mono (by omega) (Nat.le_refl _), ⟨by omega, .inr ⟨g, n, cur, rfl, Nat.le_refl _, hg, by omega, hm, by omega, by rw [Nat.mul_one]; exact h2⟩⟩, fun g' hg' => by simp [Value.ownBlock] at hg'; omega⟩

theorem OwnRows.nil (w : World) (lo hi : Nat) : OwnRows w lo hi (.slice none 0 0) [] := ⟨[], OwnArgs.nil, World.ownsRow_nil _ _ _ _, fun g hg => by cases hg⟩

set_option maxHeartbeats 4000000 in
set_option maxRecDepth 100000 in
theorem solutionsIn_any (v v2 : Value) (fs : List LFact) (ls : List LLit) (hsf : bodySafe ls = true) (hcf : constsL fs = true) (w : World) (h : RdFacts w w.heap.size v fs) (h2 : RdLits w w.heap.size v2 ls) (hn : fs.length ≤ 1048576) (ht : tot fs ≤ 1048576) (hl : ls.length + totL ls ≤ 1048576) :
    Calls Tryz.prog 43 #[v, v2] w fun e w' => ∃ (A : Option Addr) (c lo hi : Nat) (S : List (List Int)), e = .returned (.slice A S.length c) ∧ S = solsL fs ls ∧ w.heap.size ≤ lo ∧ hi ≤ w'.heap.size ∧ OwnW w' lo hi (.slice A S.length c) S ∧ (∀ b ∈ S, bindOk b = true) ∧ S.length ≤ 65536 ∧ Below w.heap.size w w' := by
  have H := Lib.hid h
  have H2 := Lib.hid h2
  obtain ⟨A, c, rfl, hc, _⟩ := h
  obtain ⟨A2, c2, rfl, hc2, _⟩ := h2
  have HSF := Lib.hid hsf
  have HCF := Lib.hid hcf
  have hS := SafeB.of HSF.out
  have hC := consts_of HCF.out
  have CQ := Lib.hid (questionsOf_any (.slice A fs.length c) (.slice A2 ls.length c2) fs ls w H.out H2.out (by omega))
  have HQL := Lib.hid (show (questL fs ls).length = ls.length by simp [questL])
  have HQK := Lib.hid (hS.qok hC hn ht (by omega))
  have HSQ := Lib.hid (hS.quests fs)
  clear hS hC hsf hcf
  go_enter Tryz.func43, Tryz.ntmps43
  go_wp2_with (first
    | (go_at_call 85; refine CQ.out.mono ?_; rintro e w3 ⟨g, us, rfl, hg, at3, rd3, hb3⟩
       have HB3 := Lib.hid hb3
       have CS := solve_any g ls.length w.heap.size us (questL fs ls) w3 at3 rd3 hg (by rw [HQL.out]; omega) HQK.out HSQ.out
       rw [HQL.out] at CS
       have HCS := Lib.hid CS
       have HG := Lib.hid hg
       clear CS hg at3 rd3 hb3)
    | (go_at_call 84; refine HCS.out.mono ?_; rintro e w4 ⟨A4, c4, S, rfl, own4, on4, is4⟩
       have HSO := Lib.hid (sortW_any w3.heap.size w4.heap.size (.slice A4 S.length c4) S w4 own4 (Nat.le_trans (binds_len is4.1 is4.ok) (by decide)))
       have H4 := Lib.hid (And.intro on4 is4)
       clear own4 on4 is4)
    | (go_at_call 63; refine HSO.out.mono ?_; rintro e w5 ⟨rfl, S', hp, hup, own5, only5⟩
       have H5 := Lib.hid (And.intro hp (And.intro hup (And.intro own5 only5)))
       clear hp hup own5 only5))
  go_ret
  obtain ⟨on4, is4⟩ := H4.out
  obtain ⟨hp, hup, own5, only5⟩ := H5.out
  obtain ⟨hub, is5⟩ := is4.up hp hup
  have hRS : S' = solsL fs ls := solsL_is HSF.out HCF.out hub is5
  have hlenS : S.length = S'.length := hp.length_eq.symm
  have hz3 := HB3.out.size
  have hzg := HG.out
  have hz4 := on4.size
  have hz5 := only5.size
  have B5 : Below w.heap.size w w5 := Only.then_ (Only.then_ HB3.out on4 (by omega)) only5 (by omega)
  rw [hlenS] at own5 ⊢
  exact ⟨A4, c4, w3.heap.size, w4.heap.size, S', rfl, hRS, hz3, hz5, own5, is5.ok, binds_len is5.1 is5.ok, B5⟩

set_option maxHeartbeats 4000000 in
set_option maxRecDepth 100000 in
theorem numberLists_any (hi : Nat) (A4 : Option Addr) (c4 : Nat) (S' : List (List Int)) (w5 : World) (hrd0 : RdW w5 hi (.slice A4 S'.length c4) S') (hz45 : hi ≤ w5.heap.size) (hok : ∀ b ∈ S', bindOk b = true) (hSn : S'.length ≤ 65536) :
    Calls Tryz.prog 42 #[.slice A4 S'.length c4] w5 fun e w' => ∃ A c, e = .returned (.slice A S'.length c) ∧ OwnRows w' w5.heap.size w'.heap.size (.slice A S'.length c) S' ∧ Below w5.heap.size w5 w' := by
  have HRD := Lib.hid hrd0
  have HOK := Lib.hid hok
  clear hrd0 hok
  obtain ⟨i0, hi0, hz0, hz1, hzb⟩ := info_parts Tryz.infoIntS
  have hmk := fun W => run_make_rowN (P := Tryz.prog) 27 31 i0 (.slice none 0 0) Tryz.underlying27 hi0 hz0 .i64 .i64 S'.length S'.length (Nat.le_refl _) (by rw [hzb]; omega) (by omega) W
  rw [hz1] at hmk
  simp only [Value.cells, Nat.mul_one] at hmk
  obtain ⟨cs, hcs⟩ : ∃ cs, cs = madeCells #[Value.slice none 0 0] S'.length := ⟨_, rfl⟩
  have hcsz : cs.size = S'.length := by rw [hcs]; simp [madeCells]
  have HF0 := Lib.hid (FillS.start w5 cs S'.length hcsz)
  rw [← hcs] at hmk
  clear hcs hcsz
  go_enter Tryz.func42, Tryz.ntmps42
  go_wp2_with fail
  obtain ⟨w6, hw6⟩ : ∃ w6, w6 = w5.alloc (Obj.cells cs 31) := ⟨_, rfl⟩
  have hB6 := Lib.hid (show Below w5.heap.size w5 w6 by rw [hw6]; exact below1 _ _)
  rw [← hw6] at HF0 ⊢
  clear hw6 hmk
  go_loopw [11] (fun i wr => ∃ (k : Nat) (av : List Value), k ≤ S'.length ∧ i = .int .i64 k ∧ FillS w5.heap.size S'.length wr (S'.take k) av ∧ Below w5.heap.size w5 wr) (fun i _ => S'.length - (intOf i).toNat)
  case atStart => exact ⟨0, [], Nat.zero_le _, rfl, HF0.out, hB6.out⟩
  case round =>
    obtain ⟨k, av, hk, rfl, hfi, hbe⟩ := hrel
    by_cases hlt : k < S'.length
    · have hrd := HRD.out.below hbe hz45
      obtain ⟨A7, c7, e7, _, hx⟩ := hrd
      injection e7 with e7 e9 e8
      clear e9
      subst e7 e8
      obtain ⟨b, o, rfl, _, hx⟩ := hx (by omega)
      have hck : wr.cell? ⟨b, o + k, none⟩ = some (.int .u32 ((encB S'[k] : Nat) : Int)) := hx k hlt
      have hbk := HOK.out _ (List.getElem_mem hlt)
      have CN := Lib.hid (numbers_any S'[k] hbk wr)
      have HFI := Lib.hid hfi
      have HBE := Lib.hid hbe
      have HTK := Lib.hid (take_snoc S' k hlt)
      have hgl := hfi.lt
      clear hx hfi hbe hbk
      go_upto_region 5 with fail
      go_wp2_with (first
        | (go_at_call 83; refine CN.out.mono ?_; rintro e w7 ⟨A8, c8, rfl, o8, b8⟩
           have f7 := (HFI.out.on b8).free hlt
           obtain ⟨⟨x7, hx7⟩, hf7⟩ := f7
           have HST := Lib.hid (HFI.out.step (by simp; omega) hlt b8 o8)
           have HB7 := Lib.hid (bthen HBE.out b8)
           clear o8 b8))
      go_roundw
      case rel => exact ⟨k + 1, _, by omega, by go_num, by rw [HTK.out]; exact HST.out, HB7.out.setCell (Nat.le_refl _) _⟩
      case measure => simp [intOf]; omega
    · have hkn : k = S'.length := by omega
      have HFI := Lib.hid (show FillS w5.heap.size S'.length wr S' av by rw [hkn, List.take_length] at hfi; exact hfi)
      have HBE := Lib.hid hbe
      clear hkn hfi hbe
      go_wp2_with fail
      go_ret
      have hd := HFI.out.done rfl (by unfold maxLen; omega)
      exact ⟨_, _, rfl, hd, HBE.out⟩

set_option maxHeartbeats 4000000 in
set_option maxRecDepth 100000 in
theorem implSolutions_any (v v2 : Value) (fs : List LFact) (ls : List LLit) (R : List (List Int)) (hR : R = solsL fs ls) (w : World) (h : RdFacts w w.heap.size v fs) (h2 : RdLits w w.heap.size v2 ls) (hn : fs.length ≤ 1048576) (ht : tot fs ≤ 1048576) (hl : ls.length + totL ls ≤ 1048576) :
    Calls Tryz.prog 8 #[v, v2] w fun e w' => ∃ A c, e = .returned (.slice A R.length c) ∧ OwnRows w' w.heap.size w'.heap.size (.slice A R.length c) R ∧ Below w.heap.size w w' := by
  have H := Lib.hid h
  have H2 := Lib.hid h2
  have HR := Lib.hid hR
  obtain ⟨A, c, rfl, hc, _⟩ := h
  obtain ⟨A2, c2, rfl, hc2, _⟩ := h2
  clear hR
  obtain ⟨sf, hsf⟩ : ∃ sf, sf = bodySafe ls := ⟨_, rfl⟩
  obtain ⟨cf, hcf⟩ : ∃ cf, cf = constsL fs := ⟨_, rfl⟩
  have CB := Lib.hid (implBodySafe_any (.slice A2 ls.length c2) ls w H2.out hl)
  rw [← hsf] at CB
  have CH := Lib.hid (fun W (hW : Below w.heap.size w W) => haveConstants_any (.slice A fs.length c) fs cf hcf.symm W (H.out.on hW) hn ht)
  have HSF := Lib.hid hsf
  have HCF := Lib.hid hcf
  clear hsf hcf
  cases sf
  · have HE := Lib.hid (show R = [] by rw [HR.out]; unfold solsL; rw [← HSF.out]; rfl)
    go_enter Tryz.func8, Tryz.ntmps8
    go_wp2_with (go_at_call 11; refine CB.out.mono ?_; rintro e w1 ⟨rfl, hb1⟩; have HB1 := Lib.hid hb1; clear hb1)
    go_ret
    rw [HE.out]
    exact ⟨none, 0, rfl, OwnRows.nil _ _ _, HB1.out⟩
  · cases cf
    · have HE := Lib.hid (show R = [] by rw [HR.out]; unfold solsL; rw [← HSF.out, ← HCF.out]; rfl)
      go_enter Tryz.func8, Tryz.ntmps8
      go_wp2_with (first
        | (go_at_call 11; refine CB.out.mono ?_; rintro e w1 ⟨rfl, hb1⟩; have HB1 := Lib.hid hb1; clear hb1)
        | (go_at_call 41; refine (CH.out _ HB1.out).mono ?_; rintro e w2 ⟨rfl, hb2⟩; have HB2 := Lib.hid (bthen HB1.out hb2); clear hb2))
      go_ret
      rw [HE.out]
      exact ⟨none, 0, rfl, OwnRows.nil _ _ _, HB2.out⟩
    · have CQ := Lib.hid (fun W (hW : Below w.heap.size w W) => solutionsIn_any (.slice A fs.length c) (.slice A2 ls.length c2) fs ls HSF.out.symm HCF.out.symm W (H.out.on hW) (H2.out.on hW) hn ht hl)
      go_enter Tryz.func8, Tryz.ntmps8
      go_wp2_with (first
        | (go_at_call 11; refine CB.out.mono ?_; rintro e w1 ⟨rfl, hb1⟩; have HB1 := Lib.hid hb1; clear hb1)
        | (go_at_call 41; refine (CH.out _ HB1.out).mono ?_; rintro e w2 ⟨rfl, hb2⟩; have HB2 := Lib.hid (bthen HB1.out hb2); clear hb2)
        | (go_at_call 43; refine (CQ.out _ HB2.out).mono ?_; rintro e w5 ⟨A4, c4, lo5, hi5, S', rfl, hRS, hlo5, hz45, own5, hok5, hSn, b5⟩
           have CNL := Lib.hid (numberLists_any hi5 A4 c4 S' w5 own5.rd hz45 hok5 hSn)
           have HRS := Lib.hid (show S' = R by rw [hRS, HR.out])
           have HB5 := Lib.hid (bthen HB2.out b5)
           clear hRS own5 hok5 b5 hlo5 hz45 hSn)
        | (go_at_call 42; refine CNL.out.mono ?_; rintro e w6 ⟨A6, c6, rfl, o6, b6⟩; have H6 := Lib.hid (And.intro o6 b6); clear o6 b6))
      go_ret
      obtain ⟨o6, b6⟩ := H6.out
      rw [← HRS.out]
      exact ⟨_, _, rfl, o6.mono HB5.out.size (Nat.le_refl _), bthen HB5.out b6⟩

end Go.Proofs.YtokmmloakahkhaaGreat
/-
  The walk of headsIn.
-/
namespace Go.Proofs.YtokmmloakahkhaaGreat
open Go.RowKit

def zeroT : List Nat := List.replicate 24 0
def hdOf (r : LRule) (b : List Int) : LFact := (r.1.1, r.1.2.map (termVal b))
theorem tabWith_snoc (T : List Nat) (fs : List LFact) (f : LFact) : tabWith T (fs ++ [f]) = setBit (tabWith T fs) f.1.toNat (numF f.2) := by
  unfold tabWith
  rw [List.foldl_append]
  rfl
end Go.Proofs.YtokmmloakahkhaaGreat
/-
  hasAll: a table has all of another one.
-/
namespace Go.Proofs.YtokmmloakahkhaaGreat
open Go.RowKit

def wordIn (T2 T : List Nat) (p : Nat) : Bool := bits .andNot .u64 ((T2.getD p 0 : Nat) : Int) ((T.getD p 0 : Nat) : Int) == 0
def tabIn (T2 T : List Nat) : Bool := (List.range 24).all (wordIn T2 T)

end Go.Proofs.YtokmmloakahkhaaGreat
/-
  The walk of the program's FactsOk.
-/
namespace Go.Proofs.YtokmmloakahkhaaGreat
open Go.RowKit

end Go.Proofs.YtokmmloakahkhaaGreat
/-
  The program's Closed, by its tables.
-/
namespace Go.Proofs.YtokmmloakahkhaaGreat
open Go.RowKit

/-- What the program's Closed answers. -/
def ClosedT (p : LProg) (fs : List LFact) (R : Bool) : Prop := ((progOk p && factsOk p.1 fs) = false ∧ R = false) ∨ ((progOk p && factsOk p.1 fs) = true ∧ ∃ F, (∀ f, f ∈ F ↔ f ∈ headsAll p.2 fs) ∧ R = tabIn (tabWith zeroT F) (tabWith zeroT fs))

theorem tabWith_len (T : List Nat) (fs : List LFact) : (tabWith T fs).length = T.length := by
  induction fs generalizing T with
  | nil => rfl
  | cons f fs ih =>
    show (tabWith (setBit T f.1.toNat (numF f.2)) fs).length = _
    rw [ih]
    simp [setBit]
theorem tabCells_one (T : List Nat) : (tabCells T).all (·.oneCell') = true := by
  unfold tabCells
  rw [List.all_toArray, List.all_map, List.all_eq_true]
  intro x _
  rfl

end Go.Proofs.YtokmmloakahkhaaGreat
/-
  Tables by their bits: one table stands in another as its facts do.
-/
namespace Go.Proofs.YtokmmloakahkhaaGreat
open Go.RowKit

theorem setBit_bit {T : List Nat} {p q m n : Nat} (hp : p < T.length) : ((setBit T q m).getD p 0).testBit n = true ↔ (T.getD p 0).testBit n = true ∨ (q = p ∧ m = n) := by
  unfold setBit
  by_cases e : q = p
  · subst e
    have h1 : (T.set q (T.getD q 0 ||| 2 ^ m)).getD q 0 = T.getD q 0 ||| 2 ^ m := by simp [List.getD_eq_getElem?_getD, hp]
    rw [h1, Nat.testBit_or, Bool.or_eq_true, Nat.testBit_two_pow, decide_eq_true_eq]
    simp
  · have h1 : (T.set q (T.getD q 0 ||| 2 ^ m)).getD p 0 = T.getD p 0 := by simp [List.getD_eq_getElem?_getD, List.getElem?_set_ne e]
    rw [h1]
    simp [e]
theorem tabWith_bit {p n : Nat} : ∀ (fs : List LFact) (T : List Nat), p < T.length → (((tabWith T fs).getD p 0).testBit n = true ↔ (T.getD p 0).testBit n = true ∨ ∃ f ∈ fs, f.1.toNat = p ∧ numF f.2 = n)
  | [], T, _ => by simp [tabWith]
  | f :: fs, T, hp => by
    have e : tabWith T (f :: fs) = tabWith (setBit T f.1.toNat (numF f.2)) fs := rfl
    rw [e, tabWith_bit fs _ (by simpa [setBit] using hp), setBit_bit hp]
    constructor
    · rintro ((h | h) | ⟨g, hg, h⟩)
      · exact .inl h
      · exact .inr ⟨f, List.mem_cons_self .., h⟩
      · exact .inr ⟨g, List.mem_cons_of_mem _ hg, h⟩
    · rintro (h | ⟨g, hg, h⟩)
      · exact .inl (.inl h)
      · rcases List.mem_cons.1 hg with rfl | hg
        · exact .inl (.inr h)
        · exact .inr ⟨g, hg, h⟩
theorem zero_bit {p n : Nat} : (zeroT.getD p 0).testBit n = false := by
  have : zeroT.getD p 0 = 0 := by
    by_cases hp : p < zeroT.length
    · rw [getD_at hp]
      exact (List.mem_replicate.1 (List.getElem_mem hp)).2
    · simp [List.getD_eq_getElem?_getD, List.getElem?_eq_none (by omega : zeroT.length ≤ p)]
  rw [this, Nat.zero_testBit]
theorem numF_inj {xs ys : List Int} (hx : xs.all constOk = true) (hy : ys.all constOk = true) (hl : xs.length = ys.length) (h2 : xs.length ≤ 2) (e : numF xs = numF ys) : xs = ys := by
  rcases xs with _ | ⟨x, _ | ⟨y, _ | ⟨z, xs⟩⟩⟩ <;> rcases ys with _ | ⟨x', _ | ⟨y', _ | ⟨z', ys⟩⟩⟩ <;> (try (simp at hl; done)) <;> (try (simp at h2; done))
  · rfl
  · simp only [List.all_cons, List.all_nil, Bool.and_true] at hx hy
    have := const_range hx
    have := const_range hy
    simp [numF] at e
    simp; omega
  · simp only [List.all_cons, List.all_nil, Bool.and_true, Bool.and_eq_true] at hx hy
    have := const_range hx.1
    have := const_range hx.2
    have := const_range hy.1
    have := const_range hy.2
    simp [numF] at e
    simp; omega
/-- A fact's bit tells the fact. -/
theorem fact_of_bit {ar : List Int} {f g : LFact} (ha : arityOk ar = true) (hf : factFits ar f = true) (hg : factFits ar g = true) (e1 : f.1.toNat = g.1.toNat) (e2 : numF f.2 = numF g.2) : f = g := by
  obtain ⟨⟨h0, _, hl⟩, hc⟩ := fits_parts hf
  obtain ⟨⟨h0', _, hl'⟩, hc'⟩ := fits_parts hg
  have e : f.1 = g.1 := by omega
  rw [← e] at hl'
  exact Prod.ext e (numF_inj hc hc' (by omega) (fits_short ha hf) e2)

end Go.Proofs.YtokmmloakahkhaaGreat
/-
  The numbers of the bits of a word: the words; the walks of TrailingZeros64, TrailingZeros, bitNumbers.
-/
namespace Go.Proofs.YtokmmloakahkhaaGreat
open Go.RowKit

/-- The numbers of the bits of x, ascending. -/
def bitsOf (x : Nat) : List Int := ((List.range 64).filter fun j => x.testBit j).map fun j : Nat => (j : Int)
theorem bitsOf_zero : bitsOf 0 = [] := by simp [bitsOf]
theorem bitsOf_length (x : Nat) : (bitsOf x).length ≤ 64 := by
  unfold bitsOf
  rw [List.length_map]
  exact Nat.le_trans (List.length_filter_le _ _) (by simp)

theorem testBit_odd {k m j : Nat} : (2 ^ k * (2 * m + 1)).testBit j = (decide (k ≤ j) && (2 * m + 1).testBit (j - k)) := by
  rw [Nat.mul_comm, Nat.testBit_mul_two_pow]
theorem testBit_even {k m j : Nat} : (2 ^ k * (2 * m)).testBit j = (decide (k ≤ j) && (2 * m).testBit (j - k)) := by
  rw [Nat.mul_comm, Nat.testBit_mul_two_pow]
theorem filter_step (k m : Nat) (hk : k < 64) : (List.range 64).filter (fun j => (2 ^ k * (2 * m + 1)).testBit j) = k :: (List.range 64).filter (fun j => (2 ^ k * (2 * m)).testBit j) := by
  obtain ⟨d, hd⟩ : ∃ d, 64 = k + (1 + d) := ⟨63 - k, by omega⟩
  rw [hd, List.range_add, List.filter_append, List.filter_append, List.range_add, List.map_append, List.filter_append, List.filter_append]
  have h1 : (List.range k).filter (fun j => (2 ^ k * (2 * m + 1)).testBit j) = [] := by
    rw [List.filter_eq_nil_iff]
    intro j hj
    have hj := List.mem_range.1 hj
    rw [testBit_odd]
    simp
    omega
  have h2 : (List.range k).filter (fun j => (2 ^ k * (2 * m)).testBit j) = [] := by
    rw [List.filter_eq_nil_iff]
    intro j hj
    have hj := List.mem_range.1 hj
    rw [testBit_even]
    simp
    omega
  have h3 : ((List.range 1).map (k + ·)).filter (fun j => (2 ^ k * (2 * m + 1)).testBit j) = [k] := by
    have : (2 ^ k * (2 * m + 1)).testBit k = true := by rw [testBit_odd]; simp [Nat.testBit_zero]
    simp [this]
  have h4 : ((List.range 1).map (k + ·)).filter (fun j => (2 ^ k * (2 * m)).testBit j) = [] := by
    have : (2 ^ k * (2 * m)).testBit k = false := by rw [testBit_even]; simp [Nat.testBit_zero]
    simp [this]
  rw [h1, h2, h3, h4, List.nil_append, List.nil_append, List.nil_append, List.singleton_append]
  congr 1
  apply List.filter_congr
  intro j hj
  simp only [List.mem_map, List.mem_range] at hj
  obtain ⟨a, ⟨b, hb, rfl⟩, rfl⟩ := hj
  rw [testBit_odd, testBit_even]
  have e : k + (1 + b) - k = b + 1 := by omega
  rw [e, Nat.testBit_succ, Nat.testBit_succ]
  congr 2
  omega
/-- The lowest bit, and the others. -/
theorem bitsOf_step {x : Nat} (h0 : x ≠ 0) (hx : x < 2 ^ 64) : bitsOf x = (Lib.ctz 64 x : Int) :: bitsOf (x &&& (x - 1)) ∧ x &&& (x - 1) < x := by
  obtain ⟨m, hm, hk⟩ := Lib.ctzFrom_spec 64 x (by omega) hx
  have hc : Lib.ctz 64 x = Lib.ctzFrom 64 x := by unfold Lib.ctz; rw [if_neg h0]
  rw [hc]
  generalize Lib.ctzFrom 64 x = k at hm hk
  have hp : 0 < 2 ^ k := Nat.two_pow_pos k
  have hand : x &&& (x - 1) = 2 ^ k * (2 * m) := by
    apply Nat.eq_of_testBit_eq
    intro j
    rw [Nat.testBit_and]
    have e1 : x - 1 = 2 ^ k * (2 * m) + (2 ^ k - 1) := by
      rw [hm, Nat.mul_add, Nat.mul_one]
      omega
    rw [e1, Nat.testBit_two_pow_mul_add _ (by omega), testBit_even, hm, testBit_odd]
    by_cases hj : j < k
    · have hkj : decide (k ≤ j) = false := by simp; omega
      rw [hkj]
      simp
    · rw [if_neg hj]
      have : k ≤ j := by omega
      simp only [this, decide_true, Bool.true_and]
      by_cases e : j = k
      · subst e
        simp [Nat.testBit_zero]
      · obtain ⟨i, rfl⟩ : ∃ i, j = k + (i + 1) := ⟨j - k - 1, by omega⟩
        have e3 : k + (i + 1) - k = i + 1 := by omega
        rw [e3, Nat.testBit_succ, Nat.testBit_succ]
        have d1 : (2 * m + 1) / 2 = m := by omega
        have d2 : 2 * m / 2 = m := by omega
        rw [d1, d2, Bool.and_self]
  refine ⟨?_, ?_⟩
  · rw [hand, hm]
    unfold bitsOf
    rw [filter_step k m hk]
    simp
  · rw [hand, hm, Nat.mul_add, Nat.mul_one]
    omega

end Go.Proofs.YtokmmloakahkhaaGreat
/-
  The walk of the program's constantDigits, and AllFacts' plain mathematics.
-/
namespace Go.Proofs.YtokmmloakahkhaaGreat
open Go.RowKit

/-- The digits of n in base six, so many places. -/
def digits (n p : Nat) : List Int := (List.range p).map fun j : Nat => ((n / 6 ^ (p - 1 - j) % 6 : Nat) : Int)
theorem digits_length (n p : Nat) : (digits n p).length = p := by simp [digits]
theorem div_pow (n k : Nat) : n / 6 ^ k / 6 = n / 6 ^ (k + 1) := by rw [Nat.div_div_eq_div_mul, Nat.pow_succ]
def digitCell (n p m j : Nat) : Value := if m ≤ j then .int .i64 ((n / 6 ^ (p - 1 - j) % 6 : Nat) : Int) else .int .i64 0

theorem pow6 : (6 : Nat) ^ 0 = 1 ∧ (6 : Nat) ^ 1 = 6 ∧ (6 : Nat) ^ 2 = 36 := by decide
/-- All facts of a predicate with so many places. -/
def allOk (p q : Int) : Bool := decide (0 ≤ p ∧ p ≤ 23) && decide (0 ≤ q ∧ q ≤ 2)
def allTo (p : Int) (q : Nat) (m : Nat) : List LFact := (List.range m).map fun i => (p, digits i q)
def allFacts (p q : Int) : List LFact := if allOk p q then allTo p q.toNat (6 ^ q.toNat) else []
theorem allTo_length (p : Int) (q m : Nat) : (allTo p q m).length = m := by simp [allTo]
theorem allTo_snoc (p : Int) (q m : Nat) : allTo p q (m + 1) = allTo p q m ++ [(p, digits m q)] := by simp [allTo, List.range_succ]
theorem allTo_tot (p : Int) (q : Nat) : ∀ m, tot (allTo p q m) = m * q
  | 0 => by simp [allTo, tot]
  | m + 1 => by rw [allTo_snoc, tot_append, allTo_tot p q m, tot_cons]; simp [tot, digits_length, Nat.add_mul]

end Go.Proofs.YtokmmloakahkhaaGreat
/-
  The facts of a table, ascending: plain mathematics.
-/
namespace Go.Proofs.YtokmmloakahkhaaGreat
open Go.RowKit

/-- The facts of a table's word; the facts of a table. -/
def wordFacts (p x q : Nat) : List LFact := (bitsOf x).map fun j => ((p : Int), digits j.toNat q)
def tabFacts (T : List Nat) (ar : List Int) : List LFact := (List.range ar.length).flatMap fun p => wordFacts p (T.getD p 0) (ar.getD p 0).toNat

theorem bitsOf_mem {x : Nat} {i : Int} : i ∈ bitsOf x ↔ ∃ j : Nat, j < 64 ∧ x.testBit j = true ∧ (j : Int) = i := by
  unfold bitsOf
  rw [List.mem_map]
  constructor
  · rintro ⟨j, hj, e⟩
    rw [List.mem_filter, List.mem_range] at hj
    exact ⟨j, hj.1, hj.2, e⟩
  · rintro ⟨j, h1, h2, e⟩
    exact ⟨j, List.mem_filter.2 ⟨List.mem_range.2 h1, h2⟩, e⟩
theorem bitsOf_up (x : Nat) : (bitsOf x).Pairwise (· < ·) := by
  unfold bitsOf
  rw [List.pairwise_map]
  exact (List.pairwise_lt_range.filter _).imp fun h => by omega
theorem digits_numF {xs : List Int} (hc : xs.all constOk = true) (hl : xs.length ≤ 2) : digits (numF xs) xs.length = xs := by
  rcases xs with _ | ⟨x, _ | ⟨y, _ | ⟨z, xs⟩⟩⟩
  · rfl
  · simp only [List.all_cons, List.all_nil, Bool.and_true] at hc
    have := const_range hc
    simp [digits, numF, List.range_succ]
    omega
  · simp only [List.all_cons, List.all_nil, Bool.and_true, Bool.and_eq_true] at hc
    have := const_range hc.1
    have := const_range hc.2
    simp [digits, numF, List.range_succ]
    omega
  · simp at hl
theorem digits_up1 : ∀ i j : Fin 6, i < j → cmpL (digits i 1) (digits j 1) < 0 := by decide +kernel
theorem digits_up2 : ∀ i j : Fin 36, i < j → cmpL (digits i 2) (digits j 2) < 0 := by decide +kernel
theorem digits_up {i j q : Nat} (hq : q ≤ 2) (hj : j < 6 ^ q) (h : i < j) : cmpL (digits i q) (digits j q) < 0 := by
  match q, hq with
  | 0, _ => simp at hj; omega
  | 1, _ => exact digits_up1 ⟨i, by omega⟩ ⟨j, by omega⟩ h
  | 2, _ => exact digits_up2 ⟨i, by omega⟩ ⟨j, by omega⟩ h
theorem tabFacts_mem {T : List Nat} {ar : List Int} {f : LFact} : f ∈ tabFacts T ar ↔ ∃ p j : Nat, p < ar.length ∧ j < 64 ∧ (T.getD p 0).testBit j = true ∧ f = ((p : Int), digits j (ar.getD p 0).toNat) := by
  unfold tabFacts wordFacts
  simp only [List.mem_flatMap, List.mem_map, List.mem_range, bitsOf_mem]
  constructor
  · rintro ⟨p, hp, i, ⟨j, h1, h2, rfl⟩, rfl⟩
    exact ⟨p, j, hp, h1, h2, rfl⟩
  · rintro ⟨p, j, hp, h1, h2, rfl⟩
    exact ⟨p, hp, (j : Int), ⟨j, h1, h2, rfl⟩, rfl⟩
theorem tabFacts_asc {T : List Nat} {ar : List Int} (ha : arityOk ar = true) (hb : ∀ p j : Nat, p < ar.length → (T.getD p 0).testBit j = true → j < 6 ^ (ar.getD p 0).toNat) : Asc (tabFacts T ar) := by
  unfold Asc tabFacts
  rw [List.pairwise_flatMap]
  have hq : ∀ p, p < ar.length → (ar.getD p 0).toNat ≤ 2 := fun p hp => by
    have h1 := ha
    simp only [arityOk, Bool.and_eq_true, decide_eq_true_eq, List.all_eq_true] at h1
    have h2 : placeOk ar[p] = true := h1.2 _ (List.getElem_mem hp)
    rw [getD_at hp]
    simp [placeOk] at h2
    omega
  refine ⟨fun p hp => ?_, ?_⟩
  · rw [List.mem_range] at hp
    unfold wordFacts
    rw [List.pairwise_map]
    refine List.Pairwise.imp_of_mem (fun {a b} ha hb' hab => ?_) (bitsOf_up _)
    obtain ⟨i, _, _, rfl⟩ := bitsOf_mem.1 ha
    obtain ⟨j, _, h2, rfl⟩ := bitsOf_mem.1 hb'
    simp only [factOrder, if_true, Int.toNat_natCast]
    exact digits_up (hq p hp) (hb p j hp h2) (by omega)
  · refine List.pairwise_lt_range.imp fun {p p'} hpp x hx y hy => ?_
    unfold wordFacts at hx hy
    obtain ⟨_, _, rfl⟩ := List.mem_map.1 hx
    obtain ⟨_, _, rfl⟩ := List.mem_map.1 hy
    have h1 : ¬ ((p : Int) = (p' : Int)) := by omega
    have h2 : ((p : Int) < (p' : Int)) := by omega
    simp [factOrder, h1, cmpI, h2]

/-- A table of facts has just these. -/
theorem tabFacts_with {ar : List Int} (ha : arityOk ar = true) {F : List LFact} (hF : ∀ f ∈ F, factFits ar f = true) : Asc (tabFacts (tabWith zeroT F) ar) ∧ ∀ f, f ∈ tabFacts (tabWith zeroT F) ar ↔ f ∈ F := by
  have hl : ar.length ≤ 24 := by simp only [arityOk, Bool.and_eq_true, decide_eq_true_eq] at ha; exact ha.1
  have hz : ∀ p : Nat, p < ar.length → p < zeroT.length := fun p hp => by simp [zeroT]; omega
  have hbit : ∀ p j : Nat, p < ar.length → (((tabWith zeroT F).getD p 0).testBit j = true ↔ ∃ f ∈ F, f.1.toNat = p ∧ numF f.2 = j) := fun p j hp => by
    simp only [tabWith_bit _ _ (hz p hp), zero_bit, Bool.false_eq_true, false_or]
  have hone : ∀ f ∈ F, f.1 = ((f.1.toNat : Nat) : Int) ∧ f.1.toNat < ar.length ∧ f.2.length = (ar.getD f.1.toNat 0).toNat ∧ digits (numF f.2) (ar.getD f.1.toNat 0).toNat = f.2 ∧ numF f.2 < 6 ^ (ar.getD f.1.toNat 0).toNat := fun f hf => by
    obtain ⟨⟨h0, h1, h2⟩, h3⟩ := fits_parts (hF f hf)
    have h4 := fits_short ha (hF f hf)
    have h5 : f.2.length = (ar.getD f.1.toNat 0).toNat := by omega
    refine ⟨by omega, by omega, h5, ?_, ?_⟩
    · rw [← h5]
      exact digits_numF h3 h4
    · rw [← h5]
      have := numF_lt h3 f.2.length (Nat.le_refl _)
      rwa [List.take_length] at this
  refine ⟨tabFacts_asc ha fun p j hp h => ?_, fun f => ?_⟩
  · obtain ⟨f, hf, rfl, rfl⟩ := (hbit p j hp).1 h
    exact (hone f hf).2.2.2.2
  · rw [tabFacts_mem]
    constructor
    · rintro ⟨p, j, hp, _, h, rfl⟩
      obtain ⟨g, hg, rfl, rfl⟩ := (hbit p j hp).1 h
      obtain ⟨e1, _, _, e2, _⟩ := hone g hg
      rw [e2, ← e1]
      exact hg
    · intro hf
      obtain ⟨e1, e2, _, e3, e4⟩ := hone f hf
      exact ⟨f.1.toNat, numF f.2, e2, numF_64 (fits_parts (hF f hf)).2 (fits_short ha (hF f hf)), (hbit _ _ e2).2 ⟨f, hf, rfl, rfl⟩, by rw [e3, ← e1]⟩

end Go.Proofs.YtokmmloakahkhaaGreat
/-
  The walks of both VarsOf.
-/
namespace Go.Proofs.YtokmmloakahkhaaGreat
open Go.RowKit

def varsOf (r : LRule) : List Int := bitsOf (ruleMask r)
/-- The marks below k. -/
def marksTo (m k : Nat) : List Int := ((List.range k).filter fun j => m.testBit j).map fun j : Nat => (j : Int)
theorem marksTo_yes {m k : Nat} (h : m.testBit k = true) : marksTo m (k + 1) = marksTo m k ++ [(k : Int)] := by
  unfold marksTo
  rw [List.range_succ, List.filter_append, List.map_append]
  simp [h]
theorem marksTo_no {m k : Nat} (h : m.testBit k = false) : marksTo m (k + 1) = marksTo m k := by
  unfold marksTo
  rw [List.range_succ, List.filter_append, List.map_append]
  simp [h]
theorem marksTo_length (m k : Nat) : (marksTo m k).length ≤ k := by
  unfold marksTo
  rw [List.length_map]
  exact Nat.le_trans (List.length_filter_le _ _) (by simp)
theorem marks_bits (k : Nat) (hk : k ≤ 64) {m : Nat} (hm : m < 2 ^ k) : marksTo m k = bitsOf m := by
  unfold marksTo bitsOf
  obtain ⟨d, hd⟩ : ∃ d, 64 = k + d := ⟨64 - k, by omega⟩
  rw [hd, List.range_add, List.filter_append, List.map_append]
  have : ((List.range d).map (k + ·)).filter (fun j => m.testBit j) = [] := by
    rw [List.filter_eq_nil_iff]
    intro j hj
    simp only [List.mem_map, List.mem_range] at hj
    obtain ⟨a, ha, rfl⟩ := hj
    have : m.testBit (k + a) = false := Nat.testBit_lt_two_pow (Nat.lt_of_lt_of_le hm (Nat.pow_le_pow_right (by omega) (by omega)))
    simp [this]
  rw [this]
  simp

set_option maxHeartbeats 1000000 in
set_option maxRecDepth 100000 in
theorem specVarsOf_any (v : Value) (r : LRule) (w : World) (h : RdRule w w.heap.size v r) (hr : szR r ≤ 1048576) :
    Calls Tryz.prog 98 #[v] w fun e w' => ∃ A' c', e = .returned (.slice A' (varsOf r).length c') ∧ OwnInts w' w.heap.size w'.heap.size (.slice A' (varsOf r).length c') (varsOf r) ∧ Below w.heap.size w w' := by
  obtain ⟨i0, hi0, hz0, hz1, hz2⟩ := info_parts Tryz.infoInt
  have hm := ruleMask_lt r
  have HE := Lib.hid (marks_bits 4 (by omega) hm)
  have H := Lib.hid h
  obtain ⟨a, b, rfl, h, h2⟩ := h
  obtain ⟨A, c, rfl, hc, _⟩ := h
  obtain ⟨A2, c2, rfl, hcc, _⟩ := h2
  go_enter Tryz.func98, Tryz.ntmps98
  go_wp2_with (fail)
  refine (l2Marks_any _ r _ (H.out.on (below1 _ _)) hr).mono ?_
  rintro e w1 ⟨g, rfl, m1, hg, hb1⟩
  have B1 := bthen (below1 _ _) hb1
  clear hb1
  go_wp2_with (fail)
  have hgl := m1.lt
  go_loopw [4, 5] (fun o i wr => ∃ (k : Nat) (A' : Option Addr) (c' : Nat), k ≤ 4 ∧ i = .int .i64 k ∧ o = .slice A' (marksTo (ruleMask r) k).length c' ∧ ColI w1 wr (marksTo (ruleMask r) k) A' c') (fun _ i _ => 4 - (intOf i).toNat)
  case atStart => exact ⟨0, _, 0, Nat.zero_le _, rfl, rfl, ColI.empty (Below.refl _ _)⟩
  case round =>
    obtain ⟨k, A', c', hk, rfl, rfl, hr2⟩ := hrel
    have hln := marksTo_length (ruleMask r) k
    by_cases hlt : k < 4
    · have hck := (m1.below hr2.below hgl).cell hlt
      cases he : (ruleMask r).testBit k
      · rw [he] at hck
        have HS := Lib.hid (marksTo_no he)
        have HP := Lib.hid hr2
        clear he hr2
        go_wp2_with (fail)
        go_roundw
        case rel => exact ⟨k + 1, _, _, by omega, by go_num, by rw [HS.out], by rw [HS.out]; exact HP.out⟩
        case measure => simp [intOf]; omega
      · rw [he] at hck
        have HS := Lib.hid (marksTo_yes he)
        have HP := Lib.hid hr2
        clear he hr2
        go_wp2_with (at_builtin; refine wpList_append_lies _ rfl (.tmp 19) (.tmp 21) 31 rfl w1.heap.size 3 i0 (.int .i64 0) 1 8 Tryz.underlying31 hi0 hz0 hz1 hz2 rfl (by decide) (.slice A' (marksTo (ruleMask r) k).length c') (marksTo (ruleMask r) k).length ((marksTo (ruleMask r) k).map (Value.int .i64)) rfl ?c1 ⟨_, 0, none⟩ 1 1 [.int .i64 k] rfl rfl (news1s _ _ _ _ (by simp)) ?c2 (by omega) (by unfold maxLen; omega) (by omega) ?c3 _ rfl ?_)
        case c1 => exact HP.out.own.1.alloc _
        case c2 => intro u hu; simp at hu; subst hu; rfl
        case c3 => have := HP.out.below.size; simp; omega
        intro g2 cap w4 hown hg2 _ _
        have hcol := HP.out.push (Below.refl _ _) hg2 hown
        rw [← HS.out] at hcol
        have hlen : (marksTo (ruleMask r) k).length + 1 = (marksTo (ruleMask r) (k + 1)).length := by rw [HS.out]; simp
        rw [hlen]
        have HC := Lib.hid hcol
        clear hcol hlen hown hg2
        go_wp2_with (fail)
        go_roundw
        case rel => exact ⟨k + 1, _, _, by omega, by go_num, rfl, HC.out⟩
        case measure => simp [intOf]; omega
    · have HO := Lib.hid (show OwnInts wr w1.heap.size wr.heap.size (.slice A' (varsOf r).length c') (varsOf r) ∧ marksTo (ruleMask r) k = varsOf r by
        have := hr2.own
        rw [show k = 4 by omega, HE.out] at this ⊢
        exact ⟨this, rfl⟩)
      have hbe := bthen B1 hr2.below
      have hsz := B1.size
      rw [HO.out.2]
      clear hr2
      go_wp2_with (fail)
      go_ret
      exact ⟨_, _, rfl, HO.out.1.mono hsz (Nat.le_refl _), hbe⟩

end Go.Proofs.YtokmmloakahkhaaGreat
/-
  All that the variables of a body may have, one behind the other, and those for which it holds. Plain mathematics.
-/
namespace Go.Proofs.YtokmmloakahkhaaGreat
open Go.RowKit

/-- What a variable may have besides. -/
def nextV (v : Int) (B : List (List Int)) : List (List Int) := B.flatMap fun b => (List.range 6).map fun c : Nat => b.set v.toNat (c : Int)
/-- .. the first so many rows, and of the next one the first so many constants. -/
def nextVTo (v : Int) (B : List (List Int)) (k j : Nat) : List (List Int) := nextV v (B.take k) ++ (List.range j).map fun c : Nat => (B.getD k []).set v.toNat (c : Int)
theorem nextVTo_start (v : Int) (B : List (List Int)) : nextVTo v B 0 0 = [] := by simp [nextVTo, nextV]
theorem nextVTo_step (v : Int) (B : List (List Int)) (k j : Nat) : nextVTo v B k (j + 1) = nextVTo v B k j ++ [(B.getD k []).set v.toNat (j : Int)] := by
  unfold nextVTo
  rw [List.range_succ, List.map_append, List.append_assoc]
  rfl
theorem nextVTo_row {v : Int} {B : List (List Int)} {k : Nat} (hk : k < B.length) : nextVTo v B k 6 = nextVTo v B (k + 1) 0 := by
  unfold nextVTo nextV
  rw [take_snoc B k hk, List.flatMap_append]
  have : B.getD k [] = B[k] := by simp [hk]
  rw [this]
  simp
theorem nextVTo_end (v : Int) (B : List (List Int)) : nextVTo v B B.length 0 = nextV v B := by simp [nextVTo]
theorem nextV_len (v : Int) (B : List (List Int)) : (nextV v B).length = B.length * 6 := by
  unfold nextV
  induction B with
  | nil => simp
  | cons b B ih => rw [List.flatMap_cons, List.length_append, ih]; simp; omega
theorem nextVTo_len {v : Int} {B : List (List Int)} {k j : Nat} (hk : k ≤ B.length) : (nextVTo v B k j).length = k * 6 + j := by
  unfold nextVTo
  rw [List.length_append, nextV_len]
  simp
  omega
/-- All variables, one behind the other. -/
def allV : List Int → List (List Int) → List (List Int)
  | [], B => B
  | v :: vs, B => allV vs (nextV v B)
theorem allV_len : ∀ (vs : List Int) (B : List (List Int)), (allV vs B).length = B.length * 6 ^ vs.length
  | [], B => by simp [allV]
  | v :: vs, B => by
    rw [allV, allV_len vs, nextV_len, List.length_cons, Nat.pow_succ, Nat.mul_assoc, Nat.mul_comm 6]

theorem set4 {b : List Int} (h : b.length = 4) {v : Nat} {c : Int} (j : Nat) (hv : v < 4) : (b.set v c).getD j (-1) = if j = v then c else b.getD j (-1) := by
  simp only [List.getD_eq_getElem?_getD, List.getElem?_set]
  by_cases e : v = j
  · subst e; simp [h, hv]
  · rw [if_neg e, if_neg (fun h => e h.symm)]
theorem set_less {b : List Int} (h : b.length = 4) {v : Nat} (hv : v < 4) {c d : Int} (hcd : c < d) : cmpL (b.set v c) (b.set v d) < 0 := by
  obtain ⟨x, y, z, t, rfl⟩ := list4 h
  have hne : ¬ c = d := by omega
  have hc := cmpI_neg.2 hcd
  rcases (by omega : v = 0 ∨ v = 1 ∨ v = 2 ∨ v = 3) with rfl | rfl | rfl | rfl <;> simp [cmpL, hne, hc]
theorem set_more {a b : List Int} (h : a.length = 4) (h2 : b.length = 4) {v : Nat} (hv : v < 4) (ha : ∀ j, v ≤ j → j < 4 → a.getD j (-1) = -1) (hb : ∀ j, v ≤ j → j < 4 → b.getD j (-1) = -1) (hab : cmpL a b < 0) (c d : Int) : cmpL (a.set v c) (b.set v d) < 0 := by
  obtain ⟨x, y, z, t, rfl⟩ := list4 h
  obtain ⟨x', y', z', t', rfl⟩ := list4 h2
  have a0 := ha 0
  have a1 := ha 1
  have a2 := ha 2
  have a3 := ha 3
  have b0 := hb 0
  have b1 := hb 1
  have b2 := hb 2
  have b3 := hb 3
  simp only [List.getD_cons_zero, List.getD_cons_succ] at a0 a1 a2 a3 b0 b1 b2 b3
  rcases (by omega : v = 0 ∨ v = 1 ∨ v = 2 ∨ v = 3) with rfl | rfl | rfl | rfl
  · have e0 := (a0 (by omega) (by omega)).trans (b0 (by omega) (by omega)).symm
    have e1 := (a1 (by omega) (by omega)).trans (b1 (by omega) (by omega)).symm
    have e2 := (a2 (by omega) (by omega)).trans (b2 (by omega) (by omega)).symm
    have e3 := (a3 (by omega) (by omega)).trans (b3 (by omega) (by omega)).symm
    subst e0 e1 e2 e3
    simp [cmpL] at hab
  · have e1 := (a1 (by omega) (by omega)).trans (b1 (by omega) (by omega)).symm
    have e2 := (a2 (by omega) (by omega)).trans (b2 (by omega) (by omega)).symm
    have e3 := (a3 (by omega) (by omega)).trans (b3 (by omega) (by omega)).symm
    subst e1 e2 e3
    by_cases e : x = x'
    · subst e; simp [cmpL] at hab
    · simpa [cmpL, e] using hab
  · have e2 := (a2 (by omega) (by omega)).trans (b2 (by omega) (by omega)).symm
    have e3 := (a3 (by omega) (by omega)).trans (b3 (by omega) (by omega)).symm
    subst e2 e3
    by_cases e : x = x'
    · subst e
      by_cases e : y = y'
      · subst e; simp [cmpL] at hab
      · simpa [cmpL, e] using hab
    · simpa [cmpL, e] using hab
  · have e3 := (a3 (by omega) (by omega)).trans (b3 (by omega) (by omega)).symm
    subst e3
    by_cases e : x = x'
    · subst e
      by_cases e : y = y'
      · subst e
        by_cases e : z = z'
        · subst e; simp [cmpL] at hab
        · simpa [cmpL, e] using hab
      · simpa [cmpL, e] using hab
    · simpa [cmpL, e] using hab
/-- Rows in which just some variables have something, in order. -/
structure RowsV (vs : List Int) (B : List (List Int)) : Prop where
  up : UpB B
  mem : ∀ b, b ∈ B ↔ bindOk b = true ∧ ∀ j : Nat, j < 4 → (b.getD j (-1) ≠ -1 ↔ (j : Int) ∈ vs)
theorem RowsV.start : RowsV [] [noneB] := by
  refine ⟨List.pairwise_singleton _ _, fun b => ?_⟩
  rw [List.mem_singleton]
  constructor
  · rintro rfl
    refine ⟨noneB_ok, fun j hj => ?_⟩
    rcases (by omega : j = 0 ∨ j = 1 ∨ j = 2 ∨ j = 3) with rfl | rfl | rfl | rfl <;> simp [noneB]
  · rintro ⟨h1, h2⟩
    obtain ⟨x, y, z, t, rfl⟩ := list4 (bindOk_len h1)
    have a0 := h2 0 (by omega)
    have a1 := h2 1 (by omega)
    have a2 := h2 2 (by omega)
    have a3 := h2 3 (by omega)
    simp at a0 a1 a2 a3
    subst a0 a1 a2 a3
    rfl
theorem pairwise_flatMap' {α β : Type} {f : α → List β} {R : β → β → Prop} : ∀ {l : List α}, (∀ x ∈ l, (f x).Pairwise R) → l.Pairwise (fun x y => ∀ a ∈ f x, ∀ b ∈ f y, R a b) → (l.flatMap f).Pairwise R
  | [], _, _ => by simp
  | x :: l, h1, h2 => by
    rw [List.flatMap_cons, List.pairwise_append]
    rw [List.pairwise_cons] at h2
    refine ⟨h1 x List.mem_cons_self, pairwise_flatMap' (fun y hy => h1 y (List.mem_cons_of_mem _ hy)) h2.2, fun a ha b hb => ?_⟩
    obtain ⟨y, hy, hb⟩ := List.mem_flatMap.1 hb
    exact h2.1 y hy a ha b hb
theorem RowsV.next {vs : List Int} {B : List (List Int)} (h : RowsV vs B) {v : Nat} (hv : v < 4) (hlt : ∀ x ∈ vs, x < (v : Int)) : RowsV (vs ++ [(v : Int)]) (nextV (v : Int) B) := by
  have hlen : ∀ b ∈ B, b.length = 4 := fun b hb => bindOk_len ((h.mem b).1 hb).1
  have hfree : ∀ b ∈ B, ∀ j, v ≤ j → j < 4 → b.getD j (-1) = -1 := fun b hb j h1 h2 => by
    apply Classical.byContradiction
    intro hne
    have := hlt _ ((((h.mem b).1 hb).2 j h2).1 hne)
    omega
  refine ⟨?_, fun b => ?_⟩
  · unfold nextV
    rw [Int.toNat_natCast]
    refine pairwise_flatMap' (fun b hb => ?_) (List.Pairwise.imp_of_mem (fun {x y} hx hy hxy => ?_) h.up)
    · rw [List.pairwise_map]
      exact List.pairwise_lt_range.imp fun h1 => set_less (hlen b hb) hv (by omega)
    · intro a ha b hb
      obtain ⟨c, _, rfl⟩ := List.mem_map.1 ha
      obtain ⟨d, _, rfl⟩ := List.mem_map.1 hb
      exact set_more (hlen x hx) (hlen y hy) hv (hfree x hx) (hfree y hy) hxy _ _
  · unfold nextV
    rw [Int.toNat_natCast, List.mem_flatMap]
    constructor
    · rintro ⟨b0, hb0, hm⟩
      obtain ⟨c, hc, rfl⟩ := List.mem_map.1 hm
      have hc6 := List.mem_range.1 hc
      obtain ⟨h1, h2⟩ := (h.mem b0).1 hb0
      refine ⟨?_, fun j hj => ?_⟩
      · unfold bindOk
        rw [Bool.and_eq_true]
        refine ⟨by simp [hlen b0 hb0], List.all_eq_true.2 fun x hx => ?_⟩
        rcases List.mem_or_eq_of_mem_set hx with hx | rfl
        · exact List.all_eq_true.1 (bindOk_all h1) x hx
        · unfold hasB
          exact decide_eq_true (by omega)
      · rw [set4 (hlen b0 hb0) j hv, List.mem_append, List.mem_singleton]
        by_cases e : j = v
        · rw [if_pos e]
          constructor
          · intro _; right; omega
          · intro _; omega
        · rw [if_neg e, h2 j hj]
          constructor
          · exact .inl
          · rintro (h3 | h3)
            · exact h3
            · omega
    · rintro ⟨h1, h2⟩
      have hl := bindOk_len h1
      have hvc : b.getD v (-1) ≠ -1 := (h2 v hv).2 (by simp)
      have hvr := bindOk_at h1 (k := v) (by omega)
      have hvg : b.getD v (-1) = b[v] := by simp [hl, hv]
      rw [hvg] at hvc
      refine ⟨b.set v (-1), (h.mem _).2 ⟨?_, fun j hj => ?_⟩, List.mem_map.2 ⟨b[v].toNat, List.mem_range.2 (by omega), ?_⟩⟩
      · unfold bindOk
        rw [Bool.and_eq_true]
        refine ⟨by simp [hl], List.all_eq_true.2 fun x hx => ?_⟩
        rcases List.mem_or_eq_of_mem_set hx with hx | rfl
        · exact List.all_eq_true.1 (bindOk_all h1) x hx
        · decide
      · rw [set4 hl j hv]
        by_cases e : j = v
        · rw [if_pos e]
          constructor
          · intro h3; exact absurd rfl h3
          · intro h3; have := hlt _ h3; omega
        · rw [if_neg e, h2 j hj, List.mem_append, List.mem_singleton]
          constructor
          · rintro (h3 | h3)
            · exact h3
            · omega
          · exact .inl
      · rw [List.set_set]
        have : ((b[v].toNat : Nat) : Int) = b[v] := by omega
        rw [this]
        exact List.set_getElem_self _
theorem allV_rows : ∀ (vs vs0 : List Int) (B : List (List Int)), RowsV vs0 B → (vs0 ++ vs).Pairwise (· < ·) → (∀ v ∈ vs, 0 ≤ v ∧ v < 4) → RowsV (vs0 ++ vs) (allV vs B)
  | [], vs0, B, h, _, _ => by simpa [allV] using h
  | v :: vs, vs0, B, h, hp, hv => by
    obtain ⟨h0, h4⟩ := hv v List.mem_cons_self
    obtain ⟨n, rfl⟩ : ∃ n : Nat, v = (n : Int) := ⟨v.toNat, by omega⟩
    have h1 := h.next (v := n) (by omega) fun x hx => (List.pairwise_append.1 hp).2.2 x hx _ List.mem_cons_self
    have e : vs0 ++ (n : Int) :: vs = (vs0 ++ [(n : Int)]) ++ vs := by simp
    rw [e]
    exact allV_rows vs (vs0 ++ [(n : Int)]) _ h1 (e ▸ hp) fun x hx => hv x (List.mem_cons_of_mem _ hx)
/-- What Tried tells: the rows of all for which the body holds. -/
def triedL (fs : List LFact) (ls : List LLit) : List (List Int) := (allV (varsOf ((0, []), ls)) [noneB]).filter fun b => ls.all fun l => litHolds fs l b
theorem vars_of_body (ls : List LLit) : (varsOf ((0, []), ls)).Pairwise (· < ·) ∧ (∀ v ∈ varsOf ((0, []), ls), 0 ≤ v ∧ v < 4) ∧ (varsOf ((0, []), ls)).length ≤ 4 ∧ ∀ j : Nat, j < 4 → ((j : Int) ∈ varsOf ((0, []), ls) ↔ ∃ l ∈ ls, (maskOf l.2.2).testBit j = true) := by
  have hm := ruleMask_lt ((0, []), ls)
  have hb : ∀ j, (ruleMask ((0, []), ls)).testBit j = true → j < 4 := fun j hb => by
    apply Classical.byContradiction
    intro hj
    have : (ruleMask ((0, []), ls)).testBit j = false := Nat.testBit_lt_two_pow (Nat.lt_of_lt_of_le hm (Nat.pow_le_pow_right (n := 2) (i := 4) (by decide) (by omega)))
    rw [this] at hb; cases hb
  have hup : (varsOf ((0, []), ls)).Pairwise (· < ·) := bitsOf_up _
  have hr : ∀ v ∈ varsOf ((0, []), ls), 0 ≤ v ∧ v < 4 := fun v hv => by
    obtain ⟨j, _, h2, rfl⟩ := bitsOf_mem.1 hv
    have := hb j h2
    omega
  refine ⟨hup, hr, ?_, fun j hj => ?_⟩
  · have : ∀ m : Fin 16, (bitsOf m.val).length ≤ 4 := by decide +kernel
    exact this ⟨_, hm⟩
  · unfold varsOf
    rw [bitsOf_mem, ruleMask_body]
    constructor
    · rintro ⟨j', _, h2, e⟩
      obtain rfl : j' = j := by omega
      rcases (bodyMask_bit ls 0).1 h2 with h3 | h3
      · simp at h3
      · exact h3
    · intro h3
      exact ⟨j, by omega, (bodyMask_bit ls 0).2 (.inr h3), rfl⟩
theorem tried_same {fs : List LFact} {ls : List LLit} (h : bodySafe ls = true) (hc : constsL fs = true) : triedL fs ls = solsL fs ls := by
  obtain ⟨h1, h2, _, h4⟩ := vars_of_body ls
  have hR := allV_rows (varsOf ((0, []), ls)) [] [noneB] RowsV.start (by simpa using h1) h2
  rw [List.nil_append] at hR
  refine solsL_is h hc (List.Pairwise.filter _ hR.up) ⟨UpB.nodup (List.Pairwise.filter _ hR.up), fun b => ?_⟩
  unfold triedL
  rw [List.mem_filter, hR.mem]
  constructor
  · rintro ⟨⟨k1, k2⟩, k3⟩
    refine ⟨k1, fun v hv => ?_, fun q hq => ?_⟩
    · rw [k2 v hv, h4 v hv]
      constructor
      · rintro ⟨l, hl, hb⟩
        exact ⟨(l, fs), List.mem_map.2 ⟨l, hl, rfl⟩, hb⟩
      · rintro ⟨q, hq, hb⟩
        obtain ⟨l, hl, rfl⟩ := List.mem_map.1 hq
        exact ⟨l, hl, hb⟩
    · obtain ⟨l, hl, rfl⟩ := List.mem_map.1 hq
      exact List.all_eq_true.1 k3 l hl
  · rintro ⟨k1, k2, k3⟩
    refine ⟨⟨k1, fun v hv => ?_⟩, List.all_eq_true.2 fun l hl => k3 (l, fs) (List.mem_map.2 ⟨l, hl, rfl⟩)⟩
    rw [k2 v hv, h4 v hv]
    constructor
    · rintro ⟨q, hq, hb⟩
      obtain ⟨l, hl, rfl⟩ := List.mem_map.1 hq
      exact ⟨l, hl, hb⟩
    · rintro ⟨l, hl, hb⟩
      exact ⟨(l, fs), List.mem_map.2 ⟨l, hl, rfl⟩, hb⟩

end Go.Proofs.YtokmmloakahkhaaGreat
