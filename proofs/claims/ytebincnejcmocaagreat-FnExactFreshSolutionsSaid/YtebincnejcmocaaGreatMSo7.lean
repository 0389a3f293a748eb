/-
  The law FnExactSolutions: for every input the call returns true, and each argument reads behind it as it read before. Conditions: none but the row's own.
-/
import Derived.Deep.RegionHeld3
import Derived.Deep.DeepCutAuto
import Derived.Deep.RegionWith
import Derived.Test.YtebincnejcmocaaGreatChecked
import Derived.ProofKit
import Derived.OpenShut
import Derived.ChangeOld
import Derived.WalkKit
import Derived.Deep.Slices
import Derived.Deep.Fields
import Derived.ChangeSame
import Derived.Lib.SmallJoins
import Derived.KernelRfl
import Derived.Deep.SlicePairs
import Derived.Test.YtebincnejcmocaaGreatRows
import Derived.Test.YtebincnejcmocaaGreatMSo1
import Derived.Test.YtebincnejcmocaaGreatMSo2
import Derived.Test.YtebincnejcmocaaGreatMSo5
import Derived.Test.YtebincnejcmocaaGreatMSo6
/-
  The specification's l3Solutions and Solutions.
-/
namespace Go.Proofs.YtebincnejcmocaaGreat
open Go.RowKit

/-- A row of literals whose integers stand elsewhere. -/
def flatR : List LLit → List Value → List Value
  | l :: ls, u :: us => .int .i64 l.1 :: .int .i64 l.2.1 :: u :: flatR ls us
  | _, _ => []
theorem flatR_snoc : ∀ (ls : List LLit) (us : List Value) (_ : us.length = ls.length) (l : LLit) (u : Value), flatR (ls ++ [l]) (us ++ [u]) = flatR ls us ++ [.int .i64 l.1, .int .i64 l.2.1, u]
  | [], [], _, l, u => by simp [flatR]
  | [], u' :: us, h, _, _ => by simp at h
  | l :: ls, [], h, _, _ => by simp at h
  | l :: ls, u :: us, h, m, b => by simp [flatR, flatR_snoc ls us (by simpa using h) m b]
theorem flatR_at : ∀ (ls : List LLit) (us : List Value) (_ : us.length = ls.length) (k : Nat) (hk : k < ls.length) (hk' : k < us.length),
    (flatR ls us)[k * 3]? = some (.int .i64 ls[k].1) ∧ (flatR ls us)[k * 3 + 1]? = some (.int .i64 ls[k].2.1) ∧ (flatR ls us)[k * 3 + 2]? = some us[k]
  | l :: ls, u :: us, h, 0, _, _ => ⟨rfl, rfl, rfl⟩
  | l :: ls, u :: us, h, k + 1, h1, h2 => by
    have ih := flatR_at ls us (by simpa using h) k (by simpa using h1) (by simpa using h2)
    have e : ∀ r, (flatR (l :: ls) (u :: us))[(k + 1) * 3 + r]? = (flatR ls us)[k * 3 + r]? := fun r => by
      rw [show (k + 1) * 3 + r = (k * 3 + r) + 1 + 1 + 1 by omega]
      rfl
    have e0 := e 0
    rw [Nat.add_zero, Nat.add_zero] at e0
    rw [e0, e 1, e 2]
    exact ih
/-- The relation of a loop that collects literals that stand elsewhere. -/
structure ColLR (w wr : World) (ls : List LLit) (A : Option Addr) (c : Nat) (us : List Value) : Prop where
  below : Below w.heap.size w wr
  len : us.length = ls.length
  inn : ∀ i (h : i < ls.length) (h' : i < us.length), RdInts wr w.heap.size us[i] ls[i].2.2
  row : wr.ownsRow w.heap.size 56 3 (.slice A ls.length c) ls.length (flatR ls us)
theorem ColLR.empty (w wr : World) (hb : Below w.heap.size w wr) : ColLR w (wr.alloc (.cells #[] 56)) [] (some ⟨wr.heap.size, 0, none⟩) 0 [] :=
  ⟨hb.alloc hb.size _, rfl, fun i h => absurd h (by simp), World.ownsRow_made wr #[] 0 hb.size (by decide) rfl⟩
theorem ColLR.on {w wr w2 : World} {ls : List LLit} {A : Option Addr} {c : Nat} {us : List Value} (h : ColLR w wr ls A c us) (hb : Below wr.heap.size wr w2) : ColLR w w2 ls A c us :=
  ⟨bthen h.below hb, h.len, fun i a b => (h.inn i a b).below hb h.below.size, ownsRow_below h.row (fun g hg => (h.row.lt g hg).2) hb (Nat.le_refl _)⟩
theorem ColLR.push {w wr w2 w4 : World} {ls ls' : List LLit} {A : Option Addr} {c g cap : Nat} {l : LLit} {u : Value} {o : Obj} {us : List Value} (h : ColLR w wr ls A c us) (e : ls' = ls ++ [l]) (hb : Below wr.heap.size wr w2) (hu : RdInts w2 w.heap.size u l.2.2)
    (hg : (w2.alloc o).grownBy w4 (Value.slice A ls.length c).ownBlock) (hown : w4.ownsRow w.heap.size 56 3 (.slice (some ⟨g, 0, none⟩) (ls.length + 1) cap) (ls.length + 1) (flatR ls us ++ [.int .i64 l.1, .int .i64 l.2.1, u])) :
    ColLR w w4 ls' (some ⟨g, 0, none⟩) cap (us ++ [u]) ∧ ls.length + 1 = ls'.length := by
  subst e
  have h2 := h.on hb
  have hl : (ls ++ [l]).length = ls.length + 1 := by simp
  have hB : Below w.heap.size w2 w4 := by
    have hg' := grown_from_alloc hg
    refine ⟨hg'.os, hg'.tape, hg'.output, hg'.size, fun k hk => hg'.block k (by have := h2.below.size; omega) (fun e => ?_)⟩
    have := (h2.row.lt k e.symm).1
    omega
  refine ⟨⟨h2.below.trans hB, by simp [h.len], fun i h1 h3 => ?_, by rw [hl, flatR_snoc ls us h.len]; exact hown⟩, hl.symm⟩
  by_cases e : i < ls.length
  · have e' : i < us.length := by rw [h.len]; exact e
    rw [List.getElem_append_left e', List.getElem_append_left e]
    exact (h2.inn i e e').below hB (Nat.le_refl _)
  · have e2 : i = ls.length := by simp at h1; omega
    subst e2
    have := h.len
    simp [← this]
    exact hu.below hB (Nat.le_refl _)
theorem ColLR.rd {w wr : World} {ls : List LLit} {A : Option Addr} {c : Nat} {us : List Value} (h : ColLR w wr ls A c us) : RdLits wr wr.heap.size (.slice A ls.length c) ls := by
  have hcells := @World.ownsRow.cells wr w.heap.size 56 3 (.slice A ls.length c) ls.length (flatR ls us) h.row
  have hl := h.len
  have hsz := h.below.size
  obtain ⟨hfl, hr⟩ := h.row
  rcases hr with ⟨e, h0⟩ | ⟨g, cap, cur, e, hb, hgg, hn, _⟩
  · have : ls = [] := List.eq_nil_of_length_eq_zero h0
    subst this
    injection e with e1 _ e3
    subst e1 e3
    exact ⟨none, 0, rfl, by simp, fun h => absurd h (by simp)⟩
  · injection e with e1 _ e3
    subst e1 e3
    refine ⟨_, c, rfl, hn, fun _ => ⟨g, 0, rfl, Blk.lt hgg, fun k hk => ?_⟩⟩
    obtain ⟨c0, c1, c2⟩ := flatR_at ls us hl k hk (by omega)
    have d0 := hcells (g := g) rfl _ _ c0
    have d1 := hcells (g := g) rfl _ _ c1
    have d2 := hcells (g := g) rfl _ _ c2
    rw [Go.WideShapes.add_plain] at d0 d1 d2
    exact ⟨_, _, _, d0, d1, d2, rfl, rfl, (h.inn k hk (by omega)).more hsz⟩
theorem news3s (w : World) (x y z : Value) (t : TypeId) (n : Nat) (hn : w.heap.size = n) : ∀ j u, [x, y, z][j]? = some u → (w.alloc (.cells #[x, y, z] t)).cell? ((⟨n, 0, none⟩ : Addr).add j) = some u :=
  hn ▸ World.news_of_block (cs := #[x, y, z]) (heap_alloc_new w _)

theorem totL_sub : ∀ {xs ys : List LLit}, xs.Sublist ys → totL xs ≤ totL ys
  | _, _, .slnil => Nat.le_refl _
  | _, _, .cons a h => by have := totL_sub h; simp only [totL, List.map_cons, List.sum_cons] at this ⊢; omega
  | _, _, .cons_cons a h => by have := totL_sub h; simp only [totL, List.map_cons, List.sum_cons] at this ⊢; omega
/-- What the lists ahead of k, and list k with the facts ahead of j, become. -/
def nextTo (a : LFact) (fs : List LFact) (B : List (List Int)) (k j : Nat) : List (List Int) := nextL a fs (B.take k) ++ (fs.take j).filterMap fun f => matchL a f (B.getD k [])
theorem nextTo_none {a : LFact} {fs : List LFact} {B : List (List Int)} {k j : Nat} (hj : j < fs.length) (hk : k < B.length) (e : matchL a fs[j] B[k] = none) : nextTo a fs B k (j + 1) = nextTo a fs B k j := by
  unfold nextTo
  rw [take_snoc fs j hj, List.filterMap_append]
  simp [hk, e]
theorem nextTo_some {a : LFact} {fs : List LFact} {B : List (List Int)} {k j : Nat} {r : List Int} (hj : j < fs.length) (hk : k < B.length) (e : matchL a fs[j] B[k] = some r) : nextTo a fs B k (j + 1) = nextTo a fs B k j ++ [r] := by
  unfold nextTo
  rw [take_snoc fs j hj, List.filterMap_append]
  simp [hk, e]
theorem nextTo_row {a : LFact} {fs : List LFact} {B : List (List Int)} {k : Nat} (hk : k < B.length) : nextTo a fs B k fs.length = nextTo a fs B (k + 1) 0 := by
  have hd : B.getD k [] = B[k] := by simp [hk]
  unfold nextTo nextL
  rw [List.take_length, take_snoc B k hk, hd, List.flatMap_append]
  simp
theorem nextTo_start (a : LFact) (fs : List LFact) (B : List (List Int)) : nextTo a fs B 0 0 = [] := by simp [nextTo, nextL]
theorem nextTo_end (a : LFact) (fs : List LFact) (B : List (List Int)) : nextTo a fs B B.length 0 = nextL a fs B := by simp [nextTo]
theorem nextTo_len {a : LFact} {fs : List LFact} {B : List (List Int)} {k j : Nat} (hk : k < B.length) : (nextTo a fs B k j).length ≤ (nextL a fs B).length := by
  have e : B = B.take k ++ B[k] :: B.drop (k + 1) := by
    rw [← List.drop_eq_getElem_cons hk, List.take_append_drop]
  have h1 : (nextL a fs B).length = (nextL a fs (B.take k)).length + ((fs.filterMap fun f => matchL a f B[k]).length + (nextL a fs (B.drop (k + 1))).length) := by
    have key : ∀ (B1 B2 : List (List Int)) (b : List Int), (nextL a fs (B1 ++ b :: B2)).length = (nextL a fs B1).length + ((fs.filterMap fun f => matchL a f b).length + (nextL a fs B2).length) := fun B1 B2 b => by
      unfold nextL
      rw [List.flatMap_append, List.flatMap_cons, List.length_append, List.length_append]
    have := key (B.take k) (B.drop (k + 1)) B[k]
    rwa [← e] at this
  have h2 : ((fs.take j).filterMap fun f => matchL a f (B.getD k [])).length ≤ (fs.filterMap fun f => matchL a f B[k]).length := by
    have hd : B.getD k [] = B[k] := by simp [hk]
    rw [hd]
    exact ((List.take_sublist j fs).filterMap _).length_le
  unfold nextTo
  rw [List.length_append]
  omega

theorem WkRows.one {w : World} {lo : Nat} {u : Value} {xs : List Int} (h : OwnInts w lo w.heap.size u xs) (hl : lo ≤ w.heap.size) : WkRows (w.alloc (.cells #[u] 42)) lo (w.heap.size + 1) (.slice (some ⟨w.heap.size, 0, none⟩) 1 1) [xs] :=
  ⟨[u], ⟨rfl, fun i h1 h2 => by
    have : i = 0 := by simp at h1; omega
    subst this
    exact (h.below (below1 w _) (Nat.le_refl _)).mono (Nat.le_refl _) (by omega)⟩, ⟨rfl, .inr ⟨w.heap.size, 1, _, rfl, hl, heap_alloc_new w _, Nat.le_refl _, by decide, rfl, rfl⟩⟩, fun g hg => by simp [Value.ownBlock] at hg; omega⟩
theorem WkRows.empty (w : World) : WkRows (w.alloc (.cells #[] 42)) w.heap.size (w.heap.size + 1) (.slice (some ⟨w.heap.size, 0, none⟩) 0 0) [] :=
  ⟨[], ⟨rfl, fun i h => absurd h (by simp)⟩, World.ownsRow_made w #[] 0 (Nat.le_refl _) (by decide) rfl, fun g hg => by simp [Value.ownBlock] at hg; omega⟩

/-- What the outer loop has. -/
structure SolAt (w0 wr : World) (gs : List LFact) (ls : List LLit) (k : Nat) (Ab : Option Addr) (cb : Nat) (Ar : Option Addr) (cr : Nat) (us : List Value) : Prop where
  below : Below w0.heap.size w0 wr
  binds : WkRows wr w0.heap.size wr.heap.size (.slice Ab (bindsTo gs ls k).length cb) (bindsTo gs ls k)
  rest : ColLR w0 wr (restTo ls k) Ar cr us

set_option maxHeartbeats 16000000 in
set_option maxRecDepth 100000 in
theorem l3Solutions_any (v v2 : Value) (gs : List LFact) (ls : List LLit) (R : List (List Int)) (hR : R = solsOf gs ls) (w : World) (h : RdFacts w w.heap.size v gs) (h2 : RdLits w w.heap.size v2 ls) (hn : gs.length ≤ 1048576) (ht : tot gs ≤ 1048576) (hl : ls.length + totL ls ≤ 1048576)
    (hc : ∀ f ∈ gs, f.2.all constOk = true) (hnd : gs.Nodup) (hT : ∀ l ∈ ls, l.2.2.all termOk = true) :
    Calls Tryz.prog 24 #[v, v2] w fun e w' => ∃ A c, e = .returned (.slice A R.length c) ∧ WkRows w' w.heap.size w'.heap.size (.slice A R.length c) R ∧ Below w.heap.size w w' := by
  obtain ⟨i0, hi0, hz0, hz1, hz2⟩ := info_parts Tryz.infoIntS
  obtain ⟨i1, hi1, hy0, hy1, hy2⟩ := info_parts Tryz.infoLit
  have HR := Lib.hid hR
  have HC := Lib.hid hc
  have HT := Lib.hid hT
  have HOK := Lib.hid (fun k (hk : k ≤ ls.length) => bindsTo_ok hc hnd hT hk)
  have H00 := Lib.hid (And.intro h h2)
  obtain ⟨A, c, rfl, hcA, _⟩ := h
  obtain ⟨A2, c2, rfl, hc2, _⟩ := h2
  clear hR hc hT hnd
  go_enter Tryz.func24, Tryz.ntmps24
  go_upto_region 2 with fail
  have HO0 := Lib.hid (WkRows.empty w)
  obtain ⟨wA, hwA⟩ : ∃ wA, wA = w.alloc (Obj.cells #[] 42) := ⟨_, rfl⟩
  have hBA := Lib.hid (show Below w.heap.size w wA by rw [hwA]; exact below1 _ _)
  have hsA : wA.heap.size = w.heap.size + 1 := by rw [hwA]; simp
  rw [← hwA] at HO0 ⊢
  clear hwA
  have HSA := Lib.hid hsA
  have hsA2 : w.heap.size < wA.heap.size := by omega
  clear hsA
  have H := Lib.hid (H00.out.1.on hBA.out)
  have H2 := Lib.hid (H00.out.2.on hBA.out)
  clear H00
  go_upto_region 3 with (first
    | (go_at_call 48; refine (l3None_any _).mono ?_; rintro e w2 ⟨A4, c4, rfl, o4, b4⟩; have H4 := Lib.hid (And.intro o4 b4); clear o4 b4))
  obtain ⟨w3, hw3⟩ : ∃ w3, w3 = w2.alloc (Obj.cells #[Value.slice A4 4 c4] 42) := ⟨_, rfl⟩
  have HS0 := Lib.hid (show Below wA.heap.size wA w3 ∧ WkRows w3 wA.heap.size w3.heap.size (.slice (some ⟨w2.heap.size, 0, none⟩) 1 1) [noneB] from by
    obtain ⟨o4, b4⟩ := H4.out
    refine ⟨by rw [hw3]; exact bthen b4 (below1 _ _), ?_⟩
    have := WkRows.one o4 b4.size
    rw [hw3]
    exact this.mono (Nat.le_refl _) (by simp))
  rw [← hw3]
  clear hw3 H4
  go_upto_region 4 with fail
  have HSOL := Lib.hid (show SolAt wA (w3.alloc (Obj.cells #[] 56)) gs ls 0 (some ⟨w2.heap.size, 0, none⟩) 1 (some ⟨w3.heap.size, 0, none⟩) 0 [] from
    ⟨bthen HS0.out.1 (below1 _ _), (HS0.out.2.below (below1 _ _) (Nat.le_refl _)).mono (Nat.le_refl _) (by simp), ColLR.empty _ _ HS0.out.1⟩)
  clear HS0
  go_wp2_with fail
  go_loopw [6, 7, 8] (fun vb vr vi wr => ∃ (k : Nat) (Ab : Option Addr) (cb : Nat) (Ar : Option Addr) (cr : Nat) (us : List Value), k ≤ ls.length ∧ vi = .int .i64 k ∧ vb = .slice Ab (bindsTo gs ls k).length cb ∧ vr = .slice Ar (restTo ls k).length cr ∧ SolAt wA wr gs ls k Ab cb Ar cr us) (fun _ _ vi _ => ls.length - (intOf vi).toNat)
  case atStart => exact ⟨0, _, _, _, _, [], Nat.zero_le _, rfl, rfl, rfl, HSOL.out⟩
  case round =>
    obtain ⟨k, Ab, cb, Ar, cr, us, hk, rfl, rfl, rfl, hat⟩ := hrel
    have HAT := Lib.hid hat
    clear hat HSOL
    have hrl := restTo_length ls k
    by_cases hlt : k < ls.length
    · obtain ⟨b, o, u0, u1, u2, rfl, hbB, k0, k1, k2, rfl, rfl, p3⟩ := (H2.out.below HAT.out.below (Nat.le_refl _)).get hlt
      have HP3 := Lib.hid p3
      obtain ⟨A5, c5, rfl, hc5, _⟩ := p3
      have hln := len_le_totL ls k hlt
      by_cases h0 : ls[k].1 = 0
      · have hd : (ls[k].1 != 0) = false := by simp [h0]
        have HY := Lib.hid (bindsTo_yes (fs := gs) hlt h0)
        have HRY := Lib.hid (restTo_yes hlt h0)
        have hta := HT.out _ (List.getElem_mem hlt)
        have HLN := Lib.hid (HOK.out (k + 1) (by omega)).2
        have HBK := Lib.hid (HOK.out k (by omega))
        obtain ⟨B, hB⟩ : ∃ B, B = bindsTo gs ls k := ⟨_, rfl⟩
        have HBB := Lib.hid (show WkRows wr wA.heap.size wr.heap.size (.slice Ab B.length cb) B by rw [hB]; exact HAT.out.binds)
        rw [← hB] at HY HBK ⊢
        rw [HY.out] at HLN
        have HBE := Lib.hid hB
        have hbn : B.length ≤ 65536 := HBK.out.2
        clear hB
        go_wp2_with fail
        rename World => w1
        have C0 := Lib.hid (ColS.empty (lo := w1.heap.size) (Below.refl w1.heap.size w1))
        go_loopw [9, 10] (fun vn vp wr => ∃ (p : Nat) (An : Option Addr) (cn : Nat) (av : List Value), p ≤ B.length ∧ vp = .int .i64 p ∧ vn = .slice An (nextTo ls[k].2 gs B p 0).length cn ∧ ColS w1.heap.size w1 wr (nextTo ls[k].2 gs B p 0) An cn av) (fun _ vp _ => B.length - (intOf vp).toNat)
        case atStart =>
          refine ⟨0, some ⟨w1.heap.size, 0, none⟩, 0, [], Nat.zero_le _, rfl, ?_, ?_⟩
          · rw [nextTo_start]; rfl
          · rw [nextTo_start]; exact C0.out
        case round =>
          obtain ⟨p, An, cn, av, hp, rfl, rfl, hcol⟩ := hrel
          by_cases hltp : p < B.length
          · have HCOL := Lib.hid hcol
            clear hcol
            go_wp2_with fail
            rename World => w5
            go_loopw [9, 11] (fun vn vj wr => ∃ (j : Nat) (An : Option Addr) (cn : Nat) (av : List Value), j ≤ gs.length ∧ vj = .int .i64 j ∧ vn = .slice An (nextTo ls[k].2 gs B p j).length cn ∧ ColS w1.heap.size w1 wr (nextTo ls[k].2 gs B p j) An cn av) (fun _ vj _ => gs.length - (intOf vj).toNat)
            case atStart => exact ⟨0, An, cn, av, Nat.zero_le _, rfl, rfl, HCOL.out⟩
            case round =>
              obtain ⟨j, An, cn, av, hj, rfl, rfl, hcol⟩ := hrel
              have HCO := Lib.hid hcol
              have B1 := hcol.below
              clear hcol
              have BW := bthen HAT.out.below B1
              by_cases hltj : j < gs.length
              · obtain ⟨b3, o3, A6, c6, rfl, hb3, f0, f1, p6⟩ := (H.out.below BW (Nat.le_refl _)).get hltj
                obtain ⟨gb, A7, c7, rfl, hgb, r0, o7⟩ := (HBB.out.below B1 (Nat.le_refl _)).get hltp
                have hsz1 := B1.size
                have hszA := HAT.out.below.size
                have hlf := len_le_tot gs j hltj
                have hcf := HC.out _ (List.getElem_mem hltj)
                have hbok := HBK.out.1 _ (List.getElem_mem hltp)
                have hb4 := bindOk_len hbok
                have hbl : b < wr.heap.size := by omega
                have hb3l : b3 < wr.heap.size := by omega
                have hgl : gb < wr.heap.size := hgb
                have k1' : wr.cell? ⟨b, o + k * 3 + 1, none⟩ = some (.int .i64 ls[k].2.1) := (B1.cell (p := ⟨b, o + k * 3 + 1, none⟩) (by show b < w1.heap.size; omega)).trans k1
                have k2' : wr.cell? ⟨b, o + k * 3 + 2, none⟩ = some (.slice A5 ls[k].2.2.length c5) := (B1.cell (p := ⟨b, o + k * 3 + 2, none⟩) (by show b < w1.heap.size; omega)).trans k2
                have HS := Lib.hid (show ∀ W, Below wr.heap.size wr W → (Below wr.heap.size wr W ∧ W.cell? ⟨b, o + k * 3 + 1, none⟩ = some (.int .i64 ls[k].2.1) ∧ W.cell? ⟨b, o + k * 3 + 2, none⟩ = some (.slice A5 ls[k].2.2.length c5) ∧ W.cell? ⟨b3, o3 + j * 2, none⟩ = some (.int .i64 gs[j].1) ∧ W.cell? ⟨b3, o3 + j * 2 + 1, none⟩ = some (.slice A6 gs[j].2.length c6) ∧ W.cell? ⟨gb, p, none⟩ = some (.slice A7 B[p].length c7)) from fun W hW =>
                  ⟨hW, (hW.cell (p := ⟨b, o + k * 3 + 1, none⟩) hbl).trans k1', (hW.cell (p := ⟨b, o + k * 3 + 2, none⟩) hbl).trans k2', (hW.cell (p := ⟨b3, o3 + j * 2, none⟩) hb3l).trans f0, (hW.cell (p := ⟨b3, o3 + j * 2 + 1, none⟩) hb3l).trans f1, (hW.cell (p := ⟨gb, p, none⟩) hgl).trans r0⟩)
                obtain ⟨Rm, hRm⟩ : ∃ Rm, Rm = (matchL ls[k].2 gs[j] B[p]).getD [] := ⟨_, rfl⟩
                obtain ⟨ok, hok⟩ : ∃ ok, ok = (matchL ls[k].2 gs[j] B[p]).isSome := ⟨_, rfl⟩
                have HM := Lib.hid (show ∀ W, Below wr.heap.size wr W → Calls Tryz.prog 49 #[.agg #[.int .i64 ls[k].2.1, .slice A5 ls[k].2.2.length c5], .agg #[.int .i64 gs[j].1, .slice A6 gs[j].2.length c6], .slice A7 B[p].length c7] W fun e w' => ∃ A' c', e = .returned (.tuple #[.slice A' Rm.length c', .bool ok]) ∧ OwnInts w' wr.heap.size w'.heap.size (.slice A' Rm.length c') Rm ∧ Below wr.heap.size wr w' from fun W hW =>
                  (l3Match_n _ _ _ ls[k].2 gs[j] B[p] Rm ok hRm hok W hbok ⟨_, rfl, (HP3.out.below (bthen B1 hW) (by omega)).more (by have := hW.size; omega)⟩ ⟨_, rfl, (p6.below hW (by omega)).more (by have := hW.size; omega)⟩ ((o7.below hW (by omega)).rd.more (by have := hW.size; omega)) hta hcf (by omega) (by omega)).mono fun e w' ⟨A', c', he, ho, hb⟩ => ⟨A', c', he, ho.mono hW.size (Nat.le_refl _), bthen hW hb⟩)
                have HLE := Lib.hid (Nat.le_trans (nextTo_len (a := ls[k].2) (fs := gs) (j := j) hltp) HLN.out)
                have HMM := Lib.hid (And.intro hRm hok)
                clear p6 o7 hRm hok hcf hbok hb4 hln
                go_upto_region 16 with fail
                go_cut [12, 13] (fun s0 s1 wx => ∃ (Q : Option Addr) (f : Nat), s0 = .slice Q Rm.length f ∧ s1 = .bool ok ∧ OwnInts wx wr.heap.size wx.heap.size (.slice Q Rm.length f) Rm ∧ Below wr.heap.size wr wx)
                case first =>
                  clear k0 k1 k2 k1' k2' f0 f1 r0
                  go_region_held3 (fun W => Below wr.heap.size wr W ∧ W.cell? ⟨b, o + k * 3 + 1, none⟩ = some (.int .i64 ls[k].2.1) ∧ W.cell? ⟨b, o + k * 3 + 2, none⟩ = some (.slice A5 ls[k].2.2.length c5) ∧ W.cell? ⟨b3, o3 + j * 2, none⟩ = some (.int .i64 gs[j].1) ∧ W.cell? ⟨b3, o3 + j * 2 + 1, none⟩ = some (.slice A6 gs[j].2.length c6) ∧ W.cell? ⟨gb, p, none⟩ = some (.slice A7 B[p].length c7))
                    (first | exact HS.out _ (Below.refl _ _) | exact HS.out _ (Below.refl _ _).drew | exact HS.out _ (bthen (And.left (by assumption)) (by assumption)) | exact HS.out _ (by assumption))
                    (first
                      | (go_at_call 49; refine (HM.out _ (And.left (by assumption))).mono ?_; rintro e w_r ⟨Q, f, rfl, oo, hb_r⟩))
                  all_goals (go_wp2_with fail; go_meet; exact ⟨_, _, rfl, rfl, oo, hb_r⟩)
                case rest =>
                  obtain ⟨Q, f, rfl, rfl, oo, hb_r⟩ := hcut
                  clear HS HM k0 k1 k2 k1' k2' f0 f1 r0
                  generalize wc = w6 at *
                  have HOO := Lib.hid (And.intro oo hb_r)
                  clear oo hb_r
                  obtain ⟨hRm, hok⟩ := HMM.out
                  cases hm : matchL ls[k].2 gs[j] B[p] with
                  | none =>
                    rw [hm] at hok
                    have hokf : ok = false := hok
                    subst hokf
                    have HE := Lib.hid (nextTo_none hltj hltp hm)
                    clear hm hRm hok
                    go_wp2_with fail
                    go_roundw
                    case rel => exact ⟨j + 1, An, cn, av, by omega, by go_num, by rw [HE.out], by rw [HE.out]; exact HCO.out.on HOO.out.2⟩
                    case measure => simp [intOf]; omega
                  | some r =>
                    rw [hm] at hok hRm
                    have hokf : ok = true := hok
                    subst hokf
                    have hRr : Rm = r := hRm
                    subst hRr
                    have HE := Lib.hid (nextTo_some hltj hltp hm)
                    clear hm hRm hok
                    obtain ⟨zs, hzs⟩ : ∃ zs, zs = nextTo ls[k].2 gs B p j := ⟨_, rfl⟩
                    have hzl : zs.length ≤ 65536 := by rw [hzs]; exact HLE.out
                    rw [← hzs] at HCO HE ⊢
                    have HZ := Lib.hid hzs
                    clear hzs
                    go_wp2_with (at_builtin; refine wpList_append_lies _ rfl (.tmp 69) (.tmp 71) 26 rfl w1.heap.size 42 i0 (.slice none 0 0) 1 24 Tryz.underlying26 hi0 hz0 hz1 hz2 rfl (by decide) (.slice An zs.length cn) zs.length av rfl ?c1 ⟨_, 0, none⟩ 1 1 [.slice Q Rm.length f] rfl rfl (news1s _ _ _ _ (by simp)) ?c2 (by omega) (by unfold maxLen; omega) (by omega) ?c3 _ rfl ?_)
                    case c1 => exact (HCO.out.on HOO.out.2).row.alloc _
                    case c2 => intro u hu; simp at hu; subst hu; rfl
                    case c3 => have := HCO.out.below.size; have := HOO.out.2.size; simp; omega
                    intro g2 cap w8 hown hg _ _
                    obtain ⟨hcol, hlen⟩ := (HCO.out.on HOO.out.2).push HE.out (Below.refl _ _) (HOO.out.1.mono (by have := HCO.out.below.size; omega) (Nat.le_refl _)) hg hown
                    rw [hlen]
                    have HC2 := Lib.hid hcol
                    clear hcol hown hg
                    go_wp2_with fail
                    go_roundw
                    case rel => exact ⟨j + 1, _, _, _, by omega, by go_num, rfl, HC2.out⟩
                    case measure => simp [intOf]; omega
              · have HE := Lib.hid (show nextTo ls[k].2 gs B p j = nextTo ls[k].2 gs B (p + 1) 0 by rw [show j = gs.length by omega]; exact nextTo_row hltp)
                go_wp2_with fail
                go_roundw
                case rel => exact ⟨p + 1, An, cn, av, by omega, by go_num, by rw [HE.out], by rw [← HE.out]; exact HCO.out⟩
                case measure => simp [intOf]; omega
          · have HE := Lib.hid (show nextTo ls[k].2 gs B p 0 = bindsTo gs ls (k + 1) by rw [show p = B.length by omega, nextTo_end, HY.out])
            have HCOL := Lib.hid hcol
            have BW := bthen HAT.out.below hcol.below
            have HRE := Lib.hid (HAT.out.rest.on hcol.below)
            have hszA := HAT.out.below.size
            clear hcol
            go_wp2_with fail
            go_roundw
            case rel => exact ⟨k + 1, An, cn, Ar, cr, us, by omega, by go_num, by rw [HE.out], by rw [HRY.out], BW, by
              have := (HCOL.out.rows (Nat.le_refl _)).mono hszA (Nat.le_refl _)
              rw [HE.out] at this
              exact this, by rw [HRY.out]; exact HRE.out⟩
            case measure => simp [intOf]; omega
      · have hd : (ls[k].1 != 0) = true := by simp [h0]
        have HY := Lib.hid (bindsTo_no (fs := gs) hlt h0)
        have HRY := Lib.hid (restTo_no hlt h0)
        obtain ⟨zs, hzs⟩ : ∃ zs, zs = restTo ls k := ⟨_, rfl⟩
        have hzl : zs.length ≤ 1048576 := by rw [hzs]; omega
        have HRE := Lib.hid (show ColLR wA wr zs Ar cr us by rw [hzs]; exact HAT.out.rest)
        rw [← hzs] at HRY ⊢
        clear hzs
        go_wp2_with (at_builtin; refine wpList_append_lies _ rfl (.tmp 31) (.tmp 36) 30 rfl wA.heap.size 56 i1 (.agg #[.int .i64 0, .int .i64 0, .slice none 0 0]) 3 40 Tryz.underlying30 hi1 hy0 hy1 hy2 rfl (by decide) (.slice Ar zs.length cr) zs.length (flatR zs us) rfl ?c1 ⟨_, 0, none⟩ 1 1 [.int .i64 ls[k].1, .int .i64 ls[k].2.1, .slice A5 ls[k].2.2.length c5] rfl rfl (news3s _ _ _ _ _ _ (by simp)) ?c2 (by omega) (by unfold maxLen; omega) (by omega) ?c3 _ rfl ?_)
        case c1 => exact HRE.out.row.alloc _
        case c2 => intro u hu; simp at hu; rcases hu with rfl | rfl | rfl <;> rfl
        case c3 => have := HRE.out.below.size; simp; omega
        intro g2 cap w8 hown hg _ _
        obtain ⟨hcol, hlen⟩ := HRE.out.push HRY.out (Below.refl _ _) HP3.out hg hown
        rw [hlen]
        have HC2 := Lib.hid hcol
        have HB8 := Lib.hid (show WkRows w8 wA.heap.size w8.heap.size (.slice Ab (bindsTo gs ls k).length cb) (bindsTo gs ls k) from by
          have hg' := grown_from_alloc hg
          obtain ⟨av, ⟨a1, a2⟩, a3, a4⟩ := HAT.out.binds
          have hne : ∀ {v : Value} {n m : Nat} {e : TypeId} {xs : List Value} {lo : Nat}, wr.ownsRow lo e m v n xs → e ≠ 56 → ∀ q, v.ownBlock = some q → w8.heap[q]? = wr.heap[q]? := fun {v n m e xs lo} hv hne q hq => hg'.block q (hv.lt q hq).2 fun e2 => by
            rcases HRE.out.row.2 with ⟨e3, _⟩ | ⟨g1, c1, cur1, e3, _, h1, _⟩
            · rw [e3] at e2; cases e2
            · rw [e3] at e2
              have e4 : g1 = q := by simpa [Value.ownBlock] using e2.symm
              subst e4
              exact blk_ne_row hv (show Blk wr g1 56 cur1 from h1) hne hq
          exact ⟨av, ⟨a1, fun i x y => ((a2 i x y).kept (hne (a2 i x y).1 (by decide))).mono (Nat.le_refl _) hg'.size⟩, ownsRow_only a3 (hne a3 (by decide)), fun q hq => Nat.lt_of_lt_of_le (a4 q hq) hg'.size⟩)
        clear hcol hown hg
        go_wp2_with fail
        go_roundw
        case rel => exact ⟨k + 1, Ab, cb, _, _, _, by omega, by go_num, by rw [HY.out], rfl, HC2.out.below, by rw [HY.out]; exact HB8.out, HC2.out⟩
        case measure => simp [intOf]; omega
    · rename World => w1
      have hkn : k = ls.length := by omega
      subst hkn
      obtain ⟨B, hB⟩ : ∃ B, B = bindsTo gs ls ls.length := ⟨_, rfl⟩
      obtain ⟨rs, hrs⟩ : ∃ rs, rs = restTo ls ls.length := ⟨_, rfl⟩
      have HBB := Lib.hid (show WkRows w1 wA.heap.size w1.heap.size (.slice Ab B.length cb) B by rw [hB]; exact HAT.out.binds)
      have HRS := Lib.hid (show RdLits w1 w1.heap.size (.slice Ar rs.length cr) rs by rw [hrs]; exact HAT.out.rest.rd)
      have HBK := Lib.hid (show (∀ b ∈ B, bindOk b = true) ∧ B.length ≤ 65536 by rw [hB]; exact HOK.out _ (Nat.le_refl _))
      have hsub : ∀ l ∈ rs, l ∈ ls := fun l hl => by
        rw [hrs] at hl
        unfold restTo at hl
        rw [List.take_length] at hl
        exact (List.mem_filter.1 hl).1
      have HTR := Lib.hid (show ∀ l ∈ rs, l.2.2.all termOk = true from fun l hl => HT.out l (hsub l hl))
      have htr : totL rs ≤ totL ls := by
        have : rs.Sublist ls := by
          rw [hrs]
          unfold restTo
          rw [List.take_length]
          exact List.filter_sublist
        exact totL_sub this
      have hrn : rs.length ≤ 1048576 := by rw [hrs]; omega
      have HRR := Lib.hid (show R = triedTo gs rs B B.length by rw [HR.out, hrs, hB]; rfl)
      have hbn := HBK.out.2
      have HO1 := Lib.hid ((HO0.out.below HAT.out.below (by have := HSA.out; omega)).mono (lo' := w.heap.size) (hi' := w1.heap.size) (Nat.le_refl _) (by have := HSA.out; have := HAT.out.below.size; omega))
      rw [← hB, ← hrs]
      clear hB hrs hsub hrl
      go_wp2_with fail
      go_loopw [5, 14] (fun vo vk wr => ∃ (k : Nat) (Ao : Option Addr) (co : Nat), k ≤ B.length ∧ vk = .int .i64 k ∧ vo = .slice Ao (triedTo gs rs B k).length co ∧ WkRows wr w.heap.size wr.heap.size (.slice Ao (triedTo gs rs B k).length co) (triedTo gs rs B k) ∧ Below w1.heap.size w1 wr) (fun _ vk _ => B.length - (intOf vk).toNat)
      case atStart => exact ⟨0, _, 0, Nat.zero_le _, rfl, rfl, HO1.out, Below.refl _ _⟩
      case round =>
        obtain ⟨q, Ao, co, hq, rfl, rfl, hout, hbe⟩ := hrel
        have hszA := HAT.out.below.size
        have hsz := hbe.size
        by_cases hltq : q < B.length
        · obtain ⟨gb, A7, c7, rfl, hgb, r0, o7⟩ := (HBB.out.below hbe (Nat.le_refl _)).get hltq
          have hbok := HBK.out.1 _ (List.getElem_mem hltq)
          have HB4 := Lib.hid (bindOk_len hbok)
          have hb4l : B[q].length ≤ 1048576 := by have := HB4.out; omega
          obtain ⟨bo, hbo⟩ : ∃ bo, bo = (rs.all fun l => litHolds gs l B[q]) := ⟨_, rfl⟩
          have CT := Lib.hid (l3Try_any (.slice A gs.length c) (.slice Ar rs.length cr) (.slice A7 B[q].length c7) gs rs B[q] bo hbo wr (H.out.on (bthen HAT.out.below hbe)) (HRS.out.on hbe) (o7.rd.more (by omega)) HB4.out HTR.out hn ht hrn (by omega))
          obtain ⟨T, hTe⟩ : ∃ T, T = triedTo gs rs B q := ⟨_, rfl⟩
          have hTn : T.length ≤ 65536 := by
            have hup := (triedTo_is gs rs B q hq).1
            rw [hTe]
            exact binds_len hup.nodup fun b hb => HBK.out.1 b (triedTo_sub hq b hb)
          have hTl : ∀ s ∈ T, s.length ≤ 1048576 := fun s hs => by
            rw [hTe] at hs
            rw [bindOk_len (HBK.out.1 s (triedTo_sub hq s hs))]
            decide
          have HOUT := Lib.hid (show WkRows wr w.heap.size wr.heap.size (.slice Ao T.length co) T by rw [hTe]; exact hout)
          have HO7 := Lib.hid (show OwnInts wr w.heap.size wr.heap.size (.slice A7 B[q].length c7) B[q] from o7.mono (by omega) (by omega))
          have HBE := Lib.hid hbe
          have HTL := Lib.hid hTl
          have HTE := Lib.hid hTe
          rw [← hTe]
          clear o7 hbe hout hTl hTe hbok
          cases bo
          · have HE := Lib.hid (triedTo_no hltq hbo.symm)
            clear hbo
            go_wp2_with (go_at_call 50; refine CT.out.mono ?_; rintro e w2 ⟨rfl, hb2⟩; have HB2 := Lib.hid hb2; clear hb2)
            go_roundw
            case rel => exact ⟨q + 1, Ao, co, by omega, by go_num, by rw [HE.out, HTE.out], by rw [HE.out, ← HTE.out]; exact (HOUT.out.below HB2.out (Nat.le_refl _)).mono (Nat.le_refl _) HB2.out.size, bthen HBE.out HB2.out⟩
            case measure => simp [intOf]; omega
          · have HE := Lib.hid (triedTo_yes hltq hbo.symm)
            clear hbo
            obtain ⟨T2, hT2⟩ : ∃ T2, T2 = putB T B[q] := ⟨_, rfl⟩
            have HT2 := Lib.hid hT2
            have HPUT := Lib.hid (show ∀ W, Below wr.heap.size wr W → Calls Tryz.prog 51 #[.slice Ao T.length co, .slice A7 B[q].length c7] W fun e w' => ∃ A c, e = .returned (.slice A T2.length c) ∧ WkRows w' w.heap.size w'.heap.size (.slice A T2.length c) T2 ∧ Below W.heap.size W w' from fun W hW =>
              l3Put_any _ _ T B[q] T2 hT2 w.heap.size wr.heap.size W (HOUT.out.below hW (Nat.le_refl _)) (HO7.out.below hW (Nat.le_refl _)) hW.size (by have := hW.size; omega) (by omega) HTL.out (by omega))
            clear hT2
            have r0' : ∀ W, Below wr.heap.size wr W → W.cell? ⟨gb, q, none⟩ = some (.slice A7 B[q].length c7) := fun W hW => (hW.cell (p := ⟨gb, q, none⟩) hgb).trans r0
            have HR0 := Lib.hid r0'
            clear r0'
            go_wp2_with (first
              | (go_at_call 50; refine CT.out.mono ?_; rintro e w2 ⟨rfl, hb2⟩
                 have r2 := HR0.out w2 hb2
                 have HB2 := Lib.hid hb2
                 clear hb2)
              | (go_at_call 51; refine (HPUT.out _ HB2.out).mono ?_; rintro e w3 ⟨A8, c8, rfl, o8, b8⟩
                 have HO8 := Lib.hid (And.intro o8 b8)
                 clear o8 b8))
            go_roundw
            case rel => exact ⟨q + 1, A8, c8, by omega, by go_num, by rw [HE.out, ← HTE.out, ← HT2.out], by rw [HE.out, ← HTE.out, ← HT2.out]; exact HO8.out.1, bthen HBE.out (bthen HB2.out HO8.out.2)⟩
            case measure => simp [intOf]; omega
        · have HF := Lib.hid (show WkRows wr w.heap.size wr.heap.size (.slice Ao R.length co) R ∧ triedTo gs rs B q = R by
            have : q = B.length := by omega
            rw [this] at hout ⊢
            rw [HRR.out]
            exact ⟨hout, rfl⟩)
          have HBE := Lib.hid (bthen hBA.out (bthen HAT.out.below hbe))
          rw [HF.out.2]
          clear hout hbe
          go_wp2_with fail
          go_ret
          exact ⟨_, _, rfl, HF.out.1, HBE.out⟩

end Go.Proofs.YtebincnejcmocaaGreat
/-
  Rows of slices of integers as results of laws: compared, marked, held.
-/
namespace Go.Proofs.YtebincnejcmocaaGreat
open Go.RowKit

def totSS (xss : List (List Int)) : Nat := (xss.map List.length).sum
def szRows (xss : List (List Int)) : Nat := xss.length + totSS xss
theorem totSS_at : ∀ (xss : List (List Int)) (k : Nat) (h : k < xss.length), xss[k].length ≤ totSS xss
  | x :: xss, 0, _ => by simp [totSS]
  | x :: xss, k + 1, h => by
    have := totSS_at xss k (by simpa using h)
    simp only [totSS, List.map_cons, List.sum_cons, List.getElem_cons_succ] at this ⊢
    omega
theorem totSS_take (xss : List (List Int)) (k : Nat) (h : k < xss.length) : totSS (xss.take (k + 1)) = totSS (xss.take k) + xss[k].length := by
  unfold totSS
  rw [take_snoc xss k h, List.map_append, List.sum_append]
  simp
theorem totSS_take_le : ∀ (xss : List (List Int)) (k : Nat), totSS (xss.take k) ≤ totSS xss
  | [], k => by simp
  | x :: xss, 0 => by simp [totSS]
  | x :: xss, k + 1 => by
    have := totSS_take_le xss k
    simp only [totSS, List.take_succ_cons, List.map_cons, List.sum_cons] at this ⊢
    omega
theorem totSS_few {xss : List (List Int)} {n m : Nat} (hn : xss.length ≤ n) (hm : ∀ x ∈ xss, x.length ≤ m) : totSS xss ≤ n * m := by
  have key : ∀ (l : List (List Int)), (∀ x ∈ l, x.length ≤ m) → totSS l ≤ l.length * m := by
    intro l
    induction l with
    | nil => intro _; simp [totSS]
    | cons x l ih =>
      intro h
      have h1 := h x List.mem_cons_self
      have h2 := ih fun y hy => h y (List.mem_cons_of_mem _ hy)
      simp only [totSS, List.map_cons, List.sum_cons, List.length_cons, Nat.add_mul] at h2 ⊢
      omega
  exact Nat.le_trans (key xss hm) (Nat.mul_le_mul_right m hn)

set_option maxHeartbeats 1000000 in
set_option maxRecDepth 100000 in
theorem eqIntSS_any (va vb : Value) (xs ys : List (List Int)) (w : World) (ha : RdRows w w.heap.size va xs) (hb : RdRows w w.heap.size vb ys) (hxy : xs = ys) (h1 : szRows xs ≤ 1048576) :
    Calls Tryz.prog 11 #[va, vb] w fun e w' => e = .returned (.bool (decide (xs = ys))) ∧ Below w.heap.size w w' := by
  subst hxy
  rw [decide_eq_true (rfl : xs = xs)]
  unfold szRows at h1
  have HA := Lib.hid ha
  have HB := Lib.hid hb
  obtain ⟨A, c, rfl, hc, _⟩ := ha
  obtain ⟨A2, c2, rfl, hc2, _⟩ := hb
  have hl1 : ((xs.length : Int) != (xs.length : Int)) = false := by simp
  go_enter Tryz.func11, Tryz.ntmps11
  go_wp2_with fail
  go_loopw [5] (fun i wr => ∃ k : Nat, k ≤ xs.length ∧ i = .int .i64 k ∧ Below w.heap.size w wr) (fun i _ => xs.length - (intOf i).toNat)
  case atStart => exact ⟨0, Nat.zero_le _, rfl, Below.refl _ _⟩
  case round =>
    obtain ⟨k, hk, rfl, hbe⟩ := hrel
    by_cases hlt : k < xs.length
    · obtain ⟨b, o, A3, c3, rfl, hbB, k0, r0⟩ := (HA.out.on hbe).get hlt
      obtain ⟨b2, o2, A4, c4, rfl, hbB2, k2, r2⟩ := (HB.out.on hbe).get hlt
      have hln := totSS_at xs k hlt
      have M0 := later_cell k0
      have M1 := later_cell k2
      have CE := Lib.hid (fun q : Later wr => (eqIntS_any (.slice A3 xs[k].length c3) (.slice A4 xs[k].length c4) xs[k] xs[k] q.val (r0.on q.2) (r2.on q.2) (by omega) (by omega)))
      simp only [decide_true] at CE
      clear k0 k2 r0 r2
      go_wp2_with fail
      refine wp_region_later (by kernel_rfl) (by kernel_rfl) ?_
      repeat (go_big_quiet_step ((go_at_call 32; exact later_of (CE.out _))))
      refine wpQuiet_nil ?_
      rintro _ ⟨xq, rfl⟩
      go_wp2_with fail
      go_roundw
      case rel => exact ⟨k + 1, by omega, by go_num, bthen hbe xq.2⟩
      case measure => simp [intOf]; omega
    · go_wp2_with fail
      go_ret
      exact ⟨rfl, hbe⟩

/-- The rows that marks from k on leave. -/
def markR : Int → List (List Int) → List (List Int)
  | _, [] => []
  | k, x :: xs => seqI k x.length :: markR (k + (x.length : Int)) xs
theorem markR_length : ∀ (k : Int) (xs : List (List Int)), (markR k xs).length = xs.length
  | _, [] => rfl
  | k, x :: xs => by simp [markR, markR_length _ xs]
theorem markR_snoc : ∀ (k : Int) (xs : List (List Int)) (x : List Int), markR k (xs ++ [x]) = markR k xs ++ [seqI (k + (totSS xs : Int)) x.length]
  | k, [], x => by simp [markR, totSS]
  | k, y :: xs, x => by
    have h := markR_snoc (k + (y.length : Int)) xs x
    have e : k + (y.length : Int) + (totSS xs : Int) = k + (totSS (y :: xs) : Int) := by simp [totSS]; omega
    rw [e] at h
    simp [markR, h]
theorem markR_at {xss : List (List Int)} {k : Int} {j : Nat} (h : j < xss.length) (h' : j < (markR k xss).length) : (markR k xss)[j] = seqI (k + (totSS (xss.take j) : Int)) xss[j].length := by
  have hp : ∀ (xs ys : List (List Int)) (k : Int), ∃ zs, markR k (xs ++ ys) = markR k xs ++ zs := by
    intro xs
    induction xs with
    | nil => intro ys k; exact ⟨_, rfl⟩
    | cons x xs ih =>
      intro ys k
      obtain ⟨zs, hz⟩ := ih ys (k + (x.length : Int))
      exact ⟨zs, by simp [markR, hz]⟩
  have e : xss = xss.take (j + 1) ++ xss.drop (j + 1) := (List.take_append_drop _ _).symm
  have hl : (markR k (xss.take j)).length = j := by rw [markR_length]; simp; omega
  obtain ⟨zs, hz⟩ := hp (xss.take (j + 1)) (xss.drop (j + 1)) k
  rw [← e, take_snoc xss j h, markR_snoc] at hz
  have : (markR k xss)[j]? = some (seqI (k + (totSS (xss.take j) : Int)) xss[j].length) := by
    rw [hz, List.append_assoc, List.getElem?_append_right (by omega), hl]
    simp
  rw [List.getElem?_eq_getElem h'] at this
  exact Option.some.inj this
/-- The first j are marked. -/
def markedR (xss : List (List Int)) (k : Int) (j : Nat) : List (List Int) := markR k (xss.take j) ++ xss.drop j
theorem markedR_step {xss : List (List Int)} {k : Int} {j : Nat} (h : j < xss.length) : (markedR xss k j).set j (seqI (k + (totSS (xss.take j) : Int)) xss[j].length) = markedR xss k (j + 1) := by
  have hl : (markR k (xss.take j)).length = j := by rw [markR_length]; simp; omega
  unfold markedR
  rw [List.drop_eq_getElem_cons h, List.set_append_right _ _ (by omega), hl, Nat.sub_self, List.set_cons_zero, take_snoc xss j h, markR_snoc]
  simp
theorem markedR_at {xss : List (List Int)} {k : Int} {j : Nat} (h : j < xss.length) (h' : j < (markedR xss k j).length) : (markedR xss k j)[j] = xss[j] := by
  have hl : (markR k (xss.take j)).length = j := by rw [markR_length]; simp; omega
  have e : (markedR xss k j)[j]? = some xss[j] := by
    unfold markedR
    rw [List.getElem?_append_right (by omega), hl]
    simp [h]
  rw [List.getElem?_eq_getElem h'] at e
  exact Option.some.inj e
theorem markedR_length {xss : List (List Int)} {k : Int} {j : Nat} (h : j ≤ xss.length) : (markedR xss k j).length = xss.length := by simp [markedR, markR_length]; omega

/-- A row of slices of the call's own, the slices named. -/
structure OwnRA (w : World) (lo hi : Nat) (v : Value) (xss : List (List Int)) (av : List Value) : Prop where
  args : OwnArgs w lo hi av xss
  row : w.ownsRow lo 42 1 v xss.length av
  lt : ∀ g, v.ownBlock = some g → g < hi
theorem OwnRA.step {w w3 : World} {lo hi j : Nat} {v : Value} {xss : List (List Int)} {av : List Value} {ys : List Int} (h : OwnRA w lo hi v xss av) (hj : j < xss.length) (hja : j < av.length)
    (hI : OwnInts w3 lo hi av[j] ys) (hg : w.grownBy w3 av[j].ownBlock) : OwnRA w3 lo hi v (xss.set j ys) av := by
  obtain ⟨ha, hr, hlt⟩ := h
  have hlen := ha.len
  have hapart : ∀ i i' (hi' : i < av.length) (hi'' : i' < av.length), i ≠ i' → ∀ b, av[i].ownBlock = some b → av[i'].ownBlock ≠ some b := by
    intro i i' h1 h2 hne b hb hb'
    have hp := List.pairwise_iff_getElem.1 ha.apart
    rcases Nat.lt_or_gt_of_ne hne with hl | hl
    · exact hp i i' h1 h2 hl b hb hb'
    · exact hp i' i h2 h1 hl b hb' hb
  refine ⟨⟨by simp [hlen], fun i h1 h2 => ?_, ha.apart⟩, ?_, hlt⟩
  · by_cases e : i = j
    · subst e
      simpa using hI
    · have h0 := ha.own i (by simpa using h1) h2
      rw [List.getElem_set_ne (Ne.symm e)]
      exact h0.kept fun b hb => hg.block b (h0.lt hb).2.2 fun e2 => hapart i j h2 hja e b hb e2.symm
  · rw [List.length_set]
    exact ownsRow_only hr fun b hb => hg.block b (hr.lt b hb).2 fun e2 => rowsI_ne hr hb (ha.own j hj hja) e2.symm

/-- The marks from k on stand in a row of slices, and end at z. -/
def HdRows (w : World) (lo hi : Nat) (v : Value) (xss : List (List Int)) (k z : Int) : Prop := OwnRows w lo hi v (markR k xss) ∧ z = k + (totSS xss : Int) ∧ 0 ≤ k ∧ k ≤ 4294967296 ∧ szRows xss ≤ 1073741824
theorem HdRows.below {w w' : World} {lo hi B : Nat} {v : Value} {xss : List (List Int)} {k z : Int} (h : HdRows w lo hi v xss k z) (hb : Below B w w') (hB : hi ≤ B) : HdRows w' lo hi v xss k z := ⟨h.1.below hb hB, h.2⟩
theorem HdRows.only {w w' : World} {lo hi lo' hi' : Nat} {v : Value} {xss : List (List Int)} {k z : Int} (h : HdRows w lo hi v xss k z) (ho : Only lo' hi' w w') (hd : hi ≤ lo' ∨ hi' ≤ lo) : HdRows w' lo hi v xss k z := ⟨h.1.only ho hd, h.2⟩

set_option maxHeartbeats 1000000 in
set_option maxRecDepth 100000 in
theorem um_rows {v : Value} {xss : List (List Int)} {lo hi : Nat} {w : World} (k : Int) (h : OwnRows w lo hi v xss) (hk0 : 0 ≤ k) (hk : k ≤ 4294967296) (hs : szRows xss ≤ 1073741824) :
    Calls Tryz.prog 16 #[v, .int .i64 k] w fun e w' => ∃ z, e = .returned (.int .i64 z) ∧ k ≤ z ∧ z ≤ k + szRows xss ∧ HdRows w' lo hi v xss k z ∧ Only lo hi w w' := by
  have HS := Lib.hid hs
  unfold szRows at hs
  obtain ⟨A, c, rfl⟩ := h.form
  obtain ⟨av, h1, h2, h3⟩ := h
  have H := Lib.hid (show OwnRA w lo hi (.slice A xss.length c) xss av from ⟨h1, h2, h3⟩)
  have hal := h1.len
  have HAL := Lib.hid hal
  clear h1 h2 h3 hal
  go_enter Tryz.func16, Tryz.ntmps16
  go_wp2_with fail
  go_loopw [1, 5] (fun m i wr => ∃ (j : Nat) (z : Int), j ≤ xss.length ∧ i = .int .i64 j ∧ m = .int .i64 z ∧ z = k + (totSS (xss.take j) : Int) ∧ OwnRA wr lo hi (.slice A xss.length c) (markedR xss k j) av ∧ Only lo hi w wr) (fun _ i _ => xss.length - (intOf i).toNat)
  case atStart =>
    have e : markedR xss k 0 = xss := by simp [markedR, markR]
    exact ⟨0, k, Nat.zero_le _, rfl, rfl, by simp [totSS], by rw [e]; exact H.out, Only.refl _ _ _⟩
  case round =>
    obtain ⟨j, z, hj, rfl, rfl, hz, ho, hon⟩ := hrel
    by_cases hlt : j < xss.length
    · have hml := markedR_length (k := k) (Nat.le_of_lt hlt)
      have hja : j < av.length := by rw [HAL.out]; exact hlt
      have hoj := ho.args.own j (by omega) hja
      rw [markedR_at hlt (by omega)] at hoj
      obtain ⟨A2, c2, hav⟩ := hoj.form
      have hcell : ∃ g, A = some ⟨g, 0, none⟩ ∧ wr.cell? ⟨g, j, none⟩ = some (.slice A2 xss[j].length c2) := by
        have hcells := @World.ownsRow.cells wr lo 42 1 _ _ av ho.row
        rcases ho.row.2 with ⟨e, e0⟩ | ⟨g, cap, cur, e, _⟩
        · omega
        · injection e with e1 _ _
          refine ⟨g, e1, ?_⟩
          have := hcells (g := g) (by rw [e1]; rfl) j (av[j]'hja) (by simp [hja])
          rw [Go.WideShapes.add_plain, Nat.zero_add, hav] at this
          exact this
      obtain ⟨g, rfl, hck⟩ := hcell
      have hln := totSS_at xss j hlt
      have hlt2 := totSS_take_le xss j
      have hst := totSS_take xss j hlt
      have HO := Lib.hid ho
      have HN := Lib.hid hon
      have CM := Lib.hid (markIntS_any (.slice A2 xss[j].length c2) xss[j] z lo hi wr (hav ▸ hoj) (by omega) (by omega))
      have HZ := Lib.hid hz
      have HAV := Lib.hid hav
      have HJ := Lib.hid hoj
      have HST := Lib.hid hst
      clear ho hon hoj hz hav hml hst
      go_wp2_with (go_at_call 35; refine CM.out.mono ?_; rintro e w2 ⟨rfl, o2, g2⟩; have H2 := Lib.hid (And.intro o2 g2); clear o2 g2)
      have HF := Lib.hid (show OwnRA w2 lo hi (.slice (some ⟨g, 0, none⟩) xss.length c) (markedR xss k (j + 1)) av ∧ Only lo hi w w2 from by
        obtain ⟨o2, g2⟩ := H2.out
        have hml := markedR_length (k := k) (Nat.le_of_lt hlt)
        have hs2 := HO.out.step (by omega) hja (by rw [HAV.out]; exact o2) (by rw [HAV.out]; exact g2)
        rw [HZ.out, markedR_step hlt] at hs2
        exact ⟨hs2, HN.out.trans (Only.of_grown g2 fun b hb => by have := HJ.out.lt (g := b) (by rw [HAV.out]; exact hb); omega)⟩)
      go_roundw
      case rel => exact ⟨j + 1, _, by omega, by go_num, rfl, by rw [HST.out, HZ.out]; omega, HF.out.1, HF.out.2⟩
      case measure => simp [intOf]; omega
    · have hjn : j = xss.length := by omega
      have HF := Lib.hid (show HdRows wr lo hi (.slice A xss.length c) xss k z ∧ Only lo hi w wr ∧ k ≤ z ∧ z ≤ k + szRows xss from by
        rw [hjn, List.take_length] at hz
        rw [hjn] at ho
        have e : markedR xss k xss.length = markR k xss := by simp [markedR]
        rw [e] at ho
        exact ⟨⟨⟨av, ho.args, ho.row, ho.lt⟩, hz, hk0, hk, HS.out⟩, hon, by omega, by unfold szRows; omega⟩)
      clear hjn hz ho hon
      go_wp2_with fail
      go_ret
      exact ⟨z, rfl, HF.out.2.2.1, HF.out.2.2.2, HF.out.1, HF.out.2.1⟩

set_option maxHeartbeats 1000000 in
set_option maxRecDepth 100000 in
theorem uh_rows {v : Value} {xss : List (List Int)} {lo hi : Nat} {w : World} {k z : Int} (h : HdRows w lo hi v xss k z) (hh : hi ≤ w.heap.size) :
    Calls Tryz.prog 17 #[v, .int .i64 k] w fun e w' => e = .returned (.int .i64 z) ∧ Below w.heap.size w w' := by
  obtain ⟨ho, hz, hk0, hk, hs⟩ := h
  unfold szRows at hs
  have hml := markR_length k xss
  have H := Lib.hid (ho.rd.more hh)
  obtain ⟨A, c, rfl⟩ := ho.form
  have HML := Lib.hid hml
  have HZ := Lib.hid hz
  rw [hml] at H ⊢
  clear ho hml hz
  go_enter Tryz.func17, Tryz.ntmps17
  go_wp2_with fail
  go_loopw [1, 5] (fun m i wr => ∃ (j : Nat) (y : Int), j ≤ xss.length ∧ i = .int .i64 j ∧ m = .int .i64 y ∧ y = k + (totSS (xss.take j) : Int) ∧ wr = w) (fun _ i _ => xss.length - (intOf i).toNat)
  case atStart => exact ⟨0, k, by simp [totSS]⟩
  case round =>
    obtain ⟨j, y, hj, rfl, rfl, hy, rfl⟩ := hrel
    by_cases hlt : j < xss.length
    · have hlt' : j < (markR k xss).length := by rw [HML.out]; exact hlt
      have hat := H.out
      rw [← HML.out] at hat
      obtain ⟨b, o, A2, c2, rfl, hbB, k0, r0⟩ := hat.get hlt'
      rw [markR_at hlt hlt', seqI_length] at k0
      rw [markR_at hlt hlt', ← hy, seqI_length] at r0
      have hln := totSS_at xss j hlt
      have hlt2 := totSS_take_le xss j
      have CM := Lib.hid (heldIntS_any (.slice A2 xss[j].length c2) xss[j].length y wr r0 (by omega) (by omega))
      have HST := Lib.hid (totSS_take xss j hlt)
      have HY := Lib.hid hy
      have hneg : decide (y + (xss[j].length : Int) < 0) = false := decide_eq_false (by omega)
      clear r0 hat hy
      go_wp2_with (go_at_call 36; refine CM.out.mono ?_; rintro e w2 ⟨rfl, rfl⟩)
      go_roundw
      case rel => exact ⟨j + 1, _, by omega, by go_num, rfl, by rw [HST.out, HY.out]; omega, by first | trivial | rfl⟩
      case measure => simp [intOf]; omega
    · have HF := Lib.hid (show y = z by rw [HZ.out, hy, show j = xss.length by omega, List.take_length])
      clear hy
      go_wp2_with fail
      go_ret
      exact ⟨ret_int HF.out, Below.refl _ _⟩

end Go.Proofs.YtebincnejcmocaaGreat
/-
  The specification's Solutions.
-/
namespace Go.Proofs.YtebincnejcmocaaGreat
open Go.RowKit

theorem solsL_sz (fs : List LFact) (ls : List LLit) : szRows (solsL fs ls) ≤ 1048576 := by
  unfold solsL
  split
  · rename_i h
    rw [Bool.and_eq_true] at h
    have hc' := consts_of h.2
    obtain ⟨_, h2⟩ := solsOf_is (fs := fs) (gs := setOf fs) (SafeB.of h.1) (fun f hf => hc' f ((setOf_mem fs f).1 hf)) (asc_nodup (setOf_asc fs)) (setOf_mem fs)
    have hl := binds_len h2.1 h2.ok
    have ht := totSS_few hl (m := 4) fun b hb => by rw [bindOk_len (h2.ok b hb)]; exact Nat.le_refl _
    unfold szRows
    omega
  · simp [szRows, totSS]
theorem WkRows.none (w : World) (lo hi : Nat) : WkRows w lo hi (.slice none 0 0) [] := ⟨[], ⟨rfl, fun i h => absurd h (by simp)⟩, World.ownsRow_nil _ _ _ _, fun g hg => by cases hg⟩

set_option maxHeartbeats 2000000 in
set_option maxRecDepth 100000 in
theorem specSolutions_any (v v2 : Value) (fs : List LFact) (ls : List LLit) (R : List (List Int)) (hR : R = solsL fs ls) (w : World) (h : RdFacts w w.heap.size v fs) (h2 : RdLits w w.heap.size v2 ls) (hn : fs.length ≤ 1048576) (ht : tot fs ≤ 1048576) (hl : ls.length + totL ls ≤ 1048576) :
    Calls Tryz.prog 7 #[v, v2] w fun e w' => ∃ A c, e = .returned (.slice A R.length c) ∧ WkRows w' w.heap.size w'.heap.size (.slice A R.length c) R ∧ Below w.heap.size w w' := by
  have H := Lib.hid h
  have H2 := Lib.hid h2
  have HR := Lib.hid hR
  obtain ⟨A, c, rfl, hc, _⟩ := h
  obtain ⟨A2, c2, rfl, hc2, _⟩ := h2
  clear hR
  obtain ⟨sf, hsf⟩ : ∃ sf, sf = bodySafe ls := ⟨_, rfl⟩
  obtain ⟨cf, hcf⟩ : ∃ cf, cf = constsL fs := ⟨_, rfl⟩
  have CB := Lib.hid (specBodySafe_any (.slice A2 ls.length c2) ls w H2.out hl)
  rw [← hsf] at CB
  have CH := Lib.hid (fun W (hW : Below w.heap.size w W) => l3Consts_is hcf.symm (.slice A fs.length c) w.heap.size W (H.out.below hW (Nat.le_refl _)) hn ht)
  have HSF := Lib.hid hsf
  have HCF := Lib.hid hcf
  clear hsf hcf
  cases sf
  · have HE := Lib.hid (show R = [] by rw [HR.out]; unfold solsL; rw [← HSF.out]; rfl)
    go_enter Tryz.func7, Tryz.ntmps7
    go_wp2_with (go_at_call 22; refine CB.out.mono ?_; rintro e w1 ⟨rfl, hb1⟩; have HB1 := Lib.hid hb1; clear hb1)
    go_ret
    rw [HE.out]
    exact ⟨none, 0, rfl, WkRows.none _ _ _, HB1.out⟩
  · cases cf
    · have HE := Lib.hid (show R = [] by rw [HR.out]; unfold solsL; rw [← HSF.out, ← HCF.out]; rfl)
      go_enter Tryz.func7, Tryz.ntmps7
      go_wp2_with (first
        | (go_at_call 22; refine CB.out.mono ?_; rintro e w1 ⟨rfl, hb1⟩; have HB1 := Lib.hid hb1; clear hb1)
        | (go_at_call 23; refine (CH.out _ HB1.out).mono ?_; rintro e w2 ⟨rfl, rfl⟩))
      go_ret
      rw [HE.out]
      exact ⟨none, 0, rfl, WkRows.none _ _ _, HB1.out⟩
    · obtain ⟨gs, hgs⟩ : ∃ gs, gs = setOf (fs ++ []) := ⟨_, rfl⟩
      have hgs2 : gs = setOf fs := by rw [hgs, List.append_nil]
      have hbd := setOf_bound fs
      rw [← hgs2] at hbd
      have HP := Lib.hid (show R = solsOf gs ls ∧ (∀ f ∈ gs, f.2.all constOk = true) ∧ gs.Nodup ∧ ∀ l ∈ ls, l.2.2.all termOk = true from by
        have hC := consts_of HCF.out.symm
        refine ⟨?_, fun f hf => hC f ?_, ?_, (SafeB.of HSF.out.symm).terms⟩
        · rw [HR.out]
          unfold solsL
          rw [← HSF.out, ← HCF.out, hgs2]
          rfl
        · rw [hgs2] at hf
          exact (setOf_mem fs f).1 hf
        · rw [hgs2]
          exact asc_nodup (setOf_asc fs))
      have CE := Lib.hid (fun W (hW : Below w.heap.size w W) => specFactsEither_any (.slice A fs.length c) (.slice none 0 0) fs [] W (H.out.on hW) ⟨none, 0, rfl, by simp, fun h => absurd h (by simp)⟩ (by rw [List.length_nil]; omega) (by rw [show tot [] = 0 from rfl]; omega))
      rw [← hgs] at CE
      clear hgs hgs2
      go_enter Tryz.func7, Tryz.ntmps7
      go_wp2_with (first
        | (go_at_call 22; refine CB.out.mono ?_; rintro e w1 ⟨rfl, hb1⟩; have HB1 := Lib.hid hb1; clear hb1)
        | (go_at_call 23; refine (CH.out _ HB1.out).mono ?_; rintro e w2 ⟨rfl, rfl⟩)
        | (go_at_call 25; refine (CE.out _ HB1.out).mono ?_; rintro e w3 ⟨A4, c4, rfl, o4, b4⟩
           have HS := Lib.hid (l3Solutions_any (.slice A4 gs.length c4) (.slice A2 ls.length c2) gs ls R HP.out.1 w3 o4.rd (H2.out.on (bthen HB1.out b4)) (by omega) (by omega) hl HP.out.2.1 HP.out.2.2.1 HP.out.2.2.2)
           have HB3 := Lib.hid (bthen HB1.out b4)
           clear o4 b4)
        | (go_at_call 24; refine HS.out.mono ?_; rintro e w5 ⟨A5, c5, rfl, o5, b5⟩; have H5 := Lib.hid (And.intro o5 b5); clear o5 b5))
      go_ret
      exact ⟨_, _, rfl, H5.out.1.mono HB3.out.size (Nat.le_refl _), bthen HB3.out H5.out.2⟩

end Go.Proofs.YtebincnejcmocaaGreat
/-
  The walk of Solutions.
-/
namespace Go.Proofs.YtebincnejcmocaaGreat
open Go.RowKit

/-- A row of slices that make laid and a loop fills: k of them stand. -/
structure FillS (g n : Nat) (wr : World) (xss : List (List Int)) (av : List Value) : Prop where
  args : OwnArgs wr (g + 1) wr.heap.size av xss
  row : ∃ cur, wr.heap[g]? = some (.cells cur 42 (0, 0)) ∧ cur.size = n ∧ cur.toList.take xss.length = av
theorem FillS.start (w : World) (cs : Array Value) (n : Nat) (h : cs.size = n) : FillS w.heap.size n (w.alloc (.cells cs 42)) [] [] :=
  ⟨OwnArgs.nil, cs, heap_alloc_new w _, h, by simp⟩
theorem FillS.lt {g n : Nat} {wr : World} {xss : List (List Int)} {av : List Value} (h : FillS g n wr xss av) : g < wr.heap.size := by
  obtain ⟨_, cur, hg, _⟩ := h
  exact Blk.lt hg
theorem FillS.on {g n : Nat} {wr w4 : World} {xss : List (List Int)} {av : List Value} (h : FillS g n wr xss av) (hb : Below wr.heap.size wr w4) : FillS g n w4 xss av := by
  have hlt := h.lt
  obtain ⟨ha, cur, hg, h1, h2⟩ := h
  exact ⟨(ha.below hb (Nat.le_refl _)).mono (Nat.le_refl _) hb.size, cur, (hb.block g hlt).trans hg, h1, h2⟩
theorem FillS.free {g n : Nat} {wr : World} {xss : List (List Int)} {av : List Value} (h : FillS g n wr xss av) {k : Nat} (hk : k < n) : (∃ x, wr.cell? ⟨g, k, none⟩ = some x) ∧ wr.frozen? ⟨g, k, none⟩ = false := by
  obtain ⟨_, cur, hg, h1, _⟩ := h
  exact ⟨⟨cur[k]'(by omega), by rw [Blk.cell hg, Array.getElem?_eq_getElem]⟩, Blk.frozen hg k⟩
theorem FillS.step {g n k : Nat} {wr w4 : World} {xss : List (List Int)} {xs : List Int} {av : List Value} {u : Value} (h : FillS g n wr xss av) (hk : xss.length = k) (hkn : k < n) (hb : Below wr.heap.size wr w4) (hu : OwnInts w4 wr.heap.size w4.heap.size u xs) :
    FillS g n (w4.setCell ⟨g, k, none⟩ u) (xss ++ [xs]) (av ++ [u]) := by
  have hlt := h.lt
  have hl := h.args.len
  have h4 := (h.args.below hb (Nat.le_refl _)).snoc hu (by omega) hb.size
  obtain ⟨_, cur, hg, h1, h2⟩ := h
  have hg4 : Blk w4 g 42 cur := (hb.block g hlt).trans hg
  refine ⟨by simpa using h4.set (p := ⟨g, k, none⟩) (.inl (Nat.lt_succ_self g)) u, _, hg4.set_ k u, by simpa using h1, ?_⟩
  have hlen : (xss ++ [xs]).length = k + 1 := by simp [hk]
  rw [hlen, Array.toList_setIfInBounds]
  rw [hk] at h2
  apply List.ext_getElem?
  intro j
  by_cases hj : j < k
  · rw [List.getElem?_take_of_lt (by omega), List.getElem?_set_ne (by omega), List.getElem?_append_left (by omega), ← h2, List.getElem?_take_of_lt hj]
  · by_cases hj2 : j = k
    · subst hj2
      rw [List.getElem?_take_of_lt (by omega), List.getElem?_set_self (by simp; omega), List.getElem?_append_right (by omega)]
      simp [hl, hk]
    · rw [List.getElem?_eq_none (by simp; omega), List.getElem?_eq_none (by simp; omega)]
theorem FillS.done {g n : Nat} {wr : World} {xss : List (List Int)} {av : List Value} (h : FillS g n wr xss av) (hn : xss.length = n) (hm : n ≤ maxLen) : OwnRows wr g wr.heap.size (.slice (some ⟨g, 0, none⟩) xss.length n) xss := by
  have hlt := h.lt
  have hl := h.args.len
  obtain ⟨ha, cur, hg, h1, h2⟩ := h
  exact ⟨av, ha.mono (by omega) (Nat.le_refl _), ⟨by omega, .inr ⟨g, n, cur, rfl, Nat.le_refl _, hg, by omega, hm, by omega, by rw [Nat.mul_one]; exact h2⟩⟩, fun g' hg' => by simp [Value.ownBlock] at hg'; omega⟩

theorem OwnRows.nil (w : World) (lo hi : Nat) : OwnRows w lo hi (.slice none 0 0) [] := ⟨[], OwnArgs.nil, World.ownsRow_nil _ _ _ _, fun g hg => by cases hg⟩

set_option maxHeartbeats 4000000 in
set_option maxRecDepth 100000 in
theorem solutionsIn_any (v v2 : Value) (fs : List LFact) (ls : List LLit) (hsf : bodySafe ls = true) (hcf : constsL fs = true) (w : World) (h : RdFacts w w.heap.size v fs) (h2 : RdLits w w.heap.size v2 ls) (hn : fs.length ≤ 1048576) (ht : tot fs ≤ 1048576) (hl : ls.length + totL ls ≤ 1048576) :
    Calls Tryz.prog 31 #[v, v2] w fun e w' => ∃ (A : Option Addr) (c lo hi : Nat) (S : List (List Int)), e = .returned (.slice A S.length c) ∧ S = solsL fs ls ∧ w.heap.size ≤ lo ∧ hi ≤ w'.heap.size ∧ OwnW w' lo hi (.slice A S.length c) S ∧ (∀ b ∈ S, bindOk b = true) ∧ S.length ≤ 65536 ∧ Below w.heap.size w w' := by
  have H := Lib.hid h
  have H2 := Lib.hid h2
  obtain ⟨A, c, rfl, hc, _⟩ := h
  obtain ⟨A2, c2, rfl, hc2, _⟩ := h2
  have HSF := Lib.hid hsf
  have HCF := Lib.hid hcf
  have hS := SafeB.of HSF.out
  have hC := consts_of HCF.out
  have CQ := Lib.hid (questionsOf_any (.slice A fs.length c) (.slice A2 ls.length c2) fs ls w H.out H2.out (by omega))
  have HQL := Lib.hid (show (questL fs ls).length = ls.length by simp [questL])
  have HQK := Lib.hid (hS.qok hC hn ht (by omega))
  have HSQ := Lib.hid (hS.quests fs)
  clear hS hC hsf hcf
  go_enter Tryz.func31, Tryz.ntmps31
  go_wp2_with (first
    | (go_at_call 61; refine CQ.out.mono ?_; rintro e w3 ⟨g, us, rfl, hg, at3, rd3, hb3⟩
       have HB3 := Lib.hid hb3
       have CS := solve_any g ls.length w.heap.size us (questL fs ls) w3 at3 rd3 hg (by rw [HQL.out]; omega) HQK.out HSQ.out
       rw [HQL.out] at CS
       have HCS := Lib.hid CS
       have HG := Lib.hid hg
       clear CS hg at3 rd3 hb3)
    | (go_at_call 60; refine HCS.out.mono ?_; rintro e w4 ⟨A4, c4, S, rfl, own4, on4, is4⟩
       have HSO := Lib.hid (sortW_any w3.heap.size w4.heap.size (.slice A4 S.length c4) S w4 own4 (Nat.le_trans (binds_len is4.1 is4.ok) (by decide)))
       have H4 := Lib.hid (And.intro on4 is4)
       clear own4 on4 is4)
    | (go_at_call 42; refine HSO.out.mono ?_; rintro e w5 ⟨rfl, S', hp, hup, own5, only5⟩
       have H5 := Lib.hid (And.intro hp (And.intro hup (And.intro own5 only5)))
       clear hp hup own5 only5))
  go_ret
  obtain ⟨on4, is4⟩ := H4.out
  obtain ⟨hp, hup, own5, only5⟩ := H5.out
  obtain ⟨hub, is5⟩ := is4.up hp hup
  have hRS : S' = solsL fs ls := solsL_is HSF.out HCF.out hub is5
  have hlenS : S.length = S'.length := hp.length_eq.symm
  have hz3 := HB3.out.size
  have hzg := HG.out
  have hz4 := on4.size
  have hz5 := only5.size
  have B5 : Below w.heap.size w w5 := Only.then_ (Only.then_ HB3.out on4 (by omega)) only5 (by omega)
  rw [hlenS] at own5 ⊢
  exact ⟨A4, c4, w3.heap.size, w4.heap.size, S', rfl, hRS, hz3, hz5, own5, is5.ok, binds_len is5.1 is5.ok, B5⟩

set_option maxHeartbeats 4000000 in
set_option maxRecDepth 100000 in
theorem numberLists_any (hi : Nat) (A4 : Option Addr) (c4 : Nat) (S' : List (List Int)) (w5 : World) (hrd0 : RdW w5 hi (.slice A4 S'.length c4) S') (hz45 : hi ≤ w5.heap.size) (hok : ∀ b ∈ S', bindOk b = true) (hSn : S'.length ≤ 65536) :
    Calls Tryz.prog 30 #[.slice A4 S'.length c4] w5 fun e w' => ∃ A c, e = .returned (.slice A S'.length c) ∧ OwnRows w' w5.heap.size w'.heap.size (.slice A S'.length c) S' ∧ Below w5.heap.size w5 w' := by
  have HRD := Lib.hid hrd0
  have HOK := Lib.hid hok
  clear hrd0 hok
  obtain ⟨i0, hi0, hz0, hz1, hzb⟩ := info_parts Tryz.infoIntS
  have hmk := fun W => run_make_rowN (P := Tryz.prog) 26 42 i0 (.slice none 0 0) Tryz.underlying26 hi0 hz0 .i64 .i64 S'.length S'.length (Nat.le_refl _) (by rw [hzb]; omega) (by omega) W
  rw [hz1] at hmk
  simp only [Value.cells, Nat.mul_one] at hmk
  obtain ⟨cs, hcs⟩ : ∃ cs, cs = madeCells #[Value.slice none 0 0] S'.length := ⟨_, rfl⟩
  have hcsz : cs.size = S'.length := by rw [hcs]; simp [madeCells]
  have HF0 := Lib.hid (FillS.start w5 cs S'.length hcsz)
  rw [← hcs] at hmk
  clear hcs hcsz
  go_enter Tryz.func30, Tryz.ntmps30
  go_wp2_with fail
  obtain ⟨w6, hw6⟩ : ∃ w6, w6 = w5.alloc (Obj.cells cs 42) := ⟨_, rfl⟩
  have hB6 := Lib.hid (show Below w5.heap.size w5 w6 by rw [hw6]; exact below1 _ _)
  rw [← hw6] at HF0 ⊢
  clear hw6 hmk
  go_loopw [11] (fun i wr => ∃ (k : Nat) (av : List Value), k ≤ S'.length ∧ i = .int .i64 k ∧ FillS w5.heap.size S'.length wr (S'.take k) av ∧ Below w5.heap.size w5 wr) (fun i _ => S'.length - (intOf i).toNat)
  case atStart => exact ⟨0, [], Nat.zero_le _, rfl, HF0.out, hB6.out⟩
  case round =>
    obtain ⟨k, av, hk, rfl, hfi, hbe⟩ := hrel
    by_cases hlt : k < S'.length
    · have hrd := HRD.out.below hbe hz45
      obtain ⟨A7, c7, e7, _, hx⟩ := hrd
      injection e7 with e7 e9 e8
      clear e9
      subst e7 e8
      obtain ⟨b, o, rfl, _, hx⟩ := hx (by omega)
      have hck : wr.cell? ⟨b, o + k, none⟩ = some (.int .u32 ((encB S'[k] : Nat) : Int)) := hx k hlt
      have hbk := HOK.out _ (List.getElem_mem hlt)
      have CN := Lib.hid (numbers_any S'[k] hbk wr)
      have HFI := Lib.hid hfi
      have HBE := Lib.hid hbe
      have HTK := Lib.hid (take_snoc S' k hlt)
      have hgl := hfi.lt
      clear hx hfi hbe hbk
      go_upto_region 5 with fail
      go_wp2_with (first
        | (go_at_call 59; refine CN.out.mono ?_; rintro e w7 ⟨A8, c8, rfl, o8, b8⟩
           have f7 := (HFI.out.on b8).free hlt
           obtain ⟨⟨x7, hx7⟩, hf7⟩ := f7
           have HST := Lib.hid (HFI.out.step (by simp; omega) hlt b8 o8)
           have HB7 := Lib.hid (bthen HBE.out b8)
           clear o8 b8))
      go_roundw
      case rel => exact ⟨k + 1, _, by omega, by go_num, by rw [HTK.out]; exact HST.out, HB7.out.setCell (Nat.le_refl _) _⟩
      case measure => simp [intOf]; omega
    · have hkn : k = S'.length := by omega
      have HFI := Lib.hid (show FillS w5.heap.size S'.length wr S' av by rw [hkn, List.take_length] at hfi; exact hfi)
      have HBE := Lib.hid hbe
      clear hkn hfi hbe
      go_wp2_with fail
      go_ret
      have hd := HFI.out.done rfl (by unfold maxLen; omega)
      exact ⟨_, _, rfl, hd, HBE.out⟩

set_option maxHeartbeats 4000000 in
set_option maxRecDepth 100000 in
theorem implSolutions_any (v v2 : Value) (fs : List LFact) (ls : List LLit) (R : List (List Int)) (hR : R = solsL fs ls) (w : World) (h : RdFacts w w.heap.size v fs) (h2 : RdLits w w.heap.size v2 ls) (hn : fs.length ≤ 1048576) (ht : tot fs ≤ 1048576) (hl : ls.length + totL ls ≤ 1048576) :
    Calls Tryz.prog 10 #[v, v2] w fun e w' => ∃ A c, e = .returned (.slice A R.length c) ∧ OwnRows w' w.heap.size w'.heap.size (.slice A R.length c) R ∧ Below w.heap.size w w' := by
  have H := Lib.hid h
  have H2 := Lib.hid h2
  have HR := Lib.hid hR
  obtain ⟨A, c, rfl, hc, _⟩ := h
  obtain ⟨A2, c2, rfl, hc2, _⟩ := h2
  clear hR
  obtain ⟨sf, hsf⟩ : ∃ sf, sf = bodySafe ls := ⟨_, rfl⟩
  obtain ⟨cf, hcf⟩ : ∃ cf, cf = constsL fs := ⟨_, rfl⟩
  have CB := Lib.hid (implBodySafe_any (.slice A2 ls.length c2) ls w H2.out hl)
  rw [← hsf] at CB
  have CH := Lib.hid (fun W (hW : Below w.heap.size w W) => haveConstants_any (.slice A fs.length c) fs cf hcf.symm W (H.out.on hW) hn ht)
  have HSF := Lib.hid hsf
  have HCF := Lib.hid hcf
  clear hsf hcf
  cases sf
  · have HE := Lib.hid (show R = [] by rw [HR.out]; unfold solsL; rw [← HSF.out]; rfl)
    go_enter Tryz.func10, Tryz.ntmps10
    go_wp2_with (go_at_call 28; refine CB.out.mono ?_; rintro e w1 ⟨rfl, hb1⟩; have HB1 := Lib.hid hb1; clear hb1)
    go_ret
    rw [HE.out]
    exact ⟨none, 0, rfl, OwnRows.nil _ _ _, HB1.out⟩
  · cases cf
    · have HE := Lib.hid (show R = [] by rw [HR.out]; unfold solsL; rw [← HSF.out, ← HCF.out]; rfl)
      go_enter Tryz.func10, Tryz.ntmps10
      go_wp2_with (first
        | (go_at_call 28; refine CB.out.mono ?_; rintro e w1 ⟨rfl, hb1⟩; have HB1 := Lib.hid hb1; clear hb1)
        | (go_at_call 29; refine (CH.out _ HB1.out).mono ?_; rintro e w2 ⟨rfl, hb2⟩; have HB2 := Lib.hid (bthen HB1.out hb2); clear hb2))
      go_ret
      rw [HE.out]
      exact ⟨none, 0, rfl, OwnRows.nil _ _ _, HB2.out⟩
    · have CQ := Lib.hid (fun W (hW : Below w.heap.size w W) => solutionsIn_any (.slice A fs.length c) (.slice A2 ls.length c2) fs ls HSF.out.symm HCF.out.symm W (H.out.on hW) (H2.out.on hW) hn ht hl)
      go_enter Tryz.func10, Tryz.ntmps10
      go_wp2_with (first
        | (go_at_call 28; refine CB.out.mono ?_; rintro e w1 ⟨rfl, hb1⟩; have HB1 := Lib.hid hb1; clear hb1)
        | (go_at_call 29; refine (CH.out _ HB1.out).mono ?_; rintro e w2 ⟨rfl, hb2⟩; have HB2 := Lib.hid (bthen HB1.out hb2); clear hb2)
        | (go_at_call 31; refine (CQ.out _ HB2.out).mono ?_; rintro e w5 ⟨A4, c4, lo5, hi5, S', rfl, hRS, hlo5, hz45, own5, hok5, hSn, b5⟩
           have CNL := Lib.hid (numberLists_any hi5 A4 c4 S' w5 own5.rd hz45 hok5 hSn)
           have HRS := Lib.hid (show S' = R by rw [hRS, HR.out])
           have HB5 := Lib.hid (bthen HB2.out b5)
           clear hRS own5 hok5 b5 hlo5 hz45 hSn)
        | (go_at_call 30; refine CNL.out.mono ?_; rintro e w6 ⟨A6, c6, rfl, o6, b6⟩; have H6 := Lib.hid (And.intro o6 b6); clear o6 b6))
      go_ret
      obtain ⟨o6, b6⟩ := H6.out
      rw [← HRS.out]
      exact ⟨_, _, rfl, o6.mono HB5.out.size (Nat.le_refl _), bthen HB5.out b6⟩

end Go.Proofs.YtebincnejcmocaaGreat
/-
  Sizes of literals, in the one form that the laws' walks ask.
-/
namespace Go.Proofs.YtebincnejcmocaaGreat
open Go.RowKit

def szL (ls : List LLit) : Nat := ls.length + totL ls
theorem us_lit {v : Value} {l : LLit} {left : Int} {w : World} (h : RdLit w w.heap.size v l) (h0 : 0 ≤ left) (hl : left ≤ 1048576) (hn : l.2.2.length ≤ maxLen) :
    Calls Tryz.prog 21 #[v, .int .i64 left] w fun e w' => ∃ z, e = .returned (.int .i64 z) ∧ (z = -1 ∨ (0 ≤ z ∧ z + l.2.2.length = left)) ∧ Below w.heap.size w w' :=
  (szLit_any v l left w h h0 hl (by unfold maxLen at hn; omega)).mono fun _ _ ⟨he, hb⟩ => ⟨_, he, (szV_cases left l.2.2.length).imp And.left id, hb⟩
theorem us_lits {v : Value} {ls : List LLit} {left : Int} {w : World} (h : RdLits w w.heap.size v ls) (h0 : 0 ≤ left) (hl : left ≤ 1048576) (hn : ls.length ≤ maxLen) (hm : ∀ k (h : k < ls.length), ls[k].2.2.length ≤ maxLen) :
    Calls Tryz.prog 6 #[v, .int .i64 left] w fun e w' => ∃ z, e = .returned (.int .i64 z) ∧ (z = -1 ∨ (0 ≤ z ∧ z + szL ls = left)) ∧ Below w.heap.size w w' :=
  (szLitS_any v ls left w h h0 hl (by unfold maxLen at hn; omega) (fun k hk => by have := hm k hk; unfold maxLen at this; omega)).mono fun _ _ ⟨r, he, hr, hb⟩ => ⟨r, he, hr.imp id fun ⟨a, b⟩ => ⟨a, by unfold szL; omega⟩, hb⟩

end Go.Proofs.YtebincnejcmocaaGreat
/-
  Marks on integers (the words and the walks lie in MarkInts).
-/
namespace Go.Proofs.YtebincnejcmocaaGreat
open Go.RowKit

end Go.Proofs.YtebincnejcmocaaGreat
/-
  Marks on what is not read again: a store of a number over a number keeps the shape of all that lies there. The words, and the walks of markIntS, markAtom, markLitS, markRule, markRuleS, markProgram.
-/
namespace Go.Proofs.YtebincnejcmocaaGreat
open Go.RowKit

/-- Blocks outside [lo, hi) are as they were; within, numbers may have become others. -/
structure Marked (lo hi : Nat) (w w' : World) : Prop where
  only : Only lo hi w w'
  cell : ∀ p : Addr, p.block < w.heap.size → w'.cell? p = w.cell? p ∨ ∃ x y, w.cell? p = some (.int .i64 x) ∧ w'.cell? p = some (.int .i64 y)
  frozen : ∀ p : Addr, p.block < w.heap.size → w'.frozen? p = w.frozen? p

section
variable {lo hi : Nat} {w w1 w' : World}
theorem Marked.refl (lo hi : Nat) (w : World) : Marked lo hi w w := ⟨Only.refl _ _ _, fun _ _ => .inl rfl, fun _ _ => rfl⟩
theorem Marked.trans (h : Marked lo hi w w1) (k : Marked lo hi w1 w') : Marked lo hi w w' := by
  refine ⟨h.only.trans k.only, fun p hp => ?_, fun p hp => (k.frozen p (Nat.lt_of_lt_of_le hp h.only.size)).trans (h.frozen p hp)⟩
  rcases h.cell p hp with e | ⟨x, y, e1, e2⟩
  · rcases k.cell p (Nat.lt_of_lt_of_le hp h.only.size) with e' | ⟨x', y', e1', e2'⟩
    · exact .inl (e'.trans e)
    · exact .inr ⟨x', y', e ▸ e1', e2'⟩
  · rcases k.cell p (Nat.lt_of_lt_of_le hp h.only.size) with e' | ⟨x', y', e1', e2'⟩
    · exact .inr ⟨x, y, e1, e'.trans e2⟩
    · exact .inr ⟨x, y', e1, e2'⟩
theorem Marked.of_below (h : Below w.heap.size w w') : Marked lo hi w w' := ⟨Only.of_below h, fun _ hp => .inl (h.cell hp), fun _ hp => h.frozen hp⟩
theorem Marked.store {p : Addr} {x : Int} (hp : lo ≤ p.block ∧ p.block < hi) (hc : w.cell? p = some (.int .i64 x)) (y : Int) : Marked lo hi w (w.setCell p (.int .i64 y)) := by
  refine ⟨(Only.refl _ _ _).setCell hp _, fun q _ => ?_, fun q _ => ?_⟩
  · by_cases e : q = p
    · subst e
      exact .inr ⟨x, y, hc, World.cell?_setCell_same _ _ _ hc⟩
    · exact .inl (World.cell?_setCell_other _ _ _ _ (fun e' => e e'.symm))
  · unfold World.frozen? World.setCell
    rw [Array.getElem?_modify]
    by_cases e : p.block = q.block
    · rw [if_pos e]
      cases hq : w.heap[q.block]? with
      | none => rfl
      | some o => cases o <;> rfl
    · rw [if_neg e]

/-- A slice of n numbers, of blocks from lo on and below hi, that may be written. -/
def WrInts (w : World) (lo hi : Nat) (v : Value) (n : Nat) : Prop :=
  ∃ A c, v = .slice A n c ∧ (0 < n → ∃ b o, A = some ⟨b, o, none⟩ ∧ lo ≤ b ∧ b < hi ∧ ∀ k, k < n → w.frozen? ⟨b, o + k, none⟩ = false ∧ ∃ x, w.cell? ⟨b, o + k, none⟩ = some (.int .i64 x))
theorem Marked.int (h : Marked lo hi w w') {p : Addr} {x : Int} (hc : w.cell? p = some (.int .i64 x)) : ∃ y, w'.cell? p = some (.int .i64 y) := by
  rcases h.cell p (World.block_lt_of_cell? _ _ hc) with e | ⟨_, y, _, e⟩
  · exact ⟨x, e.trans hc⟩
  · exact ⟨y, e⟩
theorem Marked.slice (h : Marked lo hi w w') {p : Addr} {A : Option Addr} {n c : Nat} (hc : w.cell? p = some (.slice A n c)) : w'.cell? p = some (.slice A n c) := by
  rcases h.cell p (World.block_lt_of_cell? _ _ hc) with e | ⟨x, y, e, _⟩
  · exact e.trans hc
  · rw [hc] at e
    cases e
theorem WrInts.marked {v : Value} {n : Nat} (h : WrInts w lo hi v n) (hm : Marked lo hi w w') : WrInts w' lo hi v n := by
  obtain ⟨A, c, rfl, h⟩ := h
  refine ⟨A, c, rfl, fun hn => ?_⟩
  obtain ⟨b, o, rfl, h1, h2, hx⟩ := h hn
  refine ⟨b, o, rfl, h1, h2, fun k hk => ?_⟩
  obtain ⟨hf, x, hc⟩ := hx k hk
  exact ⟨(hm.frozen _ (World.block_lt_of_cell? _ _ hc)).trans hf, hm.int hc⟩
theorem OwnInts.wr {v : Value} {xs : List Int} (h : OwnInts w lo hi v xs) : WrInts w lo hi v xs.length := by
  have hrd := h.rd
  obtain ⟨⟨hlen, h⟩, hlt⟩ := h
  rcases h with ⟨rfl, h0⟩ | ⟨g, cap, cur, rfl, hbg, hg, hn, hm, hs, ht⟩
  · exact ⟨none, 0, by rw [h0], fun hn => absurd hn (by omega)⟩
  · refine ⟨_, cap, rfl, fun hn0 => ⟨g, 0, rfl, hbg, hlt g rfl, fun k hk => ⟨by simp [World.frozen?, hg], ?_⟩⟩⟩
    obtain ⟨A', c', e, _, hx⟩ := hrd
    injection e with e1 _ _
    obtain ⟨b, o, e2, _, hx⟩ := hx hn0
    rw [← e1] at e2
    injection e2 with e2
    injection e2 with e2 e3 _
    subst e2
    subst e3
    exact ⟨_, hx k hk⟩

def WLit (w : World) (lo hi : Nat) (u0 u1 u2 : Value) (l : LLit) : Prop := (∃ x, u0 = .int .i64 x) ∧ (∃ y, u1 = .int .i64 y) ∧ WrInts w lo hi u2 l.2.2.length
def WrLits (w : World) (lo hi : Nat) (v : Value) (ls : List LLit) : Prop := OwnRow WLit w lo hi v ls
theorem OwnLits.wr {v : Value} {ls : List LLit} (h : OwnLits w lo hi v ls) : WrLits w lo hi v ls := by
  obtain ⟨A, c, rfl, hc, h⟩ := h
  refine ⟨A, c, rfl, hc, fun hn => ?_⟩
  obtain ⟨b, o, rfl, h1, h2, hx⟩ := h hn
  refine ⟨b, o, rfl, h1, h2, fun k hk => ?_⟩
  obtain ⟨hf, u0, u1, u2, c0, c1, c2, rfl, rfl, hI⟩ := hx k hk
  exact ⟨hf, _, _, _, c0, c1, c2, ⟨_, rfl⟩, ⟨_, rfl⟩, hI.wr⟩
theorem WrLits.marked {v : Value} {ls : List LLit} (h : WrLits w lo hi v ls) (hm : Marked lo hi w w') : WrLits w' lo hi v ls := by
  obtain ⟨A, c, rfl, hc, h⟩ := h
  refine ⟨A, c, rfl, hc, fun hn => ?_⟩
  obtain ⟨b, o, rfl, h1, h2, hx⟩ := h hn
  refine ⟨b, o, rfl, h1, h2, fun k hk => ?_⟩
  obtain ⟨⟨f0, f1⟩, u0, u1, u2, c0, c1, c2, ⟨x, rfl⟩, ⟨y, rfl⟩, hI⟩ := hx k hk
  obtain ⟨x', d0⟩ := hm.int c0
  obtain ⟨y', d1⟩ := hm.int c1
  obtain ⟨A2, c2', rfl, hi⟩ := hI
  exact ⟨⟨(hm.frozen _ (World.block_lt_of_cell? _ _ c0)).trans f0, (hm.frozen _ (World.block_lt_of_cell? _ _ c1)).trans f1⟩, _, _, _, d0, d1, hm.slice c2, ⟨_, rfl⟩, ⟨_, rfl⟩, WrInts.marked ⟨A2, c2', rfl, hi⟩ hm⟩

def WRule (w : World) (lo hi : Nat) (u0 u1 u2 : Value) (r : LRule) : Prop := (∃ x, u0 = .int .i64 x) ∧ WrInts w lo hi u1 r.1.2.length ∧ WrLits w lo hi u2 r.2
def WrRules (w : World) (lo hi : Nat) (v : Value) (rs : List LRule) : Prop := OwnRow WRule w lo hi v rs
theorem OwnRules.wr {v : Value} {rs : List LRule} (h : OwnRules w lo hi v rs) : WrRules w lo hi v rs := by
  obtain ⟨A, c, rfl, hc, h⟩ := h
  refine ⟨A, c, rfl, hc, fun hn => ?_⟩
  obtain ⟨b, o, rfl, h1, h2, hx⟩ := h hn
  refine ⟨b, o, rfl, h1, h2, fun k hk => ?_⟩
  obtain ⟨hf, u0, u1, u2, c0, c1, c2, rfl, hI, hL⟩ := hx k hk
  exact ⟨hf, _, _, _, c0, c1, c2, ⟨_, rfl⟩, hI.wr, hL.wr⟩
theorem WrRules.marked {v : Value} {rs : List LRule} (h : WrRules w lo hi v rs) (hm : Marked lo hi w w') : WrRules w' lo hi v rs := by
  obtain ⟨A, c, rfl, hc, h⟩ := h
  refine ⟨A, c, rfl, hc, fun hn => ?_⟩
  obtain ⟨b, o, rfl, h1, h2, hx⟩ := h hn
  refine ⟨b, o, rfl, h1, h2, fun k hk => ?_⟩
  obtain ⟨⟨f0, f1⟩, u0, u1, u2, c0, c1, c2, ⟨x, rfl⟩, hI, hL⟩ := hx k hk
  obtain ⟨x', d0⟩ := hm.int c0
  have f1' := (hm.frozen _ (World.block_lt_of_cell? _ _ c1)).trans f1
  obtain ⟨A1, n1, rfl, hi1⟩ := hI
  obtain ⟨A2, n2, rfl, hc2, hi2⟩ := hL
  exact ⟨⟨(hm.frozen _ (World.block_lt_of_cell? _ _ c0)).trans f0, f1'⟩, _, _, _, d0, hm.slice c1, hm.slice c2, ⟨_, rfl⟩, WrInts.marked ⟨A1, n1, rfl, hi1⟩ hm, WrLits.marked ⟨A2, n2, rfl, hc2, hi2⟩ hm⟩
end

set_option maxHeartbeats 400000 in
theorem wmarkIntS_any (v : Value) (n : Nat) (k : Int) (lo hi : Nat) (w : World) (h : WrInts w lo hi v n) (hk0 : 0 ≤ k) (hk : k + n ≤ 4611686018427387904) :
    Calls Tryz.prog 35 #[v, .int .i64 k] w fun e w' => e = .returned (.int .i64 (k + n)) ∧ Marked lo hi w w' := by
  have H := Lib.hid h
  obtain ⟨A, c, rfl, _⟩ := h
  go_enter Tryz.func35, Tryz.ntmps35
  go_wp2_with (fail)
  go_loopw [1, 5] (fun m i wr => ∃ j : Nat, j ≤ n ∧ i = .int .i64 j ∧ m = .int .i64 (k + j) ∧ Marked lo hi w wr) (fun _ i _ => n - (intOf i).toNat)
  case atStart => exact ⟨0, Nat.zero_le _, rfl, by simp, Marked.refl _ _ _⟩
  case round =>
    obtain ⟨j, hj, rfl, rfl, hm⟩ := hrel
    by_cases hlt : j < n
    · obtain ⟨A', c', e, hx⟩ := H.out.marked hm
      injection e with e1 _ _
      subst e1
      obtain ⟨b, o, rfl, h1, h2, hx⟩ := hx (by omega)
      obtain ⟨hf, x, hc⟩ := hx j hlt
      have HM := Lib.hid (hm.trans (Marked.store (p := ⟨b, o + j, none⟩) ⟨h1, h2⟩ hc (k + j)))
      clear hx
      go_wp2_with (fail)
      go_roundw
      case rel => exact ⟨j + 1, by omega, by go_num, by go_num, HM.out⟩
      case measure => simp [intOf]; omega
    · have hkn : j = n := by omega
      have HK := Lib.hid (show k + (j : Int) = k + n by rw [hkn])
      clear hkn
      go_wp2_with (fail)
      go_ret
      exact ⟨ret_int HK.out, hm⟩

/-- How far the marks of literals, of a rule, of rules go. -/
def endL (k : Int) (ls : List LLit) : Int := k + 2 * (ls.length : Int) + (totL ls : Int)

set_option maxHeartbeats 1000000 in
set_option maxRecDepth 100000 in
theorem wmarkLitS_any (v : Value) (ls : List LLit) (k : Int) (lo hi : Nat) (w : World) (h : WrLits w lo hi v ls) (hk0 : 0 ≤ k) (hk : k ≤ 4294967296) (hn : ls.length ≤ 1073741824) (ht : totL ls ≤ 1073741824) :
    Calls Tryz.prog 15 #[v, .int .i64 k] w fun e w' => e = .returned (.int .i64 (endL k ls)) ∧ Marked lo hi w w' := by
  have H := Lib.hid h
  obtain ⟨A, c, rfl, _⟩ := h
  go_enter Tryz.func15, Tryz.ntmps15
  go_wp2_with (fail)
  go_loopw [1, 5] (fun m i wr => ∃ (j : Nat) (q : Int), j ≤ ls.length ∧ i = .int .i64 j ∧ m = .int .i64 q ∧ q = k + 2 * (j : Int) + (totL (ls.take j) : Int) ∧ Marked lo hi w wr) (fun _ i _ => ls.length - (intOf i).toNat)
  case atStart => exact ⟨0, k, Nat.zero_le _, rfl, rfl, by simp [totL], Marked.refl _ _ _⟩
  case round =>
    obtain ⟨j, q, hj, rfl, rfl, hq, hm⟩ := hrel
    by_cases hlt : j < ls.length
    · obtain ⟨A', c', e, _, hx⟩ := H.out.marked hm
      injection e with e1 _ e3
      subst e1
      subst e3
      obtain ⟨b, o, rfl, h1, h2, hx⟩ := hx (by omega)
      obtain ⟨⟨f0, f1⟩, u0, u1, u2, c0, c1, c2, ⟨x, rfl⟩, ⟨y, rfl⟩, hI⟩ := hx j hlt
      have m0 := Marked.store (p := ⟨b, o + j * 3, none⟩) ⟨h1, h2⟩ c0 q
      obtain ⟨y', c1'⟩ := m0.int c1
      have f1' := (m0.frozen ⟨b, o + j * 3 + 1, none⟩ (World.block_lt_of_cell? _ _ c1)).trans f1
      have m1 := Marked.store (p := ⟨b, o + j * 3 + 1, none⟩) ⟨h1, h2⟩ c1' (q + 1)
      have hI2 := hI.marked (m0.trans m1)
      obtain ⟨A3, c3, rfl, _⟩ := hI
      have c2' := (m0.trans m1).slice c2
      have htk := totL_take ls j hlt
      have hle := sum_at (fun l : LLit => l.2.2.length) ls j hlt
      have htl : totL (ls.take j) ≤ totL ls := by
        have := congrArg (fun l => (l.map (fun l : LLit => l.2.2.length)).sum) (List.take_append_drop j ls)
        simp only [List.map_append, List.sum_append] at this
        unfold totL
        omega
      have hle2 : ls[j].2.2.length ≤ totL ls := hle
      clear hle
      have hq0 : 0 ≤ q := by omega
      have hq1 : q ≤ 8589934592 := by omega
      have HI := Lib.hid hI2
      have HM := Lib.hid (hm.trans (m0.trans m1))
      have HQ := Lib.hid (show q + 1 + 1 + (ls[j].2.2.length : Int) = k + 2 * ((j + 1 : Nat) : Int) + (totL (ls.take (j + 1)) : Int) by rw [htk]; omega)
      clear hx m0 m1 hI2 htk htl hq
      go_wp2_with (fail)
      refine (wmarkIntS_any _ _ (q + 1 + 1) lo hi _ HI.out (by omega) (by omega)).mono ?_
      rintro e w3 ⟨rfl, hm3⟩
      have HM3 := Lib.hid (HM.out.trans hm3)
      go_wp2_with (fail)
      go_roundw
      case rel => exact ⟨j + 1, _, by omega, by go_num, rfl, HQ.out, HM3.out⟩
      case measure => simp [intOf]; omega
    · have hkn : j = ls.length := by omega
      have HK := Lib.hid (show q = endL k ls by rw [hq, hkn, List.take_length]; rfl)
      clear hkn hq
      go_wp2_with (fail)
      go_ret
      exact ⟨ret_int HK.out, hm⟩

def endR (k : Int) (r : LRule) : Int := endL (k + (r.1.2.length : Int)) r.2

end Go.Proofs.YtebincnejcmocaaGreat
/-
  Marks on literals, in the one form that the laws' walks ask.
-/
namespace Go.Proofs.YtebincnejcmocaaGreat
open Go.RowKit

theorem um_lits {v : Value} {ls : List LLit} {lo hi : Nat} {w : World} (k : Int) (h : OwnLits w lo hi v ls) (hk0 : 0 ≤ k) (hk : k ≤ 4294967296) (hs : szL ls ≤ 1073741824) :
    Calls Tryz.prog 15 #[v, .int .i64 k] w fun e w' => ∃ z, e = .returned (.int .i64 z) ∧ k ≤ z ∧ z ≤ k + 2 * szL ls ∧ True ∧ Only lo hi w w' :=
  (wmarkLitS_any v ls k lo hi w h.wr hk0 hk (by unfold szL at hs; omega) (by unfold szL at hs; omega)).mono fun _ _ ⟨he, hm⟩ =>
    ⟨_, he, by unfold endL; omega, by unfold endL szL; omega, trivial, hm.only⟩

end Go.Proofs.YtebincnejcmocaaGreat
/-
  Marks and sizes of lists of facts, in the one form that the laws' walks ask.
-/
namespace Go.Proofs.YtebincnejcmocaaGreat
open Go.RowKit

def szF (fs : List LFact) : Nat := fs.length + tot fs
/-- The marks from k on stand in a row of facts, and end at z. -/
def HdFacts (w : World) (lo hi : Nat) (v : Value) (fs : List LFact) (k z : Int) : Prop := OwnFacts w lo hi v (markF k fs) ∧ z = endF k fs ∧ 0 ≤ k ∧ k ≤ 4294967296 ∧ szF fs ≤ 1073741824
theorem HdFacts.below {w w' : World} {lo hi B : Nat} {v : Value} {fs : List LFact} {k z : Int} (h : HdFacts w lo hi v fs k z) (hb : Below B w w') (hB : hi ≤ B) : HdFacts w' lo hi v fs k z := ⟨h.1.below hb hB, h.2⟩
theorem HdFacts.only {w w' : World} {lo hi lo' hi' : Nat} {v : Value} {fs : List LFact} {k z : Int} (h : HdFacts w lo hi v fs k z) (ho : Only lo' hi' w w') (hd : hi ≤ lo' ∨ hi' ≤ lo) : HdFacts w' lo hi v fs k z := ⟨h.1.only ho hd, h.2⟩

theorem um_facts {v : Value} {fs : List LFact} {lo hi : Nat} {w : World} (k : Int) (h : OwnFacts w lo hi v fs) (hk0 : 0 ≤ k) (hk : k ≤ 4294967296) (hs : szF fs ≤ 1073741824) :
    Calls Tryz.prog 14 #[v, .int .i64 k] w fun e w' => ∃ z, e = .returned (.int .i64 z) ∧ k ≤ z ∧ z ≤ k + szF fs ∧ HdFacts w' lo hi v fs k z ∧ Only lo hi w w' :=
  (markFactS_any v fs k lo hi w h hk0 hk (by unfold szF at hs; omega) (by unfold szF at hs; omega)).mono fun _ _ ⟨he, ho, hg⟩ =>
    ⟨_, he, by unfold endF; omega, by unfold endF szF; omega, ⟨ho, rfl, hk0, hk, hs⟩, hg⟩

theorem us_facts {v : Value} {fs : List LFact} {left : Int} {w : World} (h : RdFacts w w.heap.size v fs) (h0 : 0 ≤ left) (hl : left ≤ 1048576) (hn : fs.length ≤ maxLen) (hm : ∀ k (h : k < fs.length), fs[k].2.length ≤ maxLen) :
    Calls Tryz.prog 5 #[v, .int .i64 left] w fun e w' => ∃ z, e = .returned (.int .i64 z) ∧ (z = -1 ∨ (0 ≤ z ∧ z + szF fs = left)) ∧ Below w.heap.size w w' :=
  (szFactS_any v fs left w h h0 hl (by unfold maxLen at hn; omega) (fun k hk => by have := hm k hk; unfold maxLen at this; omega)).mono fun _ _ ⟨r, he, hr, hb⟩ => ⟨r, he, hr.imp id fun ⟨a, b⟩ => ⟨a, by unfold szF; omega⟩, hb⟩

end Go.Proofs.YtebincnejcmocaaGreat
/-
  What comes in, opened: integers.
-/
namespace Go.Proofs.YtebincnejcmocaaGreat
open Go.ChangeShapes Go.WideShapes Go.ChangeAt Go.RowKit Go.Joins Go.Deep

theorem Tryz.own : ownKnob Tryz.prog.godebug = none := by kernel_rfl
theorem Tryz.laidOut : laidOutB Tryz.prog = true := by kernel_rfl
theorem Tryz.cells3 : Tryz.prog.cellsOf 3 = 1 := by kernel_rfl
theorem Tryz.cells42 : Tryz.prog.cellsOf 42 = 1 := by kernel_rfl

section
variable {H : Type} {enc : TypeId × Value → H} {W : World}

/-- What is known of a slice of integers that came in. -/
def InInts (W : World) (v : Value) (xs : List Int) : Prop := RdInts W W.heap.size v xs ∧ xs.length ≤ maxLen

/-- The cells of a slice of integers. -/
theorem open_inInts_cells {fuel : Nat} {v : Value} {x : DataW H × List MemPlace} (h : DataW.trod enc Tryz.prog W 0 (fun _ => true) true fuel 42 [v] = some x) : ∃ xs, InInts W v xs := by
  rcases open_ints Tryz.underlying42 Tryz.underlying3 Tryz.cells3 h with ⟨hcs, _⟩ | ⟨a, len, cap, zs, hcs, _, hl, hm, hz, _, hcell, _⟩
  · simp at hcs
    subst hcs
    exact ⟨[], ⟨none, 0, rfl, by simp, fun h => absurd h (by simp)⟩, by simp⟩
  · simp at hcs
    subst hcs
    simp at hz
    refine ⟨zs.take len, ⟨some a, cap, ?_, by simp; omega, fun hn => ?_⟩, by simp; omega⟩
    · congr 1
      simp
      omega
    · have hlen : (zs.take len).length = len := by simp; omega
      obtain ⟨b, o, rfl, hc⟩ := ints_at hcell (by omega)
      refine ⟨b, o, rfl, World.block_lt_of_cell? _ _ (hc 0 (by omega)), fun k hk => ?_⟩
      rw [hc k (by omega)]
      simp [show k < zs.length by omega]

set_option maxRecDepth 100000 in
theorem open_inInts {v : Value} {d : DataW H} {p : List MemPlace} {b0 : Nat} (hv : Value.okWide Tryz.prog W .any b0 42 v) (h : DataW.Trod enc Tryz.prog W 0 (fun _ => true) true 42 v d p) :
    ∃ xs, InInts W v xs := by
  obtain ⟨a, len, cap, rfl⟩ := okWide_slice Tryz.underlying42 hv
  obtain ⟨fuel, hf⟩ := h
  exact open_inInts_cells (by simpa [Value.cells] using hf)

/-- What is known of an int that came in. -/
def InInt (v : Value) (n : Int) : Prop := v = .int .i64 n ∧ -9223372036854775808 ≤ n ∧ n ≤ 9223372036854775807

set_option maxRecDepth 100000 in
theorem open_inInt {v : Value} {d : DataW H} {p : List MemPlace} {b0 : Nat} (hv : Value.okWide Tryz.prog W .any b0 3 v) (h : DataW.Trod enc Tryz.prog W 0 (fun _ => true) true 3 v d p) : ∃ n, InInt v n := by
  obtain ⟨n, rfl, _, _, hw⟩ := open_int Tryz.underlying3 hv h
  exact ⟨n, rfl, bounds_i64 hw⟩
end

end Go.Proofs.YtebincnejcmocaaGreat
/-
  What comes in, opened: atoms.
-/
namespace Go.Proofs.YtebincnejcmocaaGreat
open Go.ChangeShapes Go.WideShapes Go.ChangeAt Go.RowKit Go.Joins Go.Deep

theorem Tryz.cells46 : Tryz.prog.cellsOf 46 = 2 := by kernel_rfl

section
variable {H : Type} {enc : TypeId × Value → H} {W : World}

def InAtom (W : World) (v : Value) (f : LFact) : Prop := RdFact W W.heap.size v f ∧ f.2.length ≤ maxLen

set_option maxRecDepth 100000 in
theorem open_atom_cells {fuel : Nat} {v0 v1 : Value} {x : DataW H × List MemPlace} (h : DataW.trod enc Tryz.prog W 0 (fun _ => true) true fuel 46 [v0, v1] = some x) : ∃ f : LFact, v0 = .int .i64 f.1 ∧ InInts W v1 f.2 := by
  obtain ⟨y0, y1, n, _, _, h0, h1⟩ := trod_struct2 Tryz.underlying46 h
  rw [Tryz.cells3] at h0
  rw [Tryz.cells42] at h1
  obtain ⟨m, e0, _, _⟩ := DataW.trod_int Tryz.underlying3 h0
  obtain ⟨xs, hx⟩ := open_inInts_cells h1
  simp at e0
  exact ⟨(m, xs), e0, hx⟩

set_option maxRecDepth 100000 in
theorem open_inAtom {v : Value} {d : DataW H} {p : List MemPlace} {b0 : Nat} (hv : Value.okWide Tryz.prog W .any b0 46 v) (h : DataW.Trod enc Tryz.prog W 0 (fun _ => true) true 46 v d p) : ∃ f, InAtom W v f := by
  obtain ⟨cs, rfl, hsz⟩ := okWide_struct Tryz.underlying46 hv
  obtain ⟨c0, c1, rfl⟩ := array2 (hsz.trans Tryz.cells46)
  obtain ⟨fuel, hf⟩ := h
  obtain ⟨f, rfl, h1, h2⟩ := open_atom_cells (v0 := c0) (v1 := c1) (by simpa [Value.cells] using hf)
  exact ⟨f, ⟨c1, rfl, h1⟩, h2⟩
end

end Go.Proofs.YtebincnejcmocaaGreat
/-
  What comes in, opened: literals.
-/
namespace Go.Proofs.YtebincnejcmocaaGreat
open Go.ChangeShapes Go.WideShapes Go.ChangeAt Go.RowKit Go.Joins Go.Deep

theorem Tryz.cells48 : Tryz.prog.cellsOf 48 = 3 := by kernel_rfl
theorem Tryz.cells23 : Tryz.prog.cellsOf 23 = 1 := by kernel_rfl

section
variable {H : Type} {enc : TypeId × Value → H} {W : World}

def InLit (W : World) (v : Value) (l : LLit) : Prop := RdLit W W.heap.size v l ∧ l.2.2.length ≤ maxLen

def bodyFits (ls : List LLit) : Prop := ls.length ≤ maxLen ∧ ∀ k (h : k < ls.length), ls[k].2.2.length ≤ maxLen

set_option maxRecDepth 100000 in
theorem open_lit_cells {fuel : Nat} {v0 v1 v2 : Value} {x : DataW H × List MemPlace} (h : DataW.trod enc Tryz.prog W 0 (fun _ => true) true fuel 48 [v0, v1, v2] = some x) :
    ∃ l : LLit, QLit W W.heap.size v0 v1 v2 l ∧ l.2.2.length ≤ maxLen := by
  obtain ⟨y0, y1, n, _, _, h0, h1⟩ := trod_struct2 Tryz.underlying48 h
  rw [Tryz.cells3] at h0
  rw [Tryz.cells46] at h1
  obtain ⟨m, e0, _, _⟩ := DataW.trod_int Tryz.underlying3 h0
  obtain ⟨f, e1, hx⟩ := open_atom_cells (v0 := v1) (v1 := v2) h1
  simp at e0
  exact ⟨(m, f), ⟨e0, e1, hx.1⟩, hx.2⟩

/-- A slice of elements of three cells. -/
theorem open_row_cells {α : Type} [Inhabited α] {t e : TypeId} {Q : World → Nat → Value → Value → Value → α → Prop} {N : α → Prop} (ht : Tryz.prog.underlying t = some (.slice e)) (hc : Tryz.prog.cellsOf e = 3)
    (hQ : ∀ {fuel : Nat} {v0 v1 v2 : Value} {x : DataW H × List MemPlace}, DataW.trod enc Tryz.prog W 0 (fun _ => true) true fuel e [v0, v1, v2] = some x → ∃ y : α, Q W W.heap.size v0 v1 v2 y ∧ N y)
    {fuel : Nat} {v : Value} {x : DataW H × List MemPlace} (h : DataW.trod enc Tryz.prog W 0 (fun _ => true) true fuel t [v] = some x) :
    ∃ xs : List α, RdRow Q W W.heap.size v xs ∧ xs.length ≤ maxLen ∧ ∀ k (h : k < xs.length), N xs[k] := by
  rcases open_slice ht h with ⟨hcs, _⟩ | ⟨a, len, cap, m, n, D, Pl, hcs, _, hl, hm, hmm, _, hx⟩
  · simp at hcs
    subst hcs
    exact ⟨[], ⟨none, 0, rfl, by simp, fun h => absurd h (by simp)⟩, by simp, fun k h => absurd h (by simp)⟩
  · simp at hcs
    subst hcs
    simp at hmm
    subst hmm
    rw [hc] at hx
    obtain ⟨F, hF⟩ := choose_lt (α := Value × Value × Value × α) (n := m) (p := fun i q => W.cell? (a.add (i * 3)) = some q.1 ∧ W.cell? (a.add (i * 3 + 1)) = some q.2.1 ∧ W.cell? (a.add (i * 3 + 2)) = some q.2.2.1 ∧ Q W W.heap.size q.1 q.2.1 q.2.2.1 q.2.2.2 ∧ N q.2.2.2) (fun i hi => by
      obtain ⟨cs', h1, h2⟩ := hx i hi
      obtain ⟨_, hlen, hcell⟩ := World.cells?_some h1
      match cs', hlen with
      | [v0, v1, v2], _ =>
        have e0 := hcell 0 (by omega)
        have e1 := hcell 1 (by omega)
        have e2 := hcell 2 (by omega)
        rw [add_add] at e0 e1 e2
        obtain ⟨y, hy, hn⟩ := hQ h2
        exact ⟨(v0, v1, v2, y), by simpa using e0, by simpa using e1, by simpa using e2, hy, hn⟩)
    refine ⟨(List.range len).map fun i => (F i).2.2.2, ⟨some a, m, by simp, by simpa using hl, fun hn => ?_⟩, by simp; omega, fun k hk => ?_⟩
    · simp at hn
      obtain ⟨b, off, spot⟩ := a
      have hspot : spot = none := by simpa [Addr.add] using World.cell?_spot (hF 0 (by omega)).1
      subst hspot
      have hb : b < W.heap.size := by simpa [Addr.add] using World.block_lt_of_cell? _ _ (hF 0 (by omega)).1
      refine ⟨b, off, rfl, hb, fun k hk => ?_⟩
      simp at hk
      obtain ⟨c0, c1, c2, hq, _⟩ := hF k (by omega)
      rw [Go.WideShapes.add_plain] at c0 c1 c2
      exact ⟨_, _, _, by simpa using c0, by simpa [Nat.add_assoc] using c1, by simpa [Nat.add_assoc] using c2, by simpa using hq⟩
    · simp at hk ⊢
      exact (hF k (by omega)).2.2.2.2

set_option maxRecDepth 100000 in
theorem open_lits_cells {fuel : Nat} {v : Value} {x : DataW H × List MemPlace} (h : DataW.trod enc Tryz.prog W 0 (fun _ => true) true fuel 23 [v] = some x) : ∃ ls : List LLit, RdLits W W.heap.size v ls ∧ bodyFits ls :=
  open_row_cells (N := fun l : LLit => l.2.2.length ≤ maxLen) Tryz.underlying23 Tryz.cells48 (fun h => open_lit_cells h) h

def InLits (W : World) (v : Value) (ls : List LLit) : Prop := RdLits W W.heap.size v ls ∧ bodyFits ls
set_option maxRecDepth 100000 in
theorem open_inLits {v : Value} {d : DataW H} {p : List MemPlace} {b0 : Nat} (hv : Value.okWide Tryz.prog W .any b0 23 v) (h : DataW.Trod enc Tryz.prog W 0 (fun _ => true) true 23 v d p) :
    ∃ ls, InLits W v ls := by
  obtain ⟨a, len, cap, rfl⟩ := okWide_slice Tryz.underlying23 hv
  obtain ⟨fuel, hf⟩ := h
  exact open_lits_cells (by simpa [Value.cells] using hf)

set_option maxRecDepth 100000 in
theorem open_inLit {v : Value} {d : DataW H} {p : List MemPlace} {b0 : Nat} (hv : Value.okWide Tryz.prog W .any b0 48 v) (h : DataW.Trod enc Tryz.prog W 0 (fun _ => true) true 48 v d p) : ∃ l, InLit W v l := by
  obtain ⟨cs, rfl, hsz⟩ := okWide_struct Tryz.underlying48 hv
  obtain ⟨c0, c1, c2, rfl⟩ := array3 (hsz.trans Tryz.cells48)
  obtain ⟨fuel, hf⟩ := h
  obtain ⟨l, ⟨rfl, rfl, h1⟩, h2⟩ := open_lit_cells (v0 := c0) (v1 := c1) (v2 := c2) (by simpa [Value.cells] using hf)
  exact ⟨l, ⟨c2, rfl, h1⟩, h2⟩
end

end Go.Proofs.YtebincnejcmocaaGreat
/-
  What comes in, opened into the words of the Base text.
-/
namespace Go.Proofs.YtebincnejcmocaaGreat
open Go.ChangeShapes Go.WideShapes Go.ChangeAt Go.RowKit Go.Joins Go.Deep

section
variable {H : Type} {enc : TypeId × Value → H} {W : World}

def InFact (W : World) (v : Value) (f : LFact) : Prop := RdFact W W.heap.size v f ∧ f.2.length ≤ maxLen
def InFacts (W : World) (v : Value) (fs : List LFact) : Prop := RdFacts W W.heap.size v fs ∧ fs.length ≤ maxLen ∧ ∀ k (h : k < fs.length), fs[k].2.length ≤ maxLen

theorem Tryz.cells44 : Tryz.prog.cellsOf 44 = 2 := by kernel_rfl
set_option maxRecDepth 100000 in
theorem open_inFact {v : Value} {d : DataW H} {p : List MemPlace} {b0 : Nat} (hv : Value.okWide Tryz.prog W .any b0 44 v) (h : DataW.Trod enc Tryz.prog W 0 (fun _ => true) true 44 v d p) :
    ∃ f, InFact W v f := by
  obtain ⟨v0, v1, y0, y1, n, rfl, _, _, h0, h1⟩ := open_agg2 Tryz.underlying44 (by kernel_rfl) Tryz.cells44 hv h
  obtain ⟨m, e0, _, _⟩ := DataW.trod_int Tryz.underlying3 h0
  simp at e0
  subst e0
  obtain ⟨xs, hx⟩ := open_inInts_cells h1
  exact ⟨(m, xs), ⟨v1, rfl, hx.1⟩, hx.2⟩

set_option maxRecDepth 100000 in
theorem open_inFacts {v : Value} {d : DataW H} {p : List MemPlace} {b0 : Nat} (hv : Value.okWide Tryz.prog W .any b0 22 v) (h : DataW.Trod enc Tryz.prog W 0 (fun _ => true) true 22 v d p) :
    ∃ fs, InFacts W v fs := by
  obtain ⟨a, len, cap, rfl⟩ := okWide_slice Tryz.underlying22 hv
  obtain ⟨fuel, hf⟩ := h
  rcases open_slice_pairs Tryz.underlying22 Tryz.underlying44 Tryz.cells44 rfl rfl Tryz.cells3 Tryz.cells42 hf with ⟨hcs, _⟩ | ⟨a', len', cap', m, n, V0, V1, D0, D1, P0, P1, hcs, _, hl, hm, hmm, _, hx⟩
  · simp [Value.cells] at hcs
    obtain ⟨rfl, rfl, rfl⟩ := hcs
    exact ⟨[], ⟨none, 0, rfl, by simp, fun h => absurd h (by simp)⟩, by simp, fun k h => absurd h (by simp)⟩
  · simp [Value.cells] at hcs
    obtain ⟨rfl, rfl, rfl⟩ := hcs
    simp at hmm
    subst hmm
    obtain ⟨F, hF⟩ := choose_lt (α := LFact) (n := len) (p := fun i f => V0 i = .int .i64 f.1 ∧ InInts W (V1 i) f.2) (fun i hi => by
      obtain ⟨_, _, h0, h1⟩ := hx i (by omega)
      obtain ⟨q, e0, _, _⟩ := DataW.trod_int Tryz.underlying3 h0
      obtain ⟨xs, hxs⟩ := open_inInts_cells h1
      simp at e0
      exact ⟨(q, xs), e0, hxs⟩)
    refine ⟨(List.range len).map F, ⟨some a', m, by simp, by simpa using hl, fun hn => ?_⟩, by simp; omega, fun k hk => ?_⟩
    · simp at hn
      obtain ⟨b, off, spot⟩ := a'
      have hspot : spot = none := by simpa [Addr.add] using World.cell?_spot (hx 0 (by omega)).1
      subst hspot
      have hb : b < W.heap.size := by simpa [Addr.add] using World.block_lt_of_cell? _ _ (hx 0 (by omega)).1
      refine ⟨b, off, rfl, hb, fun k hk => ?_⟩
      simp at hk
      obtain ⟨c0, c1, _, _⟩ := hx k (by omega)
      obtain ⟨e0, e1⟩ := hF k hk
      rw [Go.WideShapes.add_plain, e0] at c0
      rw [Go.WideShapes.add_plain] at c1
      exact ⟨V1 k, by simpa using c0, by simpa [Nat.add_assoc] using c1, by simpa using e1.1⟩
    · simp at hk ⊢
      exact (hF k hk).2.2
end

end Go.Proofs.YtebincnejcmocaaGreat
/-
  The walk of the law on Solutions (written by wip/genlaw.py).
-/
namespace Go.Proofs.YtebincnejcmocaaGreat
open Go.RowKit

set_option maxHeartbeats 8000000 in
set_option maxRecDepth 100000 in
theorem lawSolutions_any (v0 : Value) (v1 : Value) (fs : List LFact) (ls : List LLit) (w : World) (h0 : RdFacts w w.heap.size v0 fs) (h1 : RdLits w w.heap.size v1 ls) (n0 : fs.length ≤ maxLen) (m0 : ∀ k (h : k < fs.length), fs[k].2.length ≤ maxLen) (n1 : ls.length ≤ maxLen) (m1 : ∀ k (h : k < ls.length), ls[k].2.2.length ≤ maxLen) :
    Calls Tryz.prog 3 #[v0, v1] w fun e w' => e = .returned (.bool true) ∧ Below w.heap.size w w' := by
  have H0 := Lib.hid h0
  obtain ⟨A0, c0, rfl, hc0, _⟩ := h0
  have H1 := Lib.hid h1
  obtain ⟨A1, c1, rfl, hc1, _⟩ := h1
  go_enter Tryz.func3, Tryz.ntmps3
  go_wp2_with (fail)
  refine (us_facts H0.out (by omega) (by omega) n0 m0).mono ?_
  rintro e w1 ⟨z0, rfl, hz0, hbz0⟩
  have s_w1 := hbz0.size
  have B_w1 := hbz0
  rcases hz0 with rfl | ⟨zp0, zs0⟩
  · go_wp2_with (fail)
    go_ret
    exact ⟨rfl, B_w1⟩
  have zn0 : ¬ z0 < 0 := by omega
  have r0 : szF fs ≤ 1048576 := by omega
  have zl0 : z0 ≤ 1048576 := by omega
  have ZS0 := Lib.hid zs0
  clear zs0
  go_wp2_with (fail)
  refine (us_lits (H1.out.on B_w1) (by omega) (by omega) n1 m1).mono ?_
  rintro e w2 ⟨z1, rfl, hz1, hbz1⟩
  have s_w2 := hbz1.size
  have B_w2 := bthen B_w1 hbz1
  rcases hz1 with rfl | ⟨zp1, zs1⟩
  · go_wp2_with (fail)
    go_ret
    exact ⟨rfl, B_w2⟩
  have zn1 : ¬ z1 < 0 := by omega
  have r1 : szL ls ≤ 1048576 := by omega
  have zl1 : z1 ≤ 1048576 := by omega
  have ZS1 := Lib.hid zs1
  clear zs1 zn1
  have zn1 : ¬ z1 < 0 := by omega
  obtain ⟨R0, hR0⟩ : ∃ R, R = solsL fs ls := ⟨_, rfl⟩
  have HR0 := Lib.hid hR0
  have HRs0 := Lib.hid (show szRows R0 ≤ 1048576 by rw [hR0]; exact solsL_sz fs ls)
  have R0s := HRs0.out
  clear hR0
  go_wp2_with (fail)
  refine (toFactS_any _ fs _ (H0.out.on B_w2) (by unfold szF at *; omega) (by unfold szF at *; omega)).mono ?_
  rintro e w3 ⟨P1, d1, rfl, o1, hb1⟩
  have s_w3 := hb1.size
  have B_w3 := bthen B_w2 hb1
  go_wp2_with (fail)
  refine (toLitS_any _ ls _ (H1.out.on B_w3) (by unfold szL at *; omega) (by unfold szL at *; omega)).mono ?_
  rintro e w4 ⟨P2, d2, rfl, o2, hb2⟩
  have s_w4 := hb2.size
  have tw0_4 := o1.below hb2 (by omega)
  clear o1
  have B_w4 := bthen B_w3 hb2
  go_wp2_with (fail)
  refine (specSolutions_any _ _ fs ls _ rfl _ (tw0_4.rd.more (by omega)) (o2.rd.more (by omega)) (by unfold szF at r0; omega) (by unfold szF at r0; omega) (by unfold szL at r1; omega)).mono ?_
  rw [← HR0.out]
  rintro e w5 ⟨Q3_0, f3_0, rfl, o3_0, hb3⟩
  have s_w5 := hb3.size
  have tw0_5 := tw0_4.below hb3 (by omega)
  clear tw0_4
  have tw1_5 := o2.below hb3 (by omega)
  clear o2
  have B_w5 := bthen B_w4 hb3
  go_wp2_with (fail)
  refine (toFactS_any _ fs _ (H0.out.on B_w5) (by unfold szF at *; omega) (by unfold szF at *; omega)).mono ?_
  rintro e w6 ⟨P4, d4, rfl, o4, hb4⟩
  have s_w6 := hb4.size
  have w0_6 := o3_0.below hb4 (by omega)
  clear o3_0
  have B_w6 := bthen B_w5 hb4
  go_wp2_with (fail)
  refine (toLitS_any _ ls _ (H1.out.on B_w6) (by unfold szL at *; omega) (by unfold szL at *; omega)).mono ?_
  rintro e w7 ⟨P5, d5, rfl, o5, hb5⟩
  have s_w7 := hb5.size
  have w0_7 := w0_6.below hb5 (by omega)
  clear w0_6
  have x0_7 := o4.below hb5 (by omega)
  clear o4
  have B_w7 := bthen B_w6 hb5
  go_wp2_with (fail)
  refine (implSolutions_any _ _ fs ls _ rfl _ (x0_7.rd.more (by omega)) (o5.rd.more (by omega)) (by unfold szF at r0; omega) (by unfold szF at r0; omega) (by unfold szL at r1; omega)).mono ?_
  rw [← HR0.out]
  rintro e w8 ⟨Q6_0, f6_0, rfl, o6_0, hb6⟩
  have s_w8 := hb6.size
  have w0_8 := w0_7.below hb6 (by omega)
  clear w0_7
  have x0_8 := x0_7.below hb6 (by omega)
  clear x0_7
  have x1_8 := o5.below hb6 (by omega)
  clear o5
  have B_w8 := bthen B_w7 hb6
  go_wp2_with (fail)
  refine (eqIntSS_any _ _ R0 R0 _ (o6_0.rd.more (by omega)) (w0_8.rd.more (by omega)) rfl (by omega)).mono ?_
  rintro e w9 ⟨rfl, hb7⟩
  rw [show decide (R0 = R0) = true by simp]
  have s_w9 := hb7.size
  have w0_9 := w0_8.below hb7 (by omega)
  clear w0_8
  have x0_9 := x0_8.below hb7 (by omega)
  clear x0_8
  have x1_9 := x1_8.below hb7 (by omega)
  clear x1_8
  have g0_9 := o6_0.below hb7 (by omega)
  clear o6_0
  have B_w9 := bthen B_w8 hb7
  go_wp2_with (fail)
  refine (toFactS_any _ fs _ (H0.out.on B_w9) (by unfold szF at *; omega) (by unfold szF at *; omega)).mono ?_
  rintro e w10 ⟨P8, d8, rfl, o8, hb8⟩
  have s_w10 := hb8.size
  have w0_10 := w0_9.below hb8 (by omega)
  clear w0_9
  have x0_10 := x0_9.below hb8 (by omega)
  clear x0_9
  have x1_10 := x1_9.below hb8 (by omega)
  clear x1_9
  have g0_10 := g0_9.below hb8 (by omega)
  clear g0_9
  have B_w10 := bthen B_w9 hb8
  go_wp2_with (fail)
  refine (eqFactS_any _ _ fs fs _ (x0_10.rd.more (by omega)) (o8.rd.more (by omega)) (by unfold szF at *; omega) (by unfold szF at *; omega) (by unfold szF at *; omega) (by unfold szF at *; omega)).mono ?_
  rintro e w11 ⟨rfl, hb9⟩
  rw [show decide (fs = fs) = true by simp]
  have s_w11 := hb9.size
  have w0_11 := w0_10.below hb9 (by omega)
  clear w0_10
  have x0_11 := x0_10.below hb9 (by omega)
  clear x0_10
  have x1_11 := x1_10.below hb9 (by omega)
  clear x1_10
  have g0_11 := g0_10.below hb9 (by omega)
  clear g0_10
  have B_w11 := bthen B_w10 hb9
  go_wp2_with (fail)
  refine (toLitS_any _ ls _ (H1.out.on B_w11) (by unfold szL at *; omega) (by unfold szL at *; omega)).mono ?_
  rintro e w12 ⟨P10, d10, rfl, o10, hb10⟩
  have s_w12 := hb10.size
  have w0_12 := w0_11.below hb10 (by omega)
  clear w0_11
  have x0_12 := x0_11.below hb10 (by omega)
  clear x0_11
  have x1_12 := x1_11.below hb10 (by omega)
  clear x1_11
  have g0_12 := g0_11.below hb10 (by omega)
  clear g0_11
  have B_w12 := bthen B_w11 hb10
  go_wp2_with (fail)
  refine (eqLitS_any _ _ ls ls _ (x1_12.rd.more (by omega)) (o10.rd.more (by omega)) (by unfold szL at *; omega) (by unfold szL at *; omega) (by unfold szL at *; omega) (by unfold szL at *; omega)).mono ?_
  rintro e w13 ⟨rfl, hb11⟩
  rw [show decide (ls = ls) = true by simp]
  have s_w13 := hb11.size
  have w0_13 := w0_12.below hb11 (by omega)
  clear w0_12
  have x0_13 := x0_12.below hb11 (by omega)
  clear x0_12
  have x1_13 := x1_12.below hb11 (by omega)
  clear x1_12
  have g0_13 := g0_12.below hb11 (by omega)
  clear g0_12
  have B_w13 := bthen B_w12 hb11
  go_wp2_with (fail)
  refine (um_facts 1 x0_13 (by omega) (by omega) (by omega)).mono ?_
  rintro e w14 ⟨k12, rfl, ka12, kb12, _, on12⟩
  have s_w14 := on12.size
  have w0_14 := w0_13.only on12 (by first | exact .inl (by omega) | exact .inr (by omega))
  clear w0_13
  have x1_14 := x1_13.only on12 (by first | exact .inl (by omega) | exact .inr (by omega)) (by omega)
  clear x1_13
  have g0_14 := g0_13.only on12 (by first | exact .inl (by omega) | exact .inr (by omega))
  clear g0_13
  have B_w14 := Only.then_ B_w13 on12 (by omega)
  go_wp2_with (fail)
  refine (um_lits k12 x1_14 (by omega) (by omega) (by omega)).mono ?_
  rintro e w15 ⟨k13, rfl, ka13, kb13, _, on13⟩
  have s_w15 := on13.size
  have w0_15 := w0_14.only on13 (by first | exact .inl (by omega) | exact .inr (by omega))
  clear w0_14
  have g0_15 := g0_14.only on13 (by first | exact .inl (by omega) | exact .inr (by omega))
  clear g0_14
  have B_w15 := Only.then_ B_w14 on13 (by omega)
  have kn : ¬ k13 < 0 := by omega
  have kd : decide (k13 < 0) = false := by simp; omega
  go_wp2_with (fail)
  refine (eqIntSS_any _ _ R0 R0 _ (g0_15.rd.more (by omega)) (w0_15.rd.more (by omega)) rfl (by omega)).mono ?_
  rintro e w16 ⟨rfl, hb14⟩
  rw [show decide (R0 = R0) = true by simp]
  have s_w16 := hb14.size
  have w0_16 := w0_15.below hb14 (by omega)
  clear w0_15
  have g0_16 := g0_15.below hb14 (by omega)
  clear g0_15
  have B_w16 := bthen B_w15 hb14
  go_wp2_with (fail)
  refine (um_rows 1 g0_16 (by omega) (by omega) (by have := HRs0.out; omega)).mono ?_
  rintro e w17 ⟨m15, rfl, ma15, mb15, hd15, on15⟩
  have mb15' := HRs0.out
  have s_w17 := on15.size
  have w0_17 := w0_16.only on15 (by first | exact .inl (by omega) | exact .inr (by omega))
  clear w0_16
  have B_w17 := Only.then_ B_w16 on15 (by omega)
  have mn : ¬ m15 < 0 := by omega
  have me : (m15 != m15) = false := by simp
  go_wp2_with (fail)
  refine (uh_rows hd15 (by omega)).mono ?_
  rintro e w18 ⟨rfl, hb16⟩
  have s_w18 := hb16.size
  have w0_18 := w0_17.below hb16 (by omega)
  clear w0_17
  have d0_18 := hd15.below hb16 (by omega)
  clear hd15
  have B_w18 := bthen B_w17 hb16
  go_wp2_with (fail)
  refine (toFactS_any _ fs _ (H0.out.on B_w18) (by unfold szF at *; omega) (by unfold szF at *; omega)).mono ?_
  rintro e w19 ⟨P17, d17, rfl, o17, hb17⟩
  have s_w19 := hb17.size
  have w0_19 := w0_18.below hb17 (by omega)
  clear w0_18
  have d0_19 := d0_18.below hb17 (by omega)
  clear d0_18
  have B_w19 := bthen B_w18 hb17
  go_wp2_with (fail)
  refine (toLitS_any _ ls _ (H1.out.on B_w19) (by unfold szL at *; omega) (by unfold szL at *; omega)).mono ?_
  rintro e w20 ⟨P18, d18, rfl, o18, hb18⟩
  have s_w20 := hb18.size
  have w0_20 := w0_19.below hb18 (by omega)
  clear w0_19
  have d0_20 := d0_19.below hb18 (by omega)
  clear d0_19
  have th0_20 := o17.below hb18 (by omega)
  clear o17
  have B_w20 := bthen B_w19 hb18
  go_wp2_with (fail)
  refine (implSolutions_any _ _ fs ls _ rfl _ (th0_20.rd.more (by omega)) (o18.rd.more (by omega)) (by unfold szF at r0; omega) (by unfold szF at r0; omega) (by unfold szL at r1; omega)).mono ?_
  rw [← HR0.out]
  rintro e w21 ⟨Q19_0, f19_0, rfl, o19_0, hb19⟩
  have s_w21 := hb19.size
  have w0_21 := w0_20.below hb19 (by omega)
  clear w0_20
  have d0_21 := d0_20.below hb19 (by omega)
  clear d0_20
  have th0_21 := th0_20.below hb19 (by omega)
  clear th0_20
  have th1_21 := o18.below hb19 (by omega)
  clear o18
  have B_w21 := bthen B_w20 hb19
  go_wp2_with (fail)
  refine (eqIntSS_any _ _ R0 R0 _ (o19_0.rd.more (by omega)) (w0_21.rd.more (by omega)) rfl (by omega)).mono ?_
  rintro e w22 ⟨rfl, hb20⟩
  rw [show decide (R0 = R0) = true by simp]
  have s_w22 := hb20.size
  have w0_22 := w0_21.below hb20 (by omega)
  clear w0_21
  have d0_22 := d0_21.below hb20 (by omega)
  clear d0_21
  have h0_22 := o19_0.below hb20 (by omega)
  clear o19_0
  have B_w22 := bthen B_w21 hb20
  go_wp2_with (fail)
  refine (uh_rows d0_22 (by omega)).mono ?_
  rintro e w23 ⟨rfl, hb21⟩
  have s_w23 := hb21.size
  have w0_23 := w0_22.below hb21 (by omega)
  clear w0_22
  have d0_23 := d0_22.below hb21 (by omega)
  clear d0_22
  have h0_23 := h0_22.below hb21 (by omega)
  clear h0_22
  have B_w23 := bthen B_w22 hb21
  go_wp2_with (fail)
  go_ret
  exact ⟨rfl, B_w23⟩

theorem lawSolutions_in (v0 : Value) (v1 : Value) (fs : List LFact) (ls : List LLit) (w : World) (h0 : InFacts w v0 fs) (h1 : InLits w v1 ls) : Calls Tryz.prog 3 #[v0, v1] w fun e w' => e = .returned (.bool true) ∧ Below w.heap.size w w' :=
  lawSolutions_any v0 v1 fs ls w h0.1 h1.1 h0.2.1 h0.2.2 h1.2.1 h1.2.2

end Go.Proofs.YtebincnejcmocaaGreat
namespace Go.Proofs.YtebincnejcmocaaGreat
open Go.ChangeShapes Go.WideShapes Go.ChangeAt Go.RowKit

set_option maxRecDepth 100000 in
theorem fnExactSolutions_lifted (os : Os) (started : os.Started) (H : Type) (enc : TypeId × Value → H) :
    ReturnsInHanded {} Tryz.checked os 3 .any (Rows.fnExactSolutionsSpec.pre6 enc Tryz.prog Tryz.f3 Rows.fnExactSolutionsRow.domain false) (Rows.fnExactSolutionsSpec.post enc Tryz.prog Tryz.f3 false true false false) := by
  refine returnsInHanded_of_change (C := Tryz.checked) Tryz.own started (by kernel_rfl) Tryz.func3
    (ChangeSpec.witness6 (enc := enc) (C := Tryz.checked) false ⟨#[], #[.slice none 0 0, .slice none 0 0], []⟩ 8 (by kernel_rfl) (by kernel_rfl) (by kernel_rfl) (by kernel_rfl)) ?_
  intro W base args ds gs before hval0 hW hcnd _
  have hval : ∀ (j : Nat) t v, Tryz.f3.params[j]? = some t → args[j]? = some v → Value.okWide Tryz.prog W .any base t v := hval0
  have hW' := hW
  obtain ⟨p, q, hA0, hV, rfl, hfz, hnd⟩ := hW
  have hA : DataW.TrodAll enc Tryz.prog W 0 (fun _ => true) true Tryz.f3.params.toList args.toList ds p := hA0
  rw [Tryz.params3] at hA hval
  obtain ⟨v0, vs0, d0, ds0, p0, q0, hargs, rfl, rfl, h0, r0⟩ := trodAll_cons hA
  obtain ⟨v1, vs1, d1, ds1, p1, q1, rfl, rfl, rfl, h1, r1⟩ := trodAll_cons r0
  obtain ⟨rfl, rfl, rfl⟩ := trodAll_nil r1
  obtain rfl : args = #[v0, v1] := by cases args; simp_all
  obtain ⟨rfl, rfl⟩ := trodVars_none hV
  have lt0 : ∀ x ∈ p0, x.block < W.heap.size := by obtain ⟨m, hm⟩ := h0; exact DataW.trod_lt m _ _ _ hm
  obtain ⟨x0, w0⟩ := open_inFacts (hval 0 22 v0 rfl rfl) h0
  have lt1 : ∀ x ∈ p1, x.block < W.heap.size := by obtain ⟨m, hm⟩ := h1; exact DataW.trod_lt m _ _ _ hm
  obtain ⟨x1, w1⟩ := open_inLits (hval 1 23 v1 rfl rfl) h1
  clear hA0 hval0
  refine (lawSolutions_in v0 v1 x0 x1 W w0 w1).mono fun e W' ⟨he, bel⟩ => ?_
  subst he
  exact ⟨_, rfl, _, _, _, [], _, [], hW', trodAll_mk1 (shut_bool Tryz.underlying4 _), (trodAll_cons_mk (Below.trod Tryz.laidOut (by kernel_rfl) (of_decide_eq_true (by kernel_rfl)) h0 bel lt0) (trodAll_cons_mk (Below.trod Tryz.laidOut (by kernel_rfl) (of_decide_eq_true (by kernel_rfl)) h1 bel lt1) trodAll_mk0)), rfl, bel.frame _, fun h => by cases h⟩

theorem fnExactSolutions_holds : Rows.FnExactSolutionsSaid :=
  OpenClaim.holds_of_wide 3 Tryz.f3 rfl rfl rfl rfl rfl rfl rfl ⟨rfl, rfl, rfl, rfl, rfl⟩ rfl rfl rfl rfl rfl (by kernel_rfl) Tryz.func3 (by kernel_rfl)
    (of_decide_eq_true (by kernel_rfl)) (by unfold Func.isWrapper; rw [if_neg (of_decide_eq_false (by kernel_rfl))]; exact ⟨rfl, rfl⟩)
    (fun os started H enc _ => fnExactSolutions_lifted os started H enc)

end Go.Proofs.YtebincnejcmocaaGreat
