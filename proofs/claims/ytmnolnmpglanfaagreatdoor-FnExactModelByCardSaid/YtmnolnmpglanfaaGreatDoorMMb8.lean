/-
  Texts that the claim's last one imports, laid together: part 8 of 15. No condition of its own.
-/
import Derived.Deep.RegionHeld3
import Derived.Deep.DeepCutAuto
import Derived.Deep.RegionWith
import Derived.OrdersHeld
import Derived.StillTailTactics
import Derived.Deep.QuietTactic
import Derived.BigQuiet
import Derived.Test.YtmnolnmpglanfaaGreatDoorMMb1
import Derived.Test.YtmnolnmpglanfaaGreatDoorMMb2
import Derived.Test.YtmnolnmpglanfaaGreatDoorMMb3
import Derived.Test.YtmnolnmpglanfaaGreatDoorMMb4
import Derived.Test.YtmnolnmpglanfaaGreatDoorMMb6
import Derived.Test.YtmnolnmpglanfaaGreatDoorMMb7
namespace Go.Proofs.YtmnolnmpglanfaaGreatDoor
open Go.RowKit
def flatR : List LLit -> List Value -> List Value
 | l :: ls, u :: us => .int .i64 l.1 :: .int .i64 l.2.1 :: u :: flatR ls us
 | _, _ => []
theorem flatR_snoc : ∀ (ls : List LLit) (us : List Value) (_ : us.length = ls.length) (l : LLit) (u : Value), flatR (ls ++ [l]) (us ++ [u]) = flatR ls us ++ [.int .i64 l.1, .int .i64 l.2.1, u]
 | [], [], _, l, u => by simp [flatR]
 | [], u' :: us, h, _, _ => by simp at h
 | l :: ls, [], h, _, _ => by simp at h
 | l :: ls, u :: us, h, m, b => by simp [flatR, flatR_snoc ls us (by simpa using h) m b]
theorem flatR_at : ∀ (ls : List LLit) (us : List Value) (_ : us.length = ls.length) (k : Nat) (hk : k < ls.length) (hk' : k < us.length),
 (flatR ls us)[k * 3]? = some (.int .i64 ls[k].1) /\ (flatR ls us)[k * 3 + 1]? = some (.int .i64 ls[k].2.1) /\ (flatR ls us)[k * 3 + 2]? = some us[k]
 | l :: ls, u :: us, h, 0, _, _ => ⟨rfl, rfl, rfl⟩
 | l :: ls, u :: us, h, k + 1, h1, h2 => by
  have ih := flatR_at ls us (by simpa using h) k (by simpa using h1) (by simpa using h2)
  have e : ∀ r, (flatR (l :: ls) (u :: us))[(k + 1) * 3 + r]? = (flatR ls us)[k * 3 + r]? := fun r => by
   rw [show (k + 1) * 3 + r = (k * 3 + r) + 1 + 1 + 1 by omega]
   rfl
  have e0 := e 0
  rw [Nat.add_zero, Nat.add_zero] at e0
  rw [e0, e 1, e 2]
  exact ih
structure ColLR (w wr : World) (ls : List LLit) (A : Option Addr) (c : Nat) (us : List Value) : Prop where
 below : Below w.heap.size w wr
 len : us.length = ls.length
 inn : ∀ i (h : i < ls.length) (h' : i < us.length), RdInts wr w.heap.size us[i] ls[i].2.2
 row : wr.ownsRow w.heap.size 191 3 (.slice A ls.length c) ls.length (flatR ls us)
theorem ColLR.empty (w wr : World) (hb : Below w.heap.size w wr) : ColLR w (wr.alloc (.cells #[] 191)) [] (some ⟨wr.heap.size, 0, none⟩) 0 [] :=
 ⟨hb.alloc hb.size _, rfl, fun i h => absurd h (by simp), World.ownsRow_made wr #[] 0 hb.size (by decide) rfl⟩
theorem ColLR.on {w wr w2 : World} {ls : List LLit} {A : Option Addr} {c : Nat} {us : List Value} (h : ColLR w wr ls A c us) (hb : Below wr.heap.size wr w2) : ColLR w w2 ls A c us :=
 ⟨bthen h.below hb, h.len, fun i a b => (h.inn i a b).below hb h.below.size, ownsRow_below h.row (fun g hg => (h.row.lt g hg).2) hb (Nat.le_refl _)⟩
theorem ColLR.push {w wr w2 w4 : World} {ls ls' : List LLit} {A : Option Addr} {c g cap : Nat} {l : LLit} {u : Value} {o : Obj} {us : List Value} (h : ColLR w wr ls A c us) (e : ls' = ls ++ [l]) (hb : Below wr.heap.size wr w2) (hu : RdInts w2 w.heap.size u l.2.2)
 (hg : (w2.alloc o).grownBy w4 (Value.slice A ls.length c).ownBlock) (hown : w4.ownsRow w.heap.size 191 3 (.slice (some ⟨g, 0, none⟩) (ls.length + 1) cap) (ls.length + 1) (flatR ls us ++ [.int .i64 l.1, .int .i64 l.2.1, u])) :
 ColLR w w4 ls' (some ⟨g, 0, none⟩) cap (us ++ [u]) /\ ls.length + 1 = ls'.length := by
 subst e
 have h2 := h.on hb
 have hl : (ls ++ [l]).length = ls.length + 1 := by simp
 have hB : Below w.heap.size w2 w4 := by
  have hg' := grown_from_alloc hg
  refine ⟨hg'.os, hg'.tape, hg'.output, hg'.size, fun k hk => hg'.block k (by have := h2.below.size; omega) (fun e => ?_)⟩
  have := (h2.row.lt k e.symm).1
  omega
 refine ⟨⟨h2.below.trans hB, by simp [h.len], fun i h1 h3 => ?_, by rw [hl, flatR_snoc ls us h.len]; exact hown⟩, hl.symm⟩
 by_cases e : i < ls.length
 ·have e' : i < us.length := by rw [h.len]; exact e
  rw [List.getElem_append_left e', List.getElem_append_left e]
  exact (h2.inn i e e').below hB (Nat.le_refl _)
 ·have e2 : i = ls.length := by simp at h1; omega
  subst e2
  have := h.len
  simp [<- this]
  exact hu.below hB (Nat.le_refl _)
theorem ColLR.rd {w wr : World} {ls : List LLit} {A : Option Addr} {c : Nat} {us : List Value} (h : ColLR w wr ls A c us) : RdLits wr wr.heap.size (.slice A ls.length c) ls := by
 have hcells := @World.ownsRow.cells wr w.heap.size 191 3 (.slice A ls.length c) ls.length (flatR ls us) h.row
 have hl := h.len
 have hsz := h.below.size
 obtain ⟨hfl, hr⟩ := h.row
 rcases hr with ⟨e, h0⟩ | ⟨g, cap, cur, e, hb, hgg, hn, _⟩
 ·have : ls = [] := List.eq_nil_of_length_eq_zero h0
  subst this
  injection e with e1 _ e3
  subst e1 e3
  exact ⟨none, 0, rfl, by simp, fun h => absurd h (by simp)⟩
 ·injection e with e1 _ e3
  subst e1 e3
  refine ⟨_, c, rfl, hn, fun _ => ⟨g, 0, rfl, Blk.lt hgg, fun k hk => ?_⟩⟩
  obtain ⟨c0, c1, c2⟩ := flatR_at ls us hl k hk (by omega)
  have d0 := hcells (g := g) rfl _ _ c0
  have d1 := hcells (g := g) rfl _ _ c1
  have d2 := hcells (g := g) rfl _ _ c2
  rw [Go.WideShapes.add_plain] at d0 d1 d2
  exact ⟨_, _, _, d0, d1, d2, rfl, rfl, (h.inn k hk (by omega)).more hsz⟩
theorem news3s (w : World) (x y z : Value) (t : TypeId) (n : Nat) (hn : w.heap.size = n) : ∀ j u, [x, y, z][j]? = some u -> (w.alloc (.cells #[x, y, z] t)).cell? ((⟨n, 0, none⟩ : Addr).add j) = some u :=
 hn ▸ World.news_of_block (cs := #[x, y, z]) (heap_alloc_new w _)
theorem totL_sub : ∀ {xs ys : List LLit}, xs.Sublist ys -> totL xs <= totL ys
 | _, _, .slnil => Nat.le_refl _
 | _, _, .cons a h => by have := totL_sub h; simp only [totL, List.map_cons, List.sum_cons] at this ⊢; omega
 | _, _, .cons_cons a h => by have := totL_sub h; simp only [totL, List.map_cons, List.sum_cons] at this ⊢; omega
def nextTo (a : LFact) (fs : List LFact) (B : List (List Int)) (k j : Nat) : List (List Int) := nextL a fs (B.take k) ++ (fs.take j).filterMap fun f => matchL a f (B.getD k [])
theorem nextTo_none {a : LFact} {fs : List LFact} {B : List (List Int)} {k j : Nat} (hj : j < fs.length) (hk : k < B.length) (e : matchL a fs[j] B[k] = none) : nextTo a fs B k (j + 1) = nextTo a fs B k j := by
 unfold nextTo
 rw [take_snoc fs j hj, List.filterMap_append]
 simp [hk, e]
theorem nextTo_some {a : LFact} {fs : List LFact} {B : List (List Int)} {k j : Nat} {r : List Int} (hj : j < fs.length) (hk : k < B.length) (e : matchL a fs[j] B[k] = some r) : nextTo a fs B k (j + 1) = nextTo a fs B k j ++ [r] := by
 unfold nextTo
 rw [take_snoc fs j hj, List.filterMap_append]
 simp [hk, e]
theorem nextTo_row {a : LFact} {fs : List LFact} {B : List (List Int)} {k : Nat} (hk : k < B.length) : nextTo a fs B k fs.length = nextTo a fs B (k + 1) 0 := by
 have hd : B.getD k [] = B[k] := by simp [hk]
 unfold nextTo nextL
 rw [List.take_length, take_snoc B k hk, hd, List.flatMap_append]
 simp
theorem nextTo_start (a : LFact) (fs : List LFact) (B : List (List Int)) : nextTo a fs B 0 0 = [] := by simp [nextTo, nextL]
theorem nextTo_end (a : LFact) (fs : List LFact) (B : List (List Int)) : nextTo a fs B B.length 0 = nextL a fs B := by simp [nextTo]
theorem nextTo_len {a : LFact} {fs : List LFact} {B : List (List Int)} {k j : Nat} (hk : k < B.length) : (nextTo a fs B k j).length <= (nextL a fs B).length := by
 have e : B = B.take k ++ B[k] :: B.drop (k + 1) := by
  rw [<- List.drop_eq_getElem_cons hk, List.take_append_drop]
 have h1 : (nextL a fs B).length = (nextL a fs (B.take k)).length + ((fs.filterMap fun f => matchL a f B[k]).length + (nextL a fs (B.drop (k + 1))).length) := by
  have key : ∀ (B1 B2 : List (List Int)) (b : List Int), (nextL a fs (B1 ++ b :: B2)).length = (nextL a fs B1).length + ((fs.filterMap fun f => matchL a f b).length + (nextL a fs B2).length) := fun B1 B2 b => by
   unfold nextL
   rw [List.flatMap_append, List.flatMap_cons, List.length_append, List.length_append]
  have := key (B.take k) (B.drop (k + 1)) B[k]
  rwa [<- e] at this
 have h2 : ((fs.take j).filterMap fun f => matchL a f (B.getD k [])).length <= (fs.filterMap fun f => matchL a f B[k]).length := by
  have hd : B.getD k [] = B[k] := by simp [hk]
  rw [hd]
  exact ((List.take_sublist j fs).filterMap _).length_le
 unfold nextTo
 rw [List.length_append]
 omega
theorem WkRows.one {w : World} {lo : Nat} {u : Value} {xs : List Int} (h : OwnInts w lo w.heap.size u xs) (hl : lo <= w.heap.size) : WkRows (w.alloc (.cells #[u] 22)) lo (w.heap.size + 1) (.slice (some ⟨w.heap.size, 0, none⟩) 1 1) [xs] :=
 ⟨[u], ⟨rfl, fun i h1 h2 => by
   have : i = 0 := by simp at h1; omega
   subst this
   exact (h.below (below1 w _) (Nat.le_refl _)).mono (Nat.le_refl _) (by omega)⟩, ⟨rfl, .inr ⟨w.heap.size, 1, _, rfl, hl, heap_alloc_new w _, Nat.le_refl _, by decide, rfl, rfl⟩⟩, fun g hg => by simp [Value.ownBlock] at hg; omega⟩
theorem WkRows.empty (w : World) : WkRows (w.alloc (.cells #[] 22)) w.heap.size (w.heap.size + 1) (.slice (some ⟨w.heap.size, 0, none⟩) 0 0) [] :=
 ⟨[], ⟨rfl, fun i h => absurd h (by simp)⟩, World.ownsRow_made w #[] 0 (Nat.le_refl _) (by decide) rfl, fun g hg => by simp [Value.ownBlock] at hg; omega⟩
structure SolAt (w0 wr : World) (gs : List LFact) (ls : List LLit) (k : Nat) (Ab : Option Addr) (cb : Nat) (Ar : Option Addr) (cr : Nat) (us : List Value) : Prop where
 below : Below w0.heap.size w0 wr
 binds : WkRows wr w0.heap.size wr.heap.size (.slice Ab (bindsTo gs ls k).length cb) (bindsTo gs ls k)
 rest : ColLR w0 wr (restTo ls k) Ar cr us
set_option maxHeartbeats 16000000 in
set_option maxRecDepth 100000 in
theorem l3Solutions_any (v v2 : Value) (gs : List LFact) (ls : List LLit) (R : List (List Int)) (hR : R = solsOf gs ls) (w : World) (h : RdFacts w w.heap.size v gs) (h2 : RdLits w w.heap.size v2 ls) (hn : gs.length <= 1048576) (ht : tot gs <= 1048576) (hl : ls.length + totL ls <= 1048576)
 (hc : ∀ f ∈ gs, f.2.all constOk = true) (hnd : gs.Nodup) (hT : ∀ l ∈ ls, l.2.2.all termOk = true) :
 Calls Tryz.prog 152 #[v, v2] w fun e w' => ∃ A c, e = .returned (.slice A R.length c) /\ WkRows w' w.heap.size w'.heap.size (.slice A R.length c) R /\ Below w.heap.size w w' := by
 obtain ⟨i0, hi0, hz0, hz1, hz2⟩ := info_parts Tryz.infoIntS
 obtain ⟨i1, hi1, hy0, hy1, hy2⟩ := info_parts Tryz.infoLit
 have HR := Lib.hid hR
 have HC := Lib.hid hc
 have HT := Lib.hid hT
 have HOK := Lib.hid (fun k (hk : k <= ls.length) => bindsTo_ok hc hnd hT hk)
 have H00 := Lib.hid (And.intro h h2)
 obtain ⟨A, c, rfl, hcA, _⟩ := h
 obtain ⟨A2, c2, rfl, hc2, _⟩ := h2
 clear hR hc hT hnd
 go_enter Tryz.func152, Tryz.ntmps152
 go_upto_region 2 with fail
 have HO0 := Lib.hid (WkRows.empty w)
 obtain ⟨wA, hwA⟩ : ∃ wA, wA = w.alloc (Obj.cells #[] 22) := ⟨_, rfl⟩
 have hBA := Lib.hid (show Below w.heap.size w wA by rw [hwA]; exact below1 _ _)
 have hsA : wA.heap.size = w.heap.size + 1 := by rw [hwA]; simp
 rw [<- hwA] at HO0 ⊢
 clear hwA
 have HSA := Lib.hid hsA
 have hsA2 : w.heap.size < wA.heap.size := by omega
 clear hsA
 have H := Lib.hid (H00.out.1.on hBA.out)
 have H2 := Lib.hid (H00.out.2.on hBA.out)
 clear H00
 go_upto_region 3 with (first
  | (go_at_call 127; refine (l3None_any _).mono ?_; rintro e w2 ⟨A4, c4, rfl, o4, b4⟩; have H4 := Lib.hid (And.intro o4 b4); clear o4 b4))
 obtain ⟨w3, hw3⟩ : ∃ w3, w3 = w2.alloc (Obj.cells #[Value.slice A4 4 c4] 22) := ⟨_, rfl⟩
 have HS0 := Lib.hid (show Below wA.heap.size wA w3 /\ WkRows w3 wA.heap.size w3.heap.size (.slice (some ⟨w2.heap.size, 0, none⟩) 1 1) [noneB] from by
  obtain ⟨o4, b4⟩ := H4.out
  refine ⟨by rw [hw3]; exact bthen b4 (below1 _ _), ?_⟩
  have := WkRows.one o4 b4.size
  rw [hw3]
  exact this.mono (Nat.le_refl _) (by simp))
 rw [<- hw3]
 clear hw3 H4
 go_upto_region 4 with fail
 have HSOL := Lib.hid (show SolAt wA (w3.alloc (Obj.cells #[] 191)) gs ls 0 (some ⟨w2.heap.size, 0, none⟩) 1 (some ⟨w3.heap.size, 0, none⟩) 0 [] from
  ⟨bthen HS0.out.1 (below1 _ _), (HS0.out.2.below (below1 _ _) (Nat.le_refl _)).mono (Nat.le_refl _) (by simp), ColLR.empty _ _ HS0.out.1⟩)
 clear HS0
 go_wp2_with fail
 go_loopw [6, 7, 8] (fun vb vr vi wr => ∃ (k : Nat) (Ab : Option Addr) (cb : Nat) (Ar : Option Addr) (cr : Nat) (us : List Value), k <= ls.length /\ vi = .int .i64 k /\ vb = .slice Ab (bindsTo gs ls k).length cb /\ vr = .slice Ar (restTo ls k).length cr /\ SolAt wA wr gs ls k Ab cb Ar cr us) (fun _ _ vi _ => ls.length - (intOf vi).toNat)
 case atStart => exact ⟨0, _, _, _, _, [], Nat.zero_le _, rfl, rfl, rfl, HSOL.out⟩
 case round =>
  obtain ⟨k, Ab, cb, Ar, cr, us, hk, rfl, rfl, rfl, hat⟩ := hrel
  have HAT := Lib.hid hat
  clear hat HSOL
  have hrl := restTo_length ls k
  by_cases hlt : k < ls.length
  ·obtain ⟨b, o, u0, u1, u2, rfl, hbB, k0, k1, k2, rfl, rfl, p3⟩ := (H2.out.below HAT.out.below (Nat.le_refl _)).get hlt
   have HP3 := Lib.hid p3
   obtain ⟨A5, c5, rfl, hc5, _⟩ := p3
   have hln := len_le_totL ls k hlt
   by_cases h0 : ls[k].1 = 0
   ·have hd : (ls[k].1 != 0) = false := by simp [h0]
    have HY := Lib.hid (bindsTo_yes (fs := gs) hlt h0)
    have HRY := Lib.hid (restTo_yes hlt h0)
    have hta := HT.out _ (List.getElem_mem hlt)
    have HLN := Lib.hid (HOK.out (k + 1) (by omega)).2
    have HBK := Lib.hid (HOK.out k (by omega))
    obtain ⟨B, hB⟩ : ∃ B, B = bindsTo gs ls k := ⟨_, rfl⟩
    have HBB := Lib.hid (show WkRows wr wA.heap.size wr.heap.size (.slice Ab B.length cb) B by rw [hB]; exact HAT.out.binds)
    rw [<- hB] at HY HBK ⊢
    rw [HY.out] at HLN
    have HBE := Lib.hid hB
    have hbn : B.length <= 65536 := HBK.out.2
    clear hB
    go_wp2_with fail
    rename World => w1
    have C0 := Lib.hid (ColS.empty (lo := w1.heap.size) (Below.refl w1.heap.size w1))
    go_loopw [9, 10] (fun vn vp wr => ∃ (p : Nat) (An : Option Addr) (cn : Nat) (av : List Value), p <= B.length /\ vp = .int .i64 p /\ vn = .slice An (nextTo ls[k].2 gs B p 0).length cn /\ ColS w1.heap.size w1 wr (nextTo ls[k].2 gs B p 0) An cn av) (fun _ vp _ => B.length - (intOf vp).toNat)
    case atStart =>
     refine ⟨0, some ⟨w1.heap.size, 0, none⟩, 0, [], Nat.zero_le _, rfl, ?_, ?_⟩
     ·rw [nextTo_start]; rfl
     ·rw [nextTo_start]; exact C0.out
    case round =>
     obtain ⟨p, An, cn, av, hp, rfl, rfl, hcol⟩ := hrel
     by_cases hltp : p < B.length
     ·have HCOL := Lib.hid hcol
      clear hcol
      go_wp2_with fail
      rename World => w5
      go_loopw [9, 11] (fun vn vj wr => ∃ (j : Nat) (An : Option Addr) (cn : Nat) (av : List Value), j <= gs.length /\ vj = .int .i64 j /\ vn = .slice An (nextTo ls[k].2 gs B p j).length cn /\ ColS w1.heap.size w1 wr (nextTo ls[k].2 gs B p j) An cn av) (fun _ vj _ => gs.length - (intOf vj).toNat)
      case atStart => exact ⟨0, An, cn, av, Nat.zero_le _, rfl, rfl, HCOL.out⟩
      case round =>
       obtain ⟨j, An, cn, av, hj, rfl, rfl, hcol⟩ := hrel
       have HCO := Lib.hid hcol
       have B1 := hcol.below
       clear hcol
       have BW := bthen HAT.out.below B1
       by_cases hltj : j < gs.length
       ·obtain ⟨b3, o3, A6, c6, rfl, hb3, f0, f1, p6⟩ := (H.out.below BW (Nat.le_refl _)).get hltj
        obtain ⟨gb, A7, c7, rfl, hgb, r0, o7⟩ := (HBB.out.below B1 (Nat.le_refl _)).get hltp
        have hsz1 := B1.size
        have hszA := HAT.out.below.size
        have hlf := len_le_tot gs j hltj
        have hcf := HC.out _ (List.getElem_mem hltj)
        have hbok := HBK.out.1 _ (List.getElem_mem hltp)
        have hb4 := bindOk_len hbok
        have hbl : b < wr.heap.size := by omega
        have hb3l : b3 < wr.heap.size := by omega
        have hgl : gb < wr.heap.size := hgb
        have k1' : wr.cell? ⟨b, o + k * 3 + 1, none⟩ = some (.int .i64 ls[k].2.1) := (B1.cell (p := ⟨b, o + k * 3 + 1, none⟩) (by show b < w1.heap.size; omega)).trans k1
        have k2' : wr.cell? ⟨b, o + k * 3 + 2, none⟩ = some (.slice A5 ls[k].2.2.length c5) := (B1.cell (p := ⟨b, o + k * 3 + 2, none⟩) (by show b < w1.heap.size; omega)).trans k2
        have HS := Lib.hid (show ∀ W, Below wr.heap.size wr W -> (Below wr.heap.size wr W /\ W.cell? ⟨b, o + k * 3 + 1, none⟩ = some (.int .i64 ls[k].2.1) /\ W.cell? ⟨b, o + k * 3 + 2, none⟩ = some (.slice A5 ls[k].2.2.length c5) /\ W.cell? ⟨b3, o3 + j * 2, none⟩ = some (.int .i64 gs[j].1) /\ W.cell? ⟨b3, o3 + j * 2 + 1, none⟩ = some (.slice A6 gs[j].2.length c6) /\ W.cell? ⟨gb, p, none⟩ = some (.slice A7 B[p].length c7)) from fun W hW =>
         ⟨hW, (hW.cell (p := ⟨b, o + k * 3 + 1, none⟩) hbl).trans k1', (hW.cell (p := ⟨b, o + k * 3 + 2, none⟩) hbl).trans k2', (hW.cell (p := ⟨b3, o3 + j * 2, none⟩) hb3l).trans f0, (hW.cell (p := ⟨b3, o3 + j * 2 + 1, none⟩) hb3l).trans f1, (hW.cell (p := ⟨gb, p, none⟩) hgl).trans r0⟩)
        obtain ⟨Rm, hRm⟩ : ∃ Rm, Rm = (matchL ls[k].2 gs[j] B[p]).getD [] := ⟨_, rfl⟩
        obtain ⟨ok, hok⟩ : ∃ ok, ok = (matchL ls[k].2 gs[j] B[p]).isSome := ⟨_, rfl⟩
        have HM := Lib.hid (show ∀ W, Below wr.heap.size wr W -> Calls Tryz.prog 126 #[.agg #[.int .i64 ls[k].2.1, .slice A5 ls[k].2.2.length c5], .agg #[.int .i64 gs[j].1, .slice A6 gs[j].2.length c6], .slice A7 B[p].length c7] W fun e w' => ∃ A' c', e = .returned (.tuple #[.slice A' Rm.length c', .bool ok]) /\ OwnInts w' wr.heap.size w'.heap.size (.slice A' Rm.length c') Rm /\ Below wr.heap.size wr w' from fun W hW =>
         (l3Match_n _ _ _ ls[k].2 gs[j] B[p] Rm ok hRm hok W hbok ⟨_, rfl, (HP3.out.below (bthen B1 hW) (by omega)).more (by have := hW.size; omega)⟩ ⟨_, rfl, (p6.below hW (by omega)).more (by have := hW.size; omega)⟩ ((o7.below hW (by omega)).rd.more (by have := hW.size; omega)) hta hcf (by omega) (by omega)).mono fun e w' ⟨A', c', he, ho, hb⟩ => ⟨A', c', he, ho.mono hW.size (Nat.le_refl _), bthen hW hb⟩)
        have HLE := Lib.hid (Nat.le_trans (nextTo_len (a := ls[k].2) (fs := gs) (j := j) hltp) HLN.out)
        have HMM := Lib.hid (And.intro hRm hok)
        clear p6 o7 hRm hok hcf hbok hb4 hln
        go_upto_region 16 with fail
        go_cut [12, 13] (fun s0 s1 wx => ∃ (Q : Option Addr) (f : Nat), s0 = .slice Q Rm.length f /\ s1 = .bool ok /\ OwnInts wx wr.heap.size wx.heap.size (.slice Q Rm.length f) Rm /\ Below wr.heap.size wr wx)
        case first =>
         clear k0 k1 k2 k1' k2' f0 f1 r0
         go_region_held3 (fun W => Below wr.heap.size wr W /\ W.cell? ⟨b, o + k * 3 + 1, none⟩ = some (.int .i64 ls[k].2.1) /\ W.cell? ⟨b, o + k * 3 + 2, none⟩ = some (.slice A5 ls[k].2.2.length c5) /\ W.cell? ⟨b3, o3 + j * 2, none⟩ = some (.int .i64 gs[j].1) /\ W.cell? ⟨b3, o3 + j * 2 + 1, none⟩ = some (.slice A6 gs[j].2.length c6) /\ W.cell? ⟨gb, p, none⟩ = some (.slice A7 B[p].length c7))
          (first | exact HS.out _ (Below.refl _ _) | exact HS.out _ (Below.refl _ _).drew | exact HS.out _ (bthen (And.left (by assumption)) (by assumption)) | exact HS.out _ (by assumption))
          (first
            | (go_at_call 126; refine (HM.out _ (And.left (by assumption))).mono ?_; rintro e w_r ⟨Q, f, rfl, oo, hb_r⟩))
         all_goals (go_wp2_with fail; go_meet; exact ⟨_, _, rfl, rfl, oo, hb_r⟩)
        case rest =>
         obtain ⟨Q, f, rfl, rfl, oo, hb_r⟩ := hcut
         clear HS HM k0 k1 k2 k1' k2' f0 f1 r0
         generalize wc = w6 at *
         have HOO := Lib.hid (And.intro oo hb_r)
         clear oo hb_r
         obtain ⟨hRm, hok⟩ := HMM.out
         cases hm : matchL ls[k].2 gs[j] B[p] with
         | none =>
          rw [hm] at hok
          have hokf : ok = false := hok
          subst hokf
          have HE := Lib.hid (nextTo_none hltj hltp hm)
          clear hm hRm hok
          go_wp2_with fail
          go_roundw
          case rel => exact ⟨j + 1, An, cn, av, by omega, by go_num, by rw [HE.out], by rw [HE.out]; exact HCO.out.on HOO.out.2⟩
          case measure => simp [intOf]; omega
         | some r =>
          rw [hm] at hok hRm
          have hokf : ok = true := hok
          subst hokf
          have hRr : Rm = r := hRm
          subst hRr
          have HE := Lib.hid (nextTo_some hltj hltp hm)
          clear hm hRm hok
          obtain ⟨zs, hzs⟩ : ∃ zs, zs = nextTo ls[k].2 gs B p j := ⟨_, rfl⟩
          have hzl : zs.length <= 65536 := by rw [hzs]; exact HLE.out
          rw [<- hzs] at HCO HE ⊢
          have HZ := Lib.hid hzs
          clear hzs
          go_wp2_with (at_builtin; refine wpList_append_lies _ rfl (.tmp 69) (.tmp 71) 165 rfl w1.heap.size 22 i0 (.slice none 0 0) 1 24 Tryz.underlying165 hi0 hz0 hz1 hz2 rfl (by decide) (.slice An zs.length cn) zs.length av rfl ?c1 ⟨_, 0, none⟩ 1 1 [.slice Q Rm.length f] rfl rfl (news1s _ _ _ _ (by simp)) ?c2 (by omega) (by unfold maxLen; omega) (by omega) ?c3 _ rfl ?_)
          case c1 => exact (HCO.out.on HOO.out.2).row.alloc _
          case c2 => intro u hu; simp at hu; subst hu; rfl
          case c3 => have := HCO.out.below.size; have := HOO.out.2.size; simp; omega
          intro g2 cap w8 hown hg _ _
          obtain ⟨hcol, hlen⟩ := (HCO.out.on HOO.out.2).push HE.out (Below.refl _ _) (HOO.out.1.mono (by have := HCO.out.below.size; omega) (Nat.le_refl _)) hg hown
          rw [hlen]
          have HC2 := Lib.hid hcol
          clear hcol hown hg
          go_wp2_with fail
          go_roundw
          case rel => exact ⟨j + 1, _, _, _, by omega, by go_num, rfl, HC2.out⟩
          case measure => simp [intOf]; omega
       ·have HE := Lib.hid (show nextTo ls[k].2 gs B p j = nextTo ls[k].2 gs B (p + 1) 0 by rw [show j = gs.length by omega]; exact nextTo_row hltp)
        go_wp2_with fail
        go_roundw
        case rel => exact ⟨p + 1, An, cn, av, by omega, by go_num, by rw [HE.out], by rw [<- HE.out]; exact HCO.out⟩
        case measure => simp [intOf]; omega
     ·have HE := Lib.hid (show nextTo ls[k].2 gs B p 0 = bindsTo gs ls (k + 1) by rw [show p = B.length by omega, nextTo_end, HY.out])
      have HCOL := Lib.hid hcol
      have BW := bthen HAT.out.below hcol.below
      have HRE := Lib.hid (HAT.out.rest.on hcol.below)
      have hszA := HAT.out.below.size
      clear hcol
      go_wp2_with fail
      go_roundw
      case rel => exact ⟨k + 1, An, cn, Ar, cr, us, by omega, by go_num, by rw [HE.out], by rw [HRY.out], BW, by
       have := (HCOL.out.rows (Nat.le_refl _)).mono hszA (Nat.le_refl _)
       rw [HE.out] at this
       exact this, by rw [HRY.out]; exact HRE.out⟩
      case measure => simp [intOf]; omega
   ·have hd : (ls[k].1 != 0) = true := by simp [h0]
    have HY := Lib.hid (bindsTo_no (fs := gs) hlt h0)
    have HRY := Lib.hid (restTo_no hlt h0)
    obtain ⟨zs, hzs⟩ : ∃ zs, zs = restTo ls k := ⟨_, rfl⟩
    have hzl : zs.length <= 1048576 := by rw [hzs]; omega
    have HRE := Lib.hid (show ColLR wA wr zs Ar cr us by rw [hzs]; exact HAT.out.rest)
    rw [<- hzs] at HRY ⊢
    clear hzs
    go_wp2_with (at_builtin; refine wpList_append_lies _ rfl (.tmp 31) (.tmp 36) 136 rfl wA.heap.size 191 i1 (.agg #[.int .i64 0, .int .i64 0, .slice none 0 0]) 3 40 Tryz.underlying136 hi1 hy0 hy1 hy2 rfl (by decide) (.slice Ar zs.length cr) zs.length (flatR zs us) rfl ?c1 ⟨_, 0, none⟩ 1 1 [.int .i64 ls[k].1, .int .i64 ls[k].2.1, .slice A5 ls[k].2.2.length c5] rfl rfl (news3s _ _ _ _ _ _ (by simp)) ?c2 (by omega) (by unfold maxLen; omega) (by omega) ?c3 _ rfl ?_)
    case c1 => exact HRE.out.row.alloc _
    case c2 => intro u hu; simp at hu; rcases hu with rfl | rfl | rfl <;> rfl
    case c3 => have := HRE.out.below.size; simp; omega
    intro g2 cap w8 hown hg _ _
    obtain ⟨hcol, hlen⟩ := HRE.out.push HRY.out (Below.refl _ _) HP3.out hg hown
    rw [hlen]
    have HC2 := Lib.hid hcol
    have HB8 := Lib.hid (show WkRows w8 wA.heap.size w8.heap.size (.slice Ab (bindsTo gs ls k).length cb) (bindsTo gs ls k) from by
     have hg' := grown_from_alloc hg
     obtain ⟨av, ⟨a1, a2⟩, a3, a4⟩ := HAT.out.binds
     have hne : ∀ {v : Value} {n m : Nat} {e : TypeId} {xs : List Value} {lo : Nat}, wr.ownsRow lo e m v n xs -> e ≠ 191 -> ∀ q, v.ownBlock = some q -> w8.heap[q]? = wr.heap[q]? := fun {v n m e xs lo} hv hne q hq => hg'.block q (hv.lt q hq).2 fun e2 => by
      rcases HRE.out.row.2 with ⟨e3, _⟩ | ⟨g1, c1, cur1, e3, _, h1, _⟩
      ·rw [e3] at e2; cases e2
      ·rw [e3] at e2
       have e4 : g1 = q := by simpa [Value.ownBlock] using e2.symm
       subst e4
       exact blk_ne_row hv (show Blk wr g1 191 cur1 from h1) hne hq
     exact ⟨av, ⟨a1, fun i x y => ((a2 i x y).kept (hne (a2 i x y).1 (by decide))).mono (Nat.le_refl _) hg'.size⟩, ownsRow_only a3 (hne a3 (by decide)), fun q hq => Nat.lt_of_lt_of_le (a4 q hq) hg'.size⟩)
    clear hcol hown hg
    go_wp2_with fail
    go_roundw
    case rel => exact ⟨k + 1, Ab, cb, _, _, _, by omega, by go_num, by rw [HY.out], rfl, HC2.out.below, by rw [HY.out]; exact HB8.out, HC2.out⟩
    case measure => simp [intOf]; omega
  ·rename World => w1
   have hkn : k = ls.length := by omega
   subst hkn
   obtain ⟨B, hB⟩ : ∃ B, B = bindsTo gs ls ls.length := ⟨_, rfl⟩
   obtain ⟨rs, hrs⟩ : ∃ rs, rs = restTo ls ls.length := ⟨_, rfl⟩
   have HBB := Lib.hid (show WkRows w1 wA.heap.size w1.heap.size (.slice Ab B.length cb) B by rw [hB]; exact HAT.out.binds)
   have HRS := Lib.hid (show RdLits w1 w1.heap.size (.slice Ar rs.length cr) rs by rw [hrs]; exact HAT.out.rest.rd)
   have HBK := Lib.hid (show (∀ b ∈ B, bindOk b = true) /\ B.length <= 65536 by rw [hB]; exact HOK.out _ (Nat.le_refl _))
   have hsub : ∀ l ∈ rs, l ∈ ls := fun l hl => by
    rw [hrs] at hl
    unfold restTo at hl
    rw [List.take_length] at hl
    exact (List.mem_filter.1 hl).1
   have HTR := Lib.hid (show ∀ l ∈ rs, l.2.2.all termOk = true from fun l hl => HT.out l (hsub l hl))
   have htr : totL rs <= totL ls := by
    have : rs.Sublist ls := by
     rw [hrs]
     unfold restTo
     rw [List.take_length]
     exact List.filter_sublist
    exact totL_sub this
   have hrn : rs.length <= 1048576 := by rw [hrs]; omega
   have HRR := Lib.hid (show R = triedTo gs rs B B.length by rw [HR.out, hrs, hB]; rfl)
   have hbn := HBK.out.2
   have HO1 := Lib.hid ((HO0.out.below HAT.out.below (by have := HSA.out; omega)).mono (lo' := w.heap.size) (hi' := w1.heap.size) (Nat.le_refl _) (by have := HSA.out; have := HAT.out.below.size; omega))
   rw [<- hB, <- hrs]
   clear hB hrs hsub hrl
   go_wp2_with fail
   go_loopw [5, 14] (fun vo vk wr => ∃ (k : Nat) (Ao : Option Addr) (co : Nat), k <= B.length /\ vk = .int .i64 k /\ vo = .slice Ao (triedTo gs rs B k).length co /\ WkRows wr w.heap.size wr.heap.size (.slice Ao (triedTo gs rs B k).length co) (triedTo gs rs B k) /\ Below w1.heap.size w1 wr) (fun _ vk _ => B.length - (intOf vk).toNat)
   case atStart => exact ⟨0, _, 0, Nat.zero_le _, rfl, rfl, HO1.out, Below.refl _ _⟩
   case round =>
    obtain ⟨q, Ao, co, hq, rfl, rfl, hout, hbe⟩ := hrel
    have hszA := HAT.out.below.size
    have hsz := hbe.size
    by_cases hltq : q < B.length
    ·obtain ⟨gb, A7, c7, rfl, hgb, r0, o7⟩ := (HBB.out.below hbe (Nat.le_refl _)).get hltq
     have hbok := HBK.out.1 _ (List.getElem_mem hltq)
     have HB4 := Lib.hid (bindOk_len hbok)
     have hb4l : B[q].length <= 1048576 := by have := HB4.out; omega
     obtain ⟨bo, hbo⟩ : ∃ bo, bo = (rs.all fun l => litHolds gs l B[q]) := ⟨_, rfl⟩
     have CT := Lib.hid (l3Try_any (.slice A gs.length c) (.slice Ar rs.length cr) (.slice A7 B[q].length c7) gs rs B[q] bo hbo wr (H.out.on (bthen HAT.out.below hbe)) (HRS.out.on hbe) (o7.rd.more (by omega)) HB4.out HTR.out hn ht hrn (by omega))
     obtain ⟨T, hTe⟩ : ∃ T, T = triedTo gs rs B q := ⟨_, rfl⟩
     have hTn : T.length <= 65536 := by
      have hup := (triedTo_is gs rs B q hq).1
      rw [hTe]
      exact binds_len hup.nodup fun b hb => HBK.out.1 b (triedTo_sub hq b hb)
     have hTl : ∀ s ∈ T, s.length <= 1048576 := fun s hs => by
      rw [hTe] at hs
      rw [bindOk_len (HBK.out.1 s (triedTo_sub hq s hs))]
      decide
     have HOUT := Lib.hid (show WkRows wr w.heap.size wr.heap.size (.slice Ao T.length co) T by rw [hTe]; exact hout)
     have HO7 := Lib.hid (show OwnInts wr w.heap.size wr.heap.size (.slice A7 B[q].length c7) B[q] from o7.mono (by omega) (by omega))
     have HBE := Lib.hid hbe
     have HTL := Lib.hid hTl
     have HTE := Lib.hid hTe
     rw [<- hTe]
     clear o7 hbe hout hTl hTe hbok
     cases bo
     ·have HE := Lib.hid (triedTo_no hltq hbo.symm)
      clear hbo
      go_wp2_with (go_at_call 191; refine CT.out.mono ?_; rintro e w2 ⟨rfl, hb2⟩; have HB2 := Lib.hid hb2; clear hb2)
      go_roundw
      case rel => exact ⟨q + 1, Ao, co, by omega, by go_num, by rw [HE.out, HTE.out], by rw [HE.out, <- HTE.out]; exact (HOUT.out.below HB2.out (Nat.le_refl _)).mono (Nat.le_refl _) HB2.out.size, bthen HBE.out HB2.out⟩
      case measure => simp [intOf]; omega
     ·have HE := Lib.hid (triedTo_yes hltq hbo.symm)
      clear hbo
      obtain ⟨T2, hT2⟩ : ∃ T2, T2 = putB T B[q] := ⟨_, rfl⟩
      have HT2 := Lib.hid hT2
      have HPUT := Lib.hid (show ∀ W, Below wr.heap.size wr W -> Calls Tryz.prog 192 #[.slice Ao T.length co, .slice A7 B[q].length c7] W fun e w' => ∃ A c, e = .returned (.slice A T2.length c) /\ WkRows w' w.heap.size w'.heap.size (.slice A T2.length c) T2 /\ Below W.heap.size W w' from fun W hW =>
       l3Put_any _ _ T B[q] T2 hT2 w.heap.size wr.heap.size W (HOUT.out.below hW (Nat.le_refl _)) (HO7.out.below hW (Nat.le_refl _)) hW.size (by have := hW.size; omega) (by omega) HTL.out (by omega))
      clear hT2
      have r0' : ∀ W, Below wr.heap.size wr W -> W.cell? ⟨gb, q, none⟩ = some (.slice A7 B[q].length c7) := fun W hW => (hW.cell (p := ⟨gb, q, none⟩) hgb).trans r0
      have HR0 := Lib.hid r0'
      clear r0'
      go_wp2_with (first
       | (go_at_call 191; refine CT.out.mono ?_; rintro e w2 ⟨rfl, hb2⟩
          have r2 := HR0.out w2 hb2
          have HB2 := Lib.hid hb2
          clear hb2)
       | (go_at_call 192; refine (HPUT.out _ HB2.out).mono ?_; rintro e w3 ⟨A8, c8, rfl, o8, b8⟩
          have HO8 := Lib.hid (And.intro o8 b8)
          clear o8 b8))
      go_roundw
      case rel => exact ⟨q + 1, A8, c8, by omega, by go_num, by rw [HE.out, <- HTE.out, <- HT2.out], by rw [HE.out, <- HTE.out, <- HT2.out]; exact HO8.out.1, bthen HBE.out (bthen HB2.out HO8.out.2)⟩
      case measure => simp [intOf]; omega
    ·have HF := Lib.hid (show WkRows wr w.heap.size wr.heap.size (.slice Ao R.length co) R /\ triedTo gs rs B q = R by
      have : q = B.length := by omega
      rw [this] at hout ⊢
      rw [HRR.out]
      exact ⟨hout, rfl⟩)
     have HBE := Lib.hid (bthen hBA.out (bthen HAT.out.below hbe))
     rw [HF.out.2]
     clear hout hbe
     go_wp2_with fail
     go_ret
     exact ⟨_, _, rfl, HF.out.1, HBE.out⟩
open Go
section
variable {P : Program} {ops : Array Oper} {Q : Exit -> Act -> World -> Prop} {md : Region.Mode} {S : World -> Prop} {t : Nat}
def wpAnyR (P : Program) (md : Region.Mode) (ops : Array Oper) (Q : Exit -> Act -> World -> Prop) (S : World -> Prop) (t : Nat) : Nat -> Array Bool -> Act -> World -> Prop
 | 0, listed, a, w => Region.ready md ops listed = [] /\ Q .normal a w
 | fuel + 1, listed, a, w =>
  (Region.ready md ops listed = [] -> Q .normal a w) /\
  ∀ i ∈ Region.ready md ops listed, wpOp P ops Q i (fun a' w' => ((listed.setIfInBounds i true).getD t true = false -> S w') /\ wpAnyR P md ops Q S t fuel (listed.setIfInBounds i true) a' w') a w
theorem wpAny_of_rel : ∀ (fuel : Nat) (listed : Array Bool) (a : Act) (w : World), wpAnyR P md ops Q S t fuel listed a w -> wpAny P md ops Q fuel listed a w
 | 0, _, _, _, h => h
 | fuel + 1, _, _, _, h => ⟨h.1, fun i hi => wpOp_mono (fun a' w' h' => wpAny_of_rel fuel _ a' w' h'.2) (h.2 i hi)⟩
def blockedB (md : Region.Mode) (ops : Array Oper) (listed : Array Bool) (i : Nat) (D : List Nat) : Bool :=
 !D.contains i && D.all fun d => !listed.getD d true && ((ops[d]?).map fun o => o.after.any fun e => Region.binds md e && (e.on == i || D.contains e.on)).getD false
theorem not_ready_of_blocked {listed : Array Bool} {i : Nat} {D : List Nat} (h : blockedB md ops listed i D = true) (hi : listed.getD i true = false) {d : Nat} (hd : d ∈ D) : d ∉ Region.ready md ops listed := by
 intro hr
 obtain ⟨_, o, ho, hall⟩ := mem_ready.1 hr
 simp only [blockedB, Bool.and_eq_true, List.all_eq_true] at h
 have h2 := (h.2 d hd).2
 rw [ho] at h2
 simp only [Option.map_some, Option.getD_some, Array.any_eq_true', Bool.and_eq_true, Bool.or_eq_true, beq_iff_eq] at h2
 obtain ⟨e, he, hb, hon⟩ := h2
 have hl := hall e he hb
 have un : ∀ k : Nat, listed.getD k true = false -> listed.getD k false = true -> False := by
  intro k h1 h2
  rcases Nat.lt_or_ge k listed.size with h' | h'
  ·simp [h'] at h1 h2
   rw [h1] at h2
   cases h2
  ·simp [Array.getElem?_eq_none h'] at h1
 rcases hon with e1 | e1
 ·rw [e1] at hl
  exact un i hi hl
 ·have h3 := (h.2 e.on (by simpa using e1)).1
  exact un _ (by simpa using h3) hl
theorem blocked_set {listed : Array Bool} {i j : Nat} {D : List Nat} (h : blockedB md ops listed i D = true) (hj : j ∉ D) : blockedB md ops (listed.setIfInBounds j true) i D = true := by
 simp only [blockedB, Bool.and_eq_true, List.all_eq_true] at h ⊢
 refine ⟨h.1, fun d hd => ?_⟩
 have := h.2 d hd
 refine ⟨?_, this.2⟩
 rw [getD_set_ne true (show j ≠ d from fun e => hj (by rw [e]; exact hd))]
 exact this.1
theorem wpAnyR_first {i : Nat} {oi : Oper} {v : Value} {D : List Nat} (hi : ops[i]? = some oi) (hsel : ∀ (j : Nat) (o : Oper) cs b, ops[j]? = some o -> o.op ≠ .select cs b)
 (hQ : ∀ c a w, Q (.panic c) (a.put oi.dst v) w -> Q (.panic c) a w) (ht : t ∈ D) :
 ∀ (fuel : Nat) (listed : Array Bool) (a : Act) (w : World),
  (∀ j oj, ops[j]? = some oj -> j ≠ i -> listed.getD j true = false -> (∀ e ∈ oj.after, Region.binds md e = true -> e.on ≠ i) -> oi.apart ops oj = true) ->
  i ∈ Region.ready md ops listed -> blockedB md ops listed i D = true -> YieldsIf P ops S oi v a -> S w ->
  wpAnyR P md ops Q S t fuel (listed.setIfInBounds i true) (a.put oi.dst v) w -> wpAnyR P md ops Q S t (fuel + 1) listed a w := by
 intro fuel
 induction fuel with
 | zero =>
  intro listed a w _ hr hbl hy hS H
  refine ⟨fun h => (by rw [h] at hr; cases hr), fun j hj => ?_⟩
  by_cases hji : j = i
  ·subst hji; exact hy.wpOp hi hS ⟨fun _ => hS, H⟩
  ·have := ready_mono hj hji
   rw [H.1] at this
   cases this
 | succ fuel ih =>
  intro listed a w hfree hr hbl hy hS H
  refine ⟨fun h => (by rw [h] at hr; cases hr), fun j hj => ?_⟩
  by_cases hji : j = i
  ·subst hji; exact hy.wpOp hi hS ⟨fun _ => hS, H⟩
  ·have h1 := H.2 j (ready_mono hj hji)
   have hjD : j ∉ D := fun hd => not_ready_of_blocked hbl (mem_ready.1 hr).1 hd hj
   have hiD : i ∉ D := by
    simp only [blockedB, Bool.and_eq_true] at hbl
    simpa using hbl.1
   have htl : listed.getD t true = false := by
    simp only [blockedB, Bool.and_eq_true, List.all_eq_true] at hbl
    simpa using (hbl.2 t ht).1
   have htl2 : ((listed.setIfInBounds i true).setIfInBounds j true).getD t true = false := by
    rw [getD_set_ne true (show j ≠ t from fun e => hjD (by rw [e]; exact ht)), getD_set_ne true (show i ≠ t from fun e => hiD (by rw [e]; exact ht))]
    exact htl
   obtain ⟨hjun, oj, hoj, hall⟩ := mem_ready.1 hj
   have hnot : ∀ e ∈ oj.after, Region.binds md e = true -> e.on ≠ i := fun e he hb heq => by
    have h1 := hall e he hb
    have h0 := (mem_ready.1 hr).1
    rw [heq] at h1
    rcases Nat.lt_or_ge i listed.size with h' | h'
    ·simp [h'] at h0 h1; rw [h0] at h1; cases h1
    ·simp [Array.getElem?_eq_none h'] at h1
   have h2 := wpOp_putIf hoj (hfree j oj hoj hji hjun hnot) (fun cs b => hsel i oi cs b hi) (fun cs b => hsel j oj cs b hoj) hQ hy h1
   have hfree' : ∀ k ok, ops[k]? = some ok -> k ≠ i -> (listed.setIfInBounds j true).getD k true = false ->
    (∀ e ∈ ok.after, Region.binds md e = true -> e.on ≠ i) -> oi.apart ops ok = true := fun k ok hk hki hun hno => by
    refine hfree k ok hk hki ?_ hno
    by_cases hjk : j = k
    ·subst hjk; exact hjun
    ·rw [getD_set_ne true hjk] at hun; exact hun
   refine wpOp_mono (fun a' w' h3 => ⟨fun _ => h3.2.1 htl2, ih (listed.setIfInBounds j true) a' w' hfree' (ready_mono hr (Ne.symm hji)) (blocked_set hbl hjD) h3.1 (h3.2.1 htl2) ?_⟩) h2
   rw [Array.setIfInBounds_comm _ _ hji]
   exact h3.2.2
def descOf (md : Region.Mode) (ops : Array Oper) (i : Nat) : List Nat :=
 (List.range ops.size).foldl (fun D k => if ((ops[k]?).map fun o => o.after.any fun e => Region.binds md e && (e.on == i || D.contains e.on)).getD false then D ++ [k] else D) []
def takeOk (md : Region.Mode) (ops : Array Oper) (listed : Array Bool) (i t : Nat) : Bool :=
 Region.noSelect ops && Region.free md ops listed i && (Region.ready md ops listed).contains i && blockedB md ops listed i (descOf md ops i) && (descOf md ops i).contains t
def pureOk (md : Region.Mode) (ops : Array Oper) (listed : Array Bool) (i : Nat) : Bool :=
 Region.noSelect ops && Region.free md ops listed i && (Region.ready md ops listed).contains i
theorem wpAnyR_take {i d : Nat} {oi : Oper} (v : Value) {fuel : Nat} {listed : Array Bool} {a : Act} {w : World} (hi : ops[i]? = some oi) (hd : oi.dst = some d)
 (hok : takeOk md ops listed i t = true)
 (hQ : ∀ c a w, Q (.panic c) (a.put oi.dst v) w -> Q (.panic c) a w) (hw : Region.wanted oi (yielded ops a.tmps) = true) (hy : ∀ w, S w -> (execOp a.eval oi).run P w = .ok (.value v) w) (hS : S w)
 (h : wpAnyR P md ops Q S t fuel (listed.setIfInBounds i true) { a with tmps := a.tmps.setIfInBounds d v } w) : wpAnyR P md ops Q S t (fuel + 1) listed a w := by
 have h : wpAnyR P md ops Q S t fuel (listed.setIfInBounds i true) (a.put oi.dst v) w := by rw [hd]; exact h
 simp only [takeOk, Bool.and_eq_true] at hok
 obtain ⟨⟨⟨⟨h1, h2⟩, h3⟩, h4⟩, h5⟩ := hok
 exact wpAnyR_first hi (Region.noSelect_spec h1) hQ (by simpa using h5) fuel listed a w (Region.free_spec hi h2) (by simpa using h3) h4 (.inl ⟨hw, hy⟩) hS h
theorem wpAnyR_first0 {i : Nat} {oi : Oper} {v : Value} (hi : ops[i]? = some oi) (hsel : ∀ (j : Nat) (o : Oper) cs b, ops[j]? = some o -> o.op ≠ .select cs b)
 (hQ : ∀ c a w, Q (.panic c) (a.put oi.dst v) w -> Q (.panic c) a w) :
 ∀ (fuel : Nat) (listed : Array Bool) (a : Act) (w : World),
  (∀ j oj, ops[j]? = some oj -> j ≠ i -> listed.getD j true = false -> (∀ e ∈ oj.after, Region.binds md e = true -> e.on ≠ i) -> oi.apart ops oj = true) ->
  i ∈ Region.ready md ops listed -> YieldsIf P ops (fun _ => True) oi v a -> (listed.getD t true = false -> S w) -> t ≠ i ->
  wpAnyR P md ops Q S t fuel (listed.setIfInBounds i true) (a.put oi.dst v) w -> wpAnyR P md ops Q S t (fuel + 1) listed a w := by
 intro fuel
 induction fuel with
 | zero =>
  intro listed a w _ hr hy hS hti H
  refine ⟨fun h => (by rw [h] at hr; cases hr), fun j hj => ?_⟩
  by_cases hji : j = i
  ·subst hji; exact hy.wpOp hi trivial ⟨fun h => hS (by rwa [getD_set_ne true (Ne.symm hti)] at h), H⟩
  ·have := ready_mono hj hji
   rw [H.1] at this
   cases this
 | succ fuel ih =>
  intro listed a w hfree hr hy hS hti H
  refine ⟨fun h => (by rw [h] at hr; cases hr), fun j hj => ?_⟩
  by_cases hji : j = i
  ·subst hji; exact hy.wpOp hi trivial ⟨fun h => hS (by rwa [getD_set_ne true (Ne.symm hti)] at h), H⟩
  ·have h1 := H.2 j (ready_mono hj hji)
   obtain ⟨hjun, oj, hoj, hall⟩ := mem_ready.1 hj
   have hnot : ∀ e ∈ oj.after, Region.binds md e = true -> e.on ≠ i := fun e he hb heq => by
    have h1 := hall e he hb
    have h0 := (mem_ready.1 hr).1
    rw [heq] at h1
    rcases Nat.lt_or_ge i listed.size with h' | h'
    ·simp [h'] at h0 h1; rw [h0] at h1; cases h1
    ·simp [Array.getElem?_eq_none h'] at h1
   have h2 := wpOp_putIf hoj (hfree j oj hoj hji hjun hnot) (fun cs b => hsel i oi cs b hi) (fun cs b => hsel j oj cs b hoj) hQ hy h1
   have hfree' : ∀ k ok, ops[k]? = some ok -> k ≠ i -> (listed.setIfInBounds j true).getD k true = false ->
    (∀ e ∈ ok.after, Region.binds md e = true -> e.on ≠ i) -> oi.apart ops ok = true := fun k ok hk hki hun hno => by
    refine hfree k ok hk hki ?_ hno
    by_cases hjk : j = k
    ·subst hjk; exact hjun
    ·rw [getD_set_ne true hjk] at hun; exact hun
   have hback : ∀ {W : World}, (((listed.setIfInBounds i true).setIfInBounds j true).getD t true = false -> S W) -> ((listed.setIfInBounds j true).getD t true = false -> S W) := fun h hl => h (by
    rw [Array.setIfInBounds_comm _ _ (Ne.symm hji), getD_set_ne true (Ne.symm hti)]
    exact hl)
   refine wpOp_mono (fun a' w' h3 => ⟨hback h3.2.1, ih (listed.setIfInBounds j true) a' w' hfree' (ready_mono hr (Ne.symm hji)) h3.1 (hback h3.2.1) hti ?_⟩) h2
   rw [Array.setIfInBounds_comm _ _ hji]
   exact h3.2.2
theorem wpAnyR_pure {i d : Nat} {oi : Oper} (v : Value) {fuel : Nat} {listed : Array Bool} {a : Act} {w : World} (hi : ops[i]? = some oi) (hd : oi.dst = some d)
 (hok : pureOk md ops listed i = true) (hti : t ≠ i)
 (hQ : ∀ c a w, Q (.panic c) (a.put oi.dst v) w -> Q (.panic c) a w) (hw : Region.wanted oi (yielded ops a.tmps) = true) (hy : ∀ w, (execOp a.eval oi).run P w = .ok (.value v) w) (hS : listed.getD t true = false -> S w)
 (h : wpAnyR P md ops Q S t fuel (listed.setIfInBounds i true) { a with tmps := a.tmps.setIfInBounds d v } w) : wpAnyR P md ops Q S t (fuel + 1) listed a w := by
 have h : wpAnyR P md ops Q S t fuel (listed.setIfInBounds i true) (a.put oi.dst v) w := by rw [hd]; exact h
 simp only [pureOk, Bool.and_eq_true] at hok
 obtain ⟨⟨h1, h2⟩, h3⟩ := hok
 exact wpAnyR_first0 hi (Region.noSelect_spec h1) hQ fuel listed a w (Region.free_spec hi h2) (by simpa using h3) (.inl ⟨hw, fun w _ => hy w⟩) hS hti h
theorem wpAnyR_one {i : Nat} {o : Oper} {fuel : Nat} {listed : Array Bool} {a : Act} {w : World} (hr : Region.ready md ops listed = [i]) (ho : ops[i]? = some o)
 (h : ∀ K' : Act -> World -> Prop, Shut (∀ a w, ((listed.setIfInBounds i true).getD t true = false -> S w) -> wpAnyR P md ops Q S t fuel (listed.setIfInBounds i true) a w -> K' a w) -> if Region.wanted o (yielded ops a.tmps) = true then Oper.wp P o a w K' Q else K' (a.put o.dst undef) w) :
 wpAnyR P md ops Q S t (fuel + 1) listed a w := by
 refine ⟨fun h0 => (by rw [hr] at h0; cases h0), fun j hj => ?_⟩
 rw [hr] at hj
 obtain rfl : j = i := by simpa using hj
 exact wpOp_step ho (fun K' hK => h K' (fun a w hS hW => hK a w ⟨hS, hW⟩))
theorem wpAnyR_two {i j : Nat} {oi oj : Oper} {fuel : Nat} {listed : Array Bool} {a : Act} {w : World} (hr : Region.ready md ops listed = [i, j]) (hi : ops[i]? = some oi) (hj : ops[j]? = some oj)
 (h1 : ∀ K' : Act -> World -> Prop, Shut (∀ a w, ((listed.setIfInBounds i true).getD t true = false -> S w) -> wpAnyR P md ops Q S t fuel (listed.setIfInBounds i true) a w -> K' a w) -> if Region.wanted oi (yielded ops a.tmps) = true then Oper.wp P oi a w K' Q else K' (a.put oi.dst undef) w)
 (h2 : ∀ K' : Act -> World -> Prop, Shut (∀ a w, ((listed.setIfInBounds j true).getD t true = false -> S w) -> wpAnyR P md ops Q S t fuel (listed.setIfInBounds j true) a w -> K' a w) -> if Region.wanted oj (yielded ops a.tmps) = true then Oper.wp P oj a w K' Q else K' (a.put oj.dst undef) w) :
 wpAnyR P md ops Q S t (fuel + 1) listed a w := by
 refine ⟨fun h0 => (by rw [hr] at h0; cases h0), fun k hk => ?_⟩
 rw [hr] at hk
 rcases List.mem_cons.1 hk with rfl | hk
 ·exact wpOp_step hi (fun K' hK => h1 K' (fun a w hS hW => hK a w ⟨hS, hW⟩))
 ·obtain rfl : k = j := by simpa using hk
  exact wpOp_step hj (fun K' hK => h2 K' (fun a w hS hW => hK a w ⟨hS, hW⟩))
theorem wpAnyR_done {fuel : Nat} {listed : Array Bool} {a : Act} {w : World} (hr : Region.ready md ops listed = []) (h : Q .normal a w) : wpAnyR P md ops Q S t fuel listed a w := by
 cases fuel with
 | zero => exact ⟨hr, h⟩
 | succ fuel => exact ⟨fun _ => h, fun j hj => (by rw [hr] at hj; cases hj)⟩
theorem wp_region_rel (S : World -> Prop) (t n : Nat) {id : Nat} {a : Act} {w : World} (hm : P.follows .mixedOrders = true) (hn : ops.size = n)
 (h : wpAnyR P .any ops Q S t n (Array.replicate n false) a w.drew) : (Code.region id ops true).wp P Q a w :=
 wp_region_any hm (wpAny_of_rel _ _ _ _ (hn ▸ h))
end
open Go.RowKit
def headsTo (a : LFact) (S : List (List Int)) : Nat -> List LFact
 | 0 => []
 | k + 1 => if headOk a (S.getD k []) then factsWith (headsTo a S k) (headOf a (S.getD k [])) else headsTo a S k
theorem headsTo_yes {a : LFact} {S : List (List Int)} {k : Nat} (h : k < S.length) (e : headOk a S[k] = true) : headsTo a S (k + 1) = factsWith (headsTo a S k) (headOf a S[k]) := by
 have hd : S.getD k [] = S[k] := by simp [h]
 show (if _ then _ else _) = _
 rw [hd, if_pos e]
theorem headsTo_no {a : LFact} {S : List (List Int)} {k : Nat} (h : k < S.length) (e : headOk a S[k] = false) : headsTo a S (k + 1) = headsTo a S k := by
 have hd : S.getD k [] = S[k] := by simp [h]
 show (if _ then _ else _) = _
 rw [hd, if_neg (by rw [e]; simp)]
theorem headsTo_bound {a : LFact} {S : List (List Int)} (ha : a.2.length <= 2) : ∀ k, (headsTo a S k).length <= k /\ tot (headsTo a S k) <= k * 2
 | 0 => ⟨Nat.le_refl _, Nat.le_refl _⟩
 | k + 1 => by
  have ih := headsTo_bound (S := S) ha k
  show List.length (if _ then _ else _) <= _ /\ tot (if _ then _ else _) <= _
  split
  ·have hb := factsWith_bound (headsTo a S k) (headOf a (S.getD k []))
   have hl := headOf_length a (S.getD k [])
   omega
  ·omega
def headsL (r : LRule) (gs : List LFact) : List LFact := headsTo r.1 (solsOf gs r.2) (solsOf gs r.2).length
set_option maxHeartbeats 8000000 in
set_option maxRecDepth 100000 in
theorem l4Of_any (v v2 : Value) (r : LRule) (gs : List LFact) (w : World) (h : RdRule w w.heap.size v r) (h2 : RdFacts w w.heap.size v2 gs) (hn : gs.length <= 1048576) (ht : tot gs <= 1048576) (hl : r.2.length + totL r.2 <= 1048576)
 (hc : ∀ f ∈ gs, f.2.all constOk = true) (hnd : gs.Nodup) (hT : ∀ l ∈ r.2, l.2.2.all termOk = true) (ha : r.1.2.length <= 2) :
 Calls Tryz.prog 228 #[v, v2] w fun e w' => ∃ A c, e = .returned (.slice A (headsL r gs).length c) /\ OwnFacts w' w.heap.size w'.heap.size (.slice A (headsL r gs).length c) (headsL r gs) /\ Below w.heap.size w w' := by
 obtain ⟨a, b, rfl, h, h3⟩ := h
 have H := Lib.hid h
 have H2 := Lib.hid h2
 have H3 := Lib.hid h3
 obtain ⟨A, c, rfl, hcA, _⟩ := h
 obtain ⟨A2, c2, rfl, hc2, _⟩ := h2
 obtain ⟨A3, c3, rfl, hc3, _⟩ := h3
 obtain ⟨S, hS⟩ : ∃ S, S = solsOf gs r.2 := ⟨_, rfl⟩
 have HOKS := Lib.hid (show (∀ s ∈ S, bindOk s = true) /\ S.length <= 65536 from by
  obtain ⟨h1, h2⟩ := bindsTo_ok hc hnd hT (Nat.le_refl _)
  rw [hS]
  have hup := (triedTo_is gs (restTo r.2 r.2.length) (bindsTo gs r.2 r.2.length) _ (Nat.le_refl _)).1
  have hok : ∀ s ∈ solsOf gs r.2, bindOk s = true := fun s hs => h1 s (triedTo_sub (Nat.le_refl _) s hs)
  exact ⟨hok, binds_len hup.nodup hok⟩)
 have CL := Lib.hid (fun W (hW : Below w.heap.size w W) => l3Solutions_any (.slice A2 gs.length c2) (.slice A3 r.2.length c3) gs r.2 S hS W (H2.out.on hW) (H3.out.on hW) hn ht hl hc hnd hT)
 have HR := Lib.hid (show headsL r gs = headsTo r.1 S S.length by rw [hS]; rfl)
 clear hc hnd hT hS
 go_enter Tryz.func228, Tryz.ntmps228
 go_upto_region 1 with fail
 obtain ⟨w1, hw1⟩ : ∃ w1, w1 = w.alloc (Obj.cells #[Value.int IntKind.i64 r.1.1, Value.slice A r.1.2.length c, Value.slice A3 r.2.length c3] 138) := ⟨_, rfl⟩
 have X1 : Blk w1 w.heap.size 138 #[.int .i64 r.1.1, .slice A r.1.2.length c, .slice A3 r.2.length c3] := by rw [hw1]; exact Blk.new _ _ _
 have B1 : Below w.heap.size w w1 := by rw [hw1]; exact below1 _ _
 rw [<- hw1]
 clear hw1
 go_upto_region 2 with fail
 obtain ⟨w2, hw2⟩ : ∃ w2, w2 = w1.alloc (Obj.cells #[] 66) := ⟨_, rfl⟩
 have b2 : Below w1.heap.size w1 w2 := by rw [hw2]; exact below1 _ _
 have HO2 := Lib.hid (show OwnFacts w2 w1.heap.size w2.heap.size (.slice (some ⟨w1.heap.size, 0, none⟩) 0 0) [] by rw [hw2]; exact (ColRel.empty w1).own.own)
 rw [<- hw2]
 clear hw2
 have X2 := X1.below b2 X1.lt
 have B2 := bthen B1 b2
 have hs12 := b2.size
 have hs01 := B1.size
 have x0 : w2.cell? ⟨w.heap.size, 0, none⟩ = some (.int .i64 r.1.1) := X2.cell 0
 have x1 : w2.cell? ⟨w.heap.size, 1, none⟩ = some (.slice A r.1.2.length c) := X2.cell 1
 have x2 : w2.cell? ⟨w.heap.size, 2, none⟩ = some (.slice A3 r.2.length c3) := X2.cell 2
 clear X1 b2 B1
 go_wp2_with (go_at_call 152; refine (CL.out _ B2).mono ?_; rintro e w3 ⟨A4, c4, rfl, o4, b4⟩; have H4 := Lib.hid (And.intro o4 b4); clear o4 b4)
 obtain ⟨o4, b4⟩ := H4.out
 have HX3 := Lib.hid (X2.below b4 X2.lt)
 have HS3 := Lib.hid o4
 have B3 := bthen B2 b4
 have hs23 := b4.size
 have HO3 := Lib.hid ((HO2.out.below b4 (Nat.le_refl _)).mono (show w.heap.size <= w1.heap.size by omega) (show w2.heap.size <= w3.heap.size by omega))
 have H1 := Lib.hid (H.out.on B3)
 have hXl : w.heap.size < w3.heap.size := HX3.out.lt
 clear o4 b4 H4 x0 x1 x2 X2 CL HO2
 go_loopw [5, 7] (fun vo vi wr => ∃ (k : Nat) (Ao : Option Addr) (co : Nat), k <= S.length /\ vi = .int .i64 k /\ vo = .slice Ao (headsTo r.1 S k).length co /\ OwnFacts wr w.heap.size wr.heap.size (.slice Ao (headsTo r.1 S k).length co) (headsTo r.1 S k) /\ Below w3.heap.size w3 wr) (fun _ vi _ => S.length - (intOf vi).toNat)
 case atStart => exact ⟨0, _, 0, Nat.zero_le _, rfl, rfl, HO3.out, Below.refl _ _⟩
 case round =>
  obtain ⟨k, Ao, co, hk, rfl, rfl, hout, hbe⟩ := hrel
  by_cases hlt : k < S.length
  ·obtain ⟨g, A7, c7, rfl, hgl, r0, o7⟩ := (HS3.out.below hbe (Nat.le_refl _)).get hlt
   have hsz := hbe.size
   have hb4 := Lib.hid (HOKS.out.1 _ (List.getElem_mem hlt))
   have hb5 : S[k].length <= 1048576 := by rw [bindOk_len hb4.out]; decide
   obtain ⟨F, hF⟩ : ∃ F, F = headOf r.1 S[k] := ⟨_, rfl⟩
   obtain ⟨ok, hok⟩ : ∃ ok, ok = headOk r.1 S[k] := ⟨_, rfl⟩
   have HM := Lib.hid (show ∀ W, Below wr.heap.size wr W -> Calls Tryz.prog 143 #[.agg #[.int .i64 r.1.1, .slice A r.1.2.length c], .slice A7 S[k].length c7] W fun e w' => ∃ A' c', e = .returned (.tuple #[.agg #[.int .i64 F.1, .slice A' F.2.length c'], .bool ok]) /\ OwnInts w' W.heap.size w'.heap.size (.slice A' F.2.length c') F.2 /\ Below W.heap.size W w' from fun W hW => by
    rw [hF, hok]
    exact specHeadOf_any _ _ r.1 S[k] W ⟨_, rfl, (H1.out.on hbe).on hW⟩ ((o7.below hW (by omega)).rd.more (by have := hW.size; omega)) (by omega) hb5)
   have HF := Lib.hid (And.intro hF hok)
   have HOUT := Lib.hid hout
   have HBE := Lib.hid hbe
   have q0 : wr.cell? ⟨w.heap.size, 0, none⟩ = some (.int .i64 r.1.1) := (HX3.out.below hbe hXl).cell 0
   have q1 : wr.cell? ⟨w.heap.size, 1, none⟩ = some (.slice A r.1.2.length c) := (HX3.out.below hbe hXl).cell 1
   clear o7 hF hok hout hbe
   obtain ⟨SS, hSS⟩ : ∃ SS : World -> Prop, SS = (fun W => Below wr.heap.size wr W /\ W.cell? ⟨w.heap.size, 0, none⟩ = some (.int .i64 r.1.1) /\ W.cell? ⟨w.heap.size, 1, none⟩ = some (.slice A r.1.2.length c) /\ W.cell? ⟨g, k, none⟩ = some (.slice A7 S[k].length c7)) := ⟨_, rfl⟩
   have HB := Lib.hid (show ∀ W, SS W -> (Below wr.heap.size wr W /\ W.cell? ⟨w.heap.size, 0, none⟩ = some (.int .i64 r.1.1) /\ W.cell? ⟨w.heap.size, 1, none⟩ = some (.slice A r.1.2.length c) /\ W.cell? ⟨g, k, none⟩ = some (.slice A7 S[k].length c7)) from by rw [hSS]; exact fun W hW => hW)
   have HS := Lib.hid (show ∀ W, Below wr.heap.size wr W -> SS W from by
    rw [hSS]
    exact fun W hW => ⟨hW, (hW.cell (World.block_lt_of_cell? _ _ q0)).trans q0, (hW.cell (World.block_lt_of_cell? _ _ q1)).trans q1, (hW.cell (World.block_lt_of_cell? _ _ r0)).trans r0⟩)
   clear hSS
   go_upto_region 6 with fail
   go_cut [8, 9] (fun s8 s9 wx => ∃ (gb : Nat) (A' : Option Addr) (c' : Nat), s8 = .pointer (some ⟨gb, 0, none⟩) /\ s9 = .bool ok /\ Blk wx gb 66 #[.int .i64 F.1, .slice A' F.2.length c'] /\ OwnInts wx wr.heap.size wx.heap.size (.slice A' F.2.length c') F.2 /\ Below wr.heap.size wr wx)
   case first =>
    have BB : Below wr.heap.size wr wr.drew := (Below.refl _ _).drew
    have SB := HS.out _ BB
    refine wp_region_rel SS 11 13 (by kernel_rfl) rfl ?_
    refine wpAnyR_pure (i := 0) (oi := _) ?v0 rfl rfl (by kernel_rfl) (by decide) (fun _ _ _ h => h) rfl ?hy0 (fun _ => SB) ?rest0
    case hy0 => (intro W; go_simp; (try with_reducible rfl))
    try simp only [List.setIfInBounds_toArray, List.set_cons_zero, List.set_cons_succ]
    refine wpAnyR_take (i := 1) (oi := _) ?v1 rfl rfl (by kernel_rfl) (fun _ _ _ h => h) rfl ?hy1 SB ?rest1
    case hy1 => (intro W hW; obtain ⟨_, e0, e1, e2⟩ := HB.out W hW; go_simp; (try with_reducible rfl))
    try simp only [List.setIfInBounds_toArray, List.set_cons_zero, List.set_cons_succ]
    refine wpAnyR_pure (i := 2) (oi := _) ?v2 rfl rfl (by kernel_rfl) (by decide) (fun _ _ _ h => h) rfl ?hy2 (fun _ => SB) ?rest2
    case hy2 => (intro W; go_simp; (try with_reducible rfl))
    try simp only [List.setIfInBounds_toArray, List.set_cons_zero, List.set_cons_succ]
    refine wpAnyR_pure (i := 3) (oi := _) ?v3 rfl rfl (by kernel_rfl) (by decide) (fun _ _ _ h => h) rfl ?hy3 (fun _ => SB) ?rest3
    case hy3 => (intro W; go_simp; (try with_reducible rfl))
    try simp only [List.setIfInBounds_toArray, List.set_cons_zero, List.set_cons_succ]
    refine wpAnyR_pure (i := 4) (oi := _) ?v4 rfl rfl (by kernel_rfl) (by decide) (fun _ _ _ h => h) rfl ?hy4 (fun _ => SB) ?rest4
    case hy4 => (intro W; go_simp; (try with_reducible rfl))
    try simp only [List.setIfInBounds_toArray, List.set_cons_zero, List.set_cons_succ]
    refine wpAnyR_take (i := 5) (oi := _) ?v5 rfl rfl (by kernel_rfl) (fun _ _ _ h => h) rfl ?hy5 SB ?rest5
    case hy5 => (intro W hW; obtain ⟨_, e0, e1, e2⟩ := HB.out W hW; go_simp; (try with_reducible rfl))
    try simp only [List.setIfInBounds_toArray, List.set_cons_zero, List.set_cons_succ]
    refine wpAnyR_two (i := 6) (j := 10) (by kernel_rfl) rfl rfl (fun K hK => ?_) (fun K hK => ?_)
    ·try rw [if_pos (show Region.wanted _ _ = true from rfl)]
     go_simp
     refine (HM.out _ BB).mono ?_
     rintro e W6 ⟨A', c', rfl, ho6, hb6⟩
     have BB6 := bthen BB hb6
     have SB := HS.out _ BB6
     refine hK.out _ _ (fun _ => SB) ?_
     clear hK K
     try simp only [List.setIfInBounds_toArray, List.set_cons_zero, List.set_cons_succ, Act.put]
     refine wpAnyR_pure (i := 7) (oi := _) ?v7 rfl rfl (by kernel_rfl) (by decide) (fun _ _ _ h => h) rfl ?hy7 (fun _ => SB) ?rest7
     case hy7 => (intro W; go_simp; (try with_reducible rfl))
     try simp only [List.setIfInBounds_toArray, List.set_cons_zero, List.set_cons_succ]
     refine wpAnyR_pure (i := 8) (oi := _) ?v8 rfl rfl (by kernel_rfl) (by decide) (fun _ _ _ h => h) rfl ?hy8 (fun _ => SB) ?rest8
     case hy8 => (intro W; go_simp; (try with_reducible rfl))
     try simp only [List.setIfInBounds_toArray, List.set_cons_zero, List.set_cons_succ]
     refine wpAnyR_pure (i := 9) (oi := _) ?v9 rfl rfl (by kernel_rfl) (by decide) (fun _ _ _ h => h) rfl ?hy9 (fun _ => SB) ?rest9
     case hy9 => (intro W; go_simp; (try with_reducible rfl))
     try simp only [List.setIfInBounds_toArray, List.set_cons_zero, List.set_cons_succ]
     refine wpAnyR_one (i := 10) (by kernel_rfl) rfl (fun K hK => ?_)
     try rw [if_pos (show Region.wanted _ _ = true from rfl)]
     go_simp
     obtain ⟨W7, hW7⟩ : ∃ W7, W7 = W6.alloc (Obj.cells #[Value.int IntKind.i64 0, Value.slice none 0 0] 66) := ⟨_, rfl⟩
     rw [<- hW7]
     have b67 : Below W6.heap.size W6 W7 := by rw [hW7]; exact below1 _ _
     have BB7 := bthen BB6 b67
     have X7 : Blk W7 W6.heap.size 66 #[.int .i64 0, .slice none 0 0] := by rw [hW7]; exact Blk.new _ _ _
     have H67 := BB6.size
     have HO7 := ho6.below b67 (Nat.le_refl _)
     have SB := HS.out _ BB7
     refine hK.out _ _ (fun _ => SB) ?_
     clear hK K hW7 ho6 hb6
     try simp only [List.setIfInBounds_toArray, List.set_cons_zero, List.set_cons_succ, Act.put]
     refine wpAnyR_one (i := 11) (by kernel_rfl) rfl (fun K hK => ?_)
     try rw [if_pos (show Region.wanted _ _ = true from rfl)]
     have y0 := X7.cell 0
     have y1 := X7.cell 1
     have z0 := X7.frozen 0
     have z1 := X7.frozen 1
     simp at y0 y1
     go_simp
     refine hK.out _ _ (fun hf => absurd hf (by decide)) ?_
     clear hK K y0 y1 z0 z1
     refine wpAnyR_one (i := 12) (by kernel_rfl) rfl (fun K hK => ?_)
     go_simp
     refine hK.out _ _ (fun hf => absurd hf (by decide)) ?_
     clear hK K
     refine wpAnyR_done (by kernel_rfl) ?_
     go_wp2_with (fail)
     go_meet
     have b6x := ((show Below W6.heap.size W6 W7 from b67).setCell (p := ⟨W6.heap.size, 0, none⟩) (Nat.le_refl _) (Value.int .i64 F.1)).setCell (p := ⟨W6.heap.size, 1, none⟩) (Nat.le_refl _) (Value.slice A' F.2.length c')
     exact ⟨W6.heap.size, A', c', rfl, rfl, by simpa using (X7.set_ 0 (.int .i64 F.1)).set_ 1 (.slice A' F.2.length c'), ((HO7.set (p := ⟨W6.heap.size, 0, none⟩) (.inr (Nat.le_refl _)) (Value.int .i64 F.1)).set (p := ⟨W6.heap.size, 1, none⟩) (.inr (Nat.le_refl _)) (Value.slice A' F.2.length c')).mono (Nat.le_refl _) b6x.size, bthen BB6 b6x⟩
    ·try rw [if_pos (show Region.wanted _ _ = true from rfl)]
     go_simp
     obtain ⟨W5, hW5⟩ : ∃ W5, W5 = wr.drew.alloc (Obj.cells #[Value.int IntKind.i64 0, Value.slice none 0 0] 66) := ⟨_, rfl⟩
     try rw [show (wr.alloc (Obj.cells #[Value.int IntKind.i64 0, Value.slice none 0 0] 66)).drew = wr.drew.alloc (Obj.cells #[Value.int IntKind.i64 0, Value.slice none 0 0] 66) from rfl]
     rw [<- hW5]
     have b45 : Below wr.drew.heap.size wr.drew W5 := by rw [hW5]; exact below1 _ _
     have BB5 := bthen BB b45
     have X5 : Blk W5 wr.heap.size 66 #[.int .i64 0, .slice none 0 0] := by rw [hW5]; exact Blk.new _ _ _
     have SB := HS.out _ BB5
     refine hK.out _ _ (fun _ => SB) ?_
     clear hK K hW5
     try simp only [List.setIfInBounds_toArray, List.set_cons_zero, List.set_cons_succ, Act.put]
     refine wpAnyR_one (i := 6) (by kernel_rfl) rfl (fun K hK => ?_)
     try rw [if_pos (show Region.wanted _ _ = true from rfl)]
     go_simp
     refine (HM.out _ BB5).mono ?_
     rintro e W6 ⟨A', c', rfl, ho6, hb6⟩
     have hs5 := X5.lt
     have X6 := X5.below hb6 hs5
     have BB6 := bthen BB5 hb6
     have hs6 := hb6.size
     have SB := HS.out _ BB6
     refine hK.out _ _ (fun _ => SB) ?_
     clear hK K
     try simp only [List.setIfInBounds_toArray, List.set_cons_zero, List.set_cons_succ, Act.put]
     refine wpAnyR_pure (i := 7) (oi := _) ?v7b rfl rfl (by kernel_rfl) (by decide) (fun _ _ _ h => h) rfl ?hy7b (fun _ => SB) ?rest7b
     case hy7b => (intro W; go_simp; (try with_reducible rfl))
     try simp only [List.setIfInBounds_toArray, List.set_cons_zero, List.set_cons_succ]
     refine wpAnyR_pure (i := 8) (oi := _) ?v8b rfl rfl (by kernel_rfl) (by decide) (fun _ _ _ h => h) rfl ?hy8b (fun _ => SB) ?rest8b
     case hy8b => (intro W; go_simp; (try with_reducible rfl))
     try simp only [List.setIfInBounds_toArray, List.set_cons_zero, List.set_cons_succ]
     refine wpAnyR_pure (i := 9) (oi := _) ?v9b rfl rfl (by kernel_rfl) (by decide) (fun _ _ _ h => h) rfl ?hy9b (fun _ => SB) ?rest9b
     case hy9b => (intro W; go_simp; (try with_reducible rfl))
     try simp only [List.setIfInBounds_toArray, List.set_cons_zero, List.set_cons_succ]
     refine wpAnyR_one (i := 11) (by kernel_rfl) rfl (fun K hK => ?_)
     try rw [if_pos (show Region.wanted _ _ = true from rfl)]
     have y0 := X6.cell 0
     have y1 := X6.cell 1
     have z0 := X6.frozen 0
     have z1 := X6.frozen 1
     simp at y0 y1
     go_simp
     refine hK.out _ _ (fun hf => absurd hf (by decide)) ?_
     clear hK K y0 y1 z0 z1
     refine wpAnyR_one (i := 12) (by kernel_rfl) rfl (fun K hK => ?_)
     go_simp
     refine hK.out _ _ (fun hf => absurd hf (by decide)) ?_
     clear hK K
     refine wpAnyR_done (by kernel_rfl) ?_
     go_wp2_with (fail)
     go_meet
     have b6x := ((Below.refl wr.heap.size W6).setCell (p := ⟨wr.heap.size, 0, none⟩) (Nat.le_refl _) (Value.int .i64 F.1)).setCell (p := ⟨wr.heap.size, 1, none⟩) (Nat.le_refl _) (Value.slice A' F.2.length c')
     exact ⟨wr.heap.size, A', c', rfl, rfl, by simpa using (X6.set_ 0 (.int .i64 F.1)).set_ 1 (.slice A' F.2.length c'), ((ho6.set (p := ⟨wr.heap.size, 0, none⟩) (.inl hs5) (Value.int .i64 F.1)).set (p := ⟨wr.heap.size, 1, none⟩) (.inl hs5) (Value.slice A' F.2.length c')).mono (Nat.le_of_lt hs5) b6x.size, BB6.trans b6x⟩
   case rest =>
    obtain ⟨gb, A', c', rfl, rfl, X, ox, bx⟩ := hcut
    have HOX := Lib.hid ((HOUT.out.below bx (Nat.le_refl _)).mono (Nat.le_refl _) bx.size)
    have HBX := Lib.hid (bthen HBE.out bx)
    obtain ⟨hF, hok⟩ := HF.out
    have hbd := headsTo_bound (S := S) ha k
    have hS5 := HOKS.out.2
    have hFl : F.2.length <= 2 := by rw [hF]; exact Nat.le_trans (headOf_length _ _) ha
    have c0 : World.cell? _ ⟨gb, 0, none⟩ = some (.int .i64 F.1) := X.cell 0
    have c1 : World.cell? _ ⟨gb, 1, none⟩ = some (.slice A' F.2.length c') := X.cell 1
    have HCW := Lib.hid (specFactsWith_any (.slice Ao (headsTo r.1 S k).length co) (.agg #[.int .i64 F.1, .slice A' F.2.length c']) (headsTo r.1 S k) F _ HOX.out.rd ⟨_, rfl, ox.rd⟩ (by omega) (by omega) (by omega))
    have HXB := Lib.hid (And.intro hF hok)
    clear HF hF hok HS HB HM ox X
    by_cases hb : ok = true
    ·have HE := Lib.hid (show headsTo r.1 S (k + 1) = factsWith (headsTo r.1 S k) F from by rw [headsTo_yes hlt (by rw [<- HXB.out.2]; exact hb), HXB.out.1])
     subst hb
     go_wp2_with (first
      | (go_at_call 162; refine HCW.out.mono ?_; rintro e w5 ⟨A8, c8, rfl, o8, b8⟩; have H8 := Lib.hid (And.intro o8 b8); clear o8 b8))
     go_roundw
     case rel => exact ⟨k + 1, A8, c8, by omega, by go_num, by rw [HE.out], by rw [HE.out]; exact H8.out.1.mono (by have := HBX.out.size; omega) (Nat.le_refl _), bthen HBX.out H8.out.2⟩
     case measure => simp [intOf]; omega
    ·have hb : ok = false := by simpa using hb
     have HE := Lib.hid (show headsTo r.1 S (k + 1) = headsTo r.1 S k from headsTo_no hlt (by rw [<- HXB.out.2]; exact hb))
     subst hb
     go_wp2_with (fail)
     go_roundw
     case rel => exact ⟨k + 1, Ao, co, by omega, by go_num, by rw [HE.out], by rw [HE.out]; exact HOX.out, HBX.out⟩
     case measure => simp [intOf]; omega
  ·obtain rfl : k = S.length := by omega
   go_wp2_with (fail)
   go_ret
   refine ⟨Ao, co, by rw [HR.out]; rfl, ?_, bthen B3 hbe⟩
   rw [HR.out]
   exact hout
open Go.RowKit
open Go.RowKit
theorem withStep_mem (f : LFact) : ∀ (l : List LFact) (out : List LFact) (b : Bool), (b = true -> f ∈ out) -> ∀ x, x ∈ endW f (l.foldl (withStep f) (out, b)) <-> x ∈ out \/ x ∈ l \/ x = f
 | [], out, b, hb, x => by
  cases b
  ·simp [endW]
  ·have := hb rfl
   simp only [List.foldl_nil, endW, if_true, List.not_mem_nil, false_or]
   constructor
   ·exact .inl
   ·rintro (h | rfl) <;> assumption
 | g :: l, out, b, hb, x => by
  rw [List.foldl_cons]
  have e : withStep f (out, b) g = ((withStep f (out, b) g).1, (withStep f (out, b) g).2) := rfl
  rw [e, withStep_mem f l _ _ ?_ x]
  ·unfold withStep
   cases b
   ·rcases Int.lt_trichotomy (factOrder f g) 0 with h1 | h1 | h1
    ·simp [show factOrder f g <= 0 by omega, show factOrder f g ≠ 0 by omega]
     grind
    ·have e2 := order_eq h1
     subst e2
     simp [order_refl]
     grind
    ·simp [show ¬ factOrder f g <= 0 by omega, show factOrder f g ≠ 0 by omega]
     grind
   ·have hf := hb rfl
    by_cases h1 : factOrder f g = 0
    ·have e2 := order_eq h1
     subst e2
     simp [order_refl]
     grind
    ·simp [h1]
     grind
  ·intro hb2
   unfold withStep at hb2 ⊢
   cases b
   ·have h1 : factOrder f g <= 0 := by simpa using hb2
    simp [h1]
   ·exact List.mem_append_left _ (by simpa using hb rfl)
theorem factsWith_mem (fs : List LFact) (f x : LFact) : x ∈ factsWith fs f <-> x ∈ fs \/ x = f := by
 have := withStep_mem f fs [] false (by simp) x
 unfold endW at this
 unfold factsWith withTo
 rw [List.take_length]
 simpa using this
open Go.RowKit
def atomFits (ar : List Int) (f : LFact) : Bool := decide (0 <= f.1 /\ f.1 < ar.length /\ (f.2.length : Int) = ar.getD f.1.toNat 0) && f.2.all termOk
def atomOk (ar : List Int) (f : LFact) : Bool := arityOk ar && atomFits ar f
set_option maxHeartbeats 1000000 in
set_option maxRecDepth 100000 in
theorem atomFits_any (v v2 : Value) (ar : List Int) (f : LFact) (w : World) (h : RdInts w w.heap.size v ar) (h2 : RdFact w w.heap.size v2 f) (hn : f.2.length <= 1048576) :
 Calls Tryz.prog 130 #[v, v2] w fun e w' => e = .returned (.bool (atomFits ar f)) /\ Below w.heap.size w w' := by
 obtain ⟨pp, xs⟩ := f
 obtain ⟨A, c, rfl, hc, h⟩ := h
 obtain ⟨a, rfl, h2⟩ := h2
 have HT := Lib.hid (fun n (O : Obj) => quiet_left (areTerms_any a xs w.heap.size ((w.alloc O).drewN n) ((h2.below (below1 w O) (Nat.le_refl _)).below (bdrewN (Below.refl _ _) _) (Nat.le_refl _)) hn))
 obtain ⟨A2, c2, rfl, hc2, h2⟩ := h2
 by_cases h0 : pp < 0
 ·have hd : decide (0 <= pp) = false := by simpa using h0
  have HE := Lib.hid (show atomFits ar (pp, xs) = false by simp [atomFits]; omega)
  go_enter Tryz.func130, Tryz.ntmps130
  go_wp2_with (fail)
  go_quiet (fail)
  go_wp2_with (fail)
  go_ret
  exact ⟨ret_bool HE.out.symm, bdrewN (below1 _ _) _⟩
 ·have hd : decide (0 <= pp) = true := by simpa using h0
  obtain ⟨p, rfl⟩ := Int.eq_ofNat_of_zero_le (Int.not_lt.1 h0)
  by_cases h1 : (ar.length : Int) <= p
  ·have hd1 : decide (p < ar.length) = false := by simp; omega
   have HE := Lib.hid (show atomFits ar ((p : Int), xs) = false by simp [atomFits]; omega)
   go_enter Tryz.func130, Tryz.ntmps130
   go_wp2_with (fail)
   go_quiet (fail)
   go_wp2_with (fail)
   go_ret
   exact ⟨ret_bool HE.out.symm, bdrewN (below1 _ _) _⟩
  ·have hlt : p < ar.length := by omega
   have hltI : (p : Int) < (ar.length : Int) := by omega
   have hd1 : decide ((p : Int) < (ar.length : Int)) = true := by simpa using hltI
   obtain ⟨b, o, rfl, hbB, hx⟩ := h (by omega)
   have hck : ∀ O, (w.alloc O).cell? ⟨b, o + p, none⟩ = some (.int .i64 ar[p]) := fun O => (World.cell?_alloc_lt w O ⟨b, o + p, none⟩ hbB).trans (hx p hlt)
   by_cases h3 : (xs.length : Int) = ar[p]
   ·have hd3 : ((xs.length : Int) == ar[p]) = true := by simp [h3]
    have H3 := Lib.hid (show atomFits ar ((p : Int), xs) = xs.all termOk by simp [atomFits, hlt, h3])
    clear h3 hx h
    go_enter Tryz.func130, Tryz.ntmps130
    go_wp2_with (fail)
    go_quiet ((go_at_call 176; exact HT.out _ _))
    go_wp2_with (fail)
    go_ret
    exact ⟨ret_bool H3.out.symm, bdrewN (below1 _ _) _⟩
   ·have hd3 : ((xs.length : Int) == ar[p]) = false := by simp [h3]
    have HE := Lib.hid (show atomFits ar ((p : Int), xs) = false by simp [atomFits, hlt, h3])
    clear h3 hx h
    go_enter Tryz.func130, Tryz.ntmps130
    go_wp2_with (fail)
    go_quiet (fail)
    go_wp2_with (fail)
    go_ret
    exact ⟨ret_bool HE.out.symm, bdrewN (below1 _ _) _⟩
set_option maxHeartbeats 1000000 in
set_option maxRecDepth 100000 in
theorem specAtomOk_any (v v2 : Value) (ar : List Int) (f : LFact) (w : World) (h : RdInts w w.heap.size v ar) (h2 : RdFact w w.heap.size v2 f) (hr : ar.length <= 1048576) (hn : f.2.length <= 1048576) :
 Calls Tryz.prog 76 #[v, v2] w fun e w' => e = .returned (.bool (atomOk ar f)) /\ Below w.heap.size w w' := by
 have H := Lib.hid h
 obtain ⟨pp, xs⟩ := f
 obtain ⟨A, c, rfl, hc, h⟩ := h
 obtain ⟨a, rfl, h2⟩ := h2
 have HT := Lib.hid (fun n (O : Obj) => quiet_left (l2Terms_any a xs w.heap.size ((w.alloc O).drewN n) ((h2.below (below1 w O) (Nat.le_refl _)).below (bdrewN (Below.refl _ _) _) (Nat.le_refl _)) hn))
 obtain ⟨A2, c2, rfl, hc2, h2⟩ := h2
 by_cases ha : arityOk ar = true
 ·have CA : ∀ W, Below w.heap.size w W -> Calls Tryz.prog 121 #[.slice A ar.length c] W fun e w' => e = .returned (.bool true) /\ w' = W := fun W hW =>
   (specArityOk_any _ ar W (H.out.on hW) (by omega)).mono fun e w' ⟨he, hw⟩ => ⟨by rw [he, ha], hw.symm⟩
  have HCA := Lib.hid CA
  have HA := Lib.hid ha
  clear CA ha
  by_cases hp : 0 <= pp /\ pp <= (ar.length : Int) - 1
  ·have HCL := Lib.hid (l1In_yes hp)
   obtain ⟨p, rfl⟩ := Int.eq_ofNat_of_zero_le hp.1
   have hlt : p < ar.length := by omega
   have hltI : (p : Int) < (ar.length : Int) := by omega
   obtain ⟨b, o, rfl, hbB, hx⟩ := h (by omega)
   have hck : ∀ O, (w.alloc O).cell? ⟨b, o + p, none⟩ = some (.int .i64 ar[p]) := fun O => (World.cell?_alloc_lt w O ⟨b, o + p, none⟩ hbB).trans (hx p hlt)
   clear hp
   by_cases h3 : (xs.length : Int) = ar[p]
   ·have hd3 : ((xs.length : Int) == ar[p]) = true := by simp [h3]
    have H3 := Lib.hid (show atomOk ar ((p : Int), xs) = xs.all termOk by simp [atomOk, HA.out, atomFits, hlt, h3])
    clear h3 hx h
    go_enter Tryz.func76, Tryz.ntmps76
    go_wp2_with (fail)
    go_quiet (first | (go_at_call 121; exact Calls.quiet_of_same (HCA.out _ (bdrewN (below1 _ _) _))) | (go_at_call 124; exact quiet_left (HCL.out _)) | (go_at_call 125; exact HT.out _ _))
    go_wp2_with (fail)
    go_ret
    exact ⟨ret_bool H3.out.symm, bdrewN (below1 _ _) _⟩
   ·have hd3 : ((xs.length : Int) == ar[p]) = false := by simp [h3]
    have HE := Lib.hid (show atomOk ar ((p : Int), xs) = false by simp [atomOk, atomFits, hlt, h3])
    clear h3 hx h
    go_enter Tryz.func76, Tryz.ntmps76
    go_wp2_with (fail)
    go_quiet (first | (go_at_call 121; exact Calls.quiet_of_same (HCA.out _ (bdrewN (below1 _ _) _))) | (go_at_call 124; exact quiet_left (HCL.out _)))
    go_wp2_with (fail)
    go_ret
    exact ⟨ret_bool HE.out.symm, bdrewN (below1 _ _) _⟩
  ·have HCL := Lib.hid (l1In_no hp)
   have HE := Lib.hid (show atomOk ar (pp, xs) = false by simp [atomOk, atomFits]; omega)
   clear hp
   go_enter Tryz.func76, Tryz.ntmps76
   go_wp2_with (fail)
   go_quiet (first | (go_at_call 121; exact Calls.quiet_of_same (HCA.out _ (bdrewN (below1 _ _) _))) | (go_at_call 124; exact quiet_left (HCL.out _)))
   go_wp2_with (fail)
   go_ret
   exact ⟨ret_bool HE.out.symm, bdrewN (below1 _ _) _⟩
 ·have CA : ∀ W, Below w.heap.size w W -> Calls Tryz.prog 121 #[.slice A ar.length c] W fun e w' => e = .returned (.bool false) /\ w' = W := fun W hW =>
   (specArityOk_any _ ar W (H.out.on hW) (by omega)).mono fun e w' ⟨he, hw⟩ => ⟨by rw [he, show arityOk ar = false by simpa using ha], hw.symm⟩
  have HCA := Lib.hid CA
  have HE := Lib.hid (show atomOk ar (pp, xs) = false by simp [atomOk, ha])
  clear CA ha
  go_enter Tryz.func76, Tryz.ntmps76
  go_wp2_with (fail)
  go_quiet (first | (go_at_call 121; exact Calls.quiet_of_same (HCA.out _ (bdrewN (below1 _ _) _))))
  go_wp2_with (fail)
  go_ret
  exact ⟨ret_bool HE.out.symm, bdrewN (below1 _ _) _⟩
open Go.RowKit
def litFits (ar : List Int) (l : LLit) : Bool :=
 if l.1 = 0 \/ l.1 = 1 then atomFits ar l.2 else if l.1 = 2 \/ l.1 = 3 then (decide (l.2.1 = 0) && decide (l.2.2.length = 2) && l.2.2.all termOk) else false
def litOk (ar : List Int) (l : LLit) : Bool := arityOk ar && litFits ar l
def comparesB (f : LFact) : Bool := decide (f.1 = 0) && decide (f.2.length = 2) && f.2.all termOk
set_option maxHeartbeats 1000000 in
set_option maxRecDepth 100000 in
theorem comparesTerms_any (v : Value) (f : LFact) (w : World) (h : RdFact w w.heap.size v f) (hn : f.2.length <= 1048576) :
 Calls Tryz.prog 258 #[v] w fun e w' => e = .returned (.bool (comparesB f)) /\ Below w.heap.size w w' := by
 obtain ⟨pp, xs⟩ := f
 obtain ⟨a, rfl, h2⟩ := h
 have H2 := Lib.hid (h2.on (below1 w (.cells #[.int .i64 pp, a] 53)))
 obtain ⟨A2, c2, rfl, hc2, _⟩ := h2
 have CT := Lib.hid (areTerms_any _ xs _ _ H2.out hn)
 by_cases hp : pp = 0
 ·subst hp
  by_cases hx : xs.length = 2
  ·have hx2 : ((xs.length : Int) == 2) = true := by simp; omega
   have HE2 := Lib.hid (show comparesB (0, xs) = xs.all termOk by simp [comparesB, hx])
   clear hx
   go_enter Tryz.func258, Tryz.ntmps258
   go_wp2_with (go_at_call 176; refine CT.out.mono ?_; rintro e w5 ⟨rfl, rfl⟩)
   go_ret
   exact ⟨ret_bool HE2.out.symm, below1 _ _⟩
  ·have hx2 : ((xs.length : Int) == 2) = false := by simp; omega
   have HE2 := Lib.hid (show comparesB (0, xs) = false by simp [comparesB, hx])
   clear hx
   go_enter Tryz.func258, Tryz.ntmps258
   go_wp2_with (fail)
   go_ret
   exact ⟨ret_bool HE2.out.symm, below1 _ _⟩
 ·have hp2 : (pp == 0) = false := by simpa using hp
  have HE2 := Lib.hid (show comparesB (pp, xs) = false by simp [comparesB, hp])
  clear hp
  go_enter Tryz.func258, Tryz.ntmps258
  go_wp2_with (fail)
  go_ret
  exact ⟨ret_bool HE2.out.symm, below1 _ _⟩
set_option maxHeartbeats 1000000 in
set_option maxRecDepth 100000 in
theorem litFits_any (v v2 : Value) (ar : List Int) (l : LLit) (w : World) (h : RdInts w w.heap.size v ar) (h2 : RdLit w w.heap.size v2 l) (hn : l.2.2.length <= 1048576) :
 Calls Tryz.prog 222 #[v, v2] w fun e w' => e = .returned (.bool (litFits ar l)) /\ Below w.heap.size w w' := by
 have H := Lib.hid h
 obtain ⟨kd, pp, xs⟩ := l
 obtain ⟨A, c, rfl, hc, _⟩ := h
 obtain ⟨a, rfl, h2⟩ := h2
 have H2 := Lib.hid (h2.on (below1 w (.cells #[.int .i64 kd, .int .i64 pp, a] 191)))
 obtain ⟨A2, c2, rfl, hc2, _⟩ := h2
 by_cases ka : kd = 0 \/ kd = 1
 ·have HE := Lib.hid (show litFits ar (kd, pp, xs) = atomFits ar (pp, xs) by simp [litFits, ka])
  rcases ka with rfl | rfl
  all_goals
   go_enter Tryz.func222, Tryz.ntmps222
   go_wp2_with (go_at_call 130; refine (atomFits_any _ _ ar (pp, xs) _ (H.out.on (below1 _ _)) ⟨_, rfl, H2.out⟩ hn).mono ?_; rintro e w5 ⟨rfl, hb5⟩)
   go_ret
   exact ⟨ret_bool HE.out.symm, bthen (below1 _ _) hb5⟩
 ·have k0 : (kd == 0) = false := by simp; omega
  have k1 : (kd == 1) = false := by simp; omega
  by_cases kb : kd = 2 \/ kd = 3
  ·have HE := Lib.hid (show litFits ar (kd, pp, xs) = comparesB (pp, xs) by simp [litFits, comparesB, ka, kb])
   clear ka k0 k1
   rcases kb with rfl | rfl
   all_goals
    go_enter Tryz.func222, Tryz.ntmps222
    go_wp2_with (go_at_call 258; refine (comparesTerms_any _ (pp, xs) _ ⟨_, rfl, H2.out⟩ hn).mono ?_; rintro e w5 ⟨rfl, hb5⟩)
    go_ret
    exact ⟨ret_bool HE.out.symm, bthen (below1 _ _) hb5⟩
  ·have k2 : (kd == 2) = false := by simp; omega
   have k3 : (kd == 3) = false := by simp; omega
   have HE := Lib.hid (show litFits ar (kd, pp, xs) = false by simp [litFits, ka, kb])
   clear ka kb
   go_enter Tryz.func222, Tryz.ntmps222
   go_wp2_with (fail)
   go_ret
   exact ⟨ret_bool HE.out.symm, below1 _ _⟩
set_option maxHeartbeats 1000000 in
set_option maxRecDepth 100000 in
theorem specLitOk_any (v v2 : Value) (ar : List Int) (l : LLit) (w : World) (h : RdInts w w.heap.size v ar) (h2 : RdLit w w.heap.size v2 l) (hr : ar.length <= 1048576) (hn : l.2.2.length <= 1048576) :
 Calls Tryz.prog 206 #[v, v2] w fun e w' => e = .returned (.bool (litOk ar l)) /\ Below w.heap.size w w' := by
 have H := Lib.hid h
 obtain ⟨kd, pp, xs⟩ := l
 obtain ⟨A, c, rfl, hc, _⟩ := h
 obtain ⟨a, rfl, h2⟩ := h2
 have H2 := Lib.hid (h2.on (below1 w (.cells #[.int .i64 kd, .int .i64 pp, a] 191)))
 obtain ⟨A2, c2, rfl, hc2, _⟩ := h2
 by_cases ka : kd = 0 \/ kd = 1
 ·have HE := Lib.hid (show litOk ar (kd, pp, xs) = atomOk ar (pp, xs) by simp [litOk, atomOk, litFits, ka])
  rcases ka with rfl | rfl
  all_goals
   go_enter Tryz.func206, Tryz.ntmps206
   go_wp2_with (go_at_call 76; refine (specAtomOk_any _ _ ar (pp, xs) _ (H.out.on (below1 _ _)) ⟨_, rfl, H2.out⟩ hr hn).mono ?_; rintro e w5 ⟨rfl, hb5⟩)
   go_ret
   exact ⟨ret_bool HE.out.symm, bthen (below1 _ _) hb5⟩
 ·have k0 : (kd == 0) = false := by simp; omega
  have k1 : (kd == 1) = false := by simp; omega
  by_cases ha : arityOk ar = true
  ·have CA := Lib.hid ((specArityOk_any _ ar _ (H.out.on (below1 w (.cells #[.int .i64 kd, .int .i64 pp, .slice A2 xs.length c2] 191))) (by omega)).mono fun e w' (hh : e = .returned (.bool (arityOk ar)) /\ _ = w') => (⟨by rw [hh.1, ha], hh.2⟩ : e = .returned (.bool true) /\ _ = w'))
   have HA := Lib.hid ha
   clear ha
   by_cases kb : kd = 2 \/ kd = 3
   ·have HE := Lib.hid (show litOk ar (kd, pp, xs) = (decide (pp = 0) && decide (xs.length = 2) && xs.all termOk) by simp [litOk, HA.out, litFits, ka, kb])
    clear ka k0 k1
    have CT := Lib.hid (l2Terms_any _ xs _ _ H2.out hn)
    by_cases hp : pp = 0
    ·subst hp
     by_cases hx : xs.length = 2
     ·have hx2 : ((xs.length : Int) == 2) = true := by simp; omega
      have HE2 := Lib.hid (show litOk ar (kd, 0, xs) = xs.all termOk by rw [HE.out]; simp [hx])
      clear hx
      rcases kb with rfl | rfl
      all_goals
       go_enter Tryz.func206, Tryz.ntmps206
       go_wp2_with (first | (go_at_call 121; refine CA.out.mono ?_; rintro e w5 ⟨rfl, rfl⟩) | (go_at_call 125; refine CT.out.mono ?_; rintro e w5 ⟨rfl, rfl⟩))
       go_ret
       exact ⟨ret_bool HE2.out.symm, below1 _ _⟩
     ·have hx2 : ((xs.length : Int) == 2) = false := by simp; omega
      have HE2 := Lib.hid (show litOk ar (kd, 0, xs) = false by rw [HE.out]; simp [hx])
      clear hx
      rcases kb with rfl | rfl
      all_goals
       go_enter Tryz.func206, Tryz.ntmps206
       go_wp2_with (go_at_call 121; refine CA.out.mono ?_; rintro e w5 ⟨rfl, rfl⟩)
       go_ret
       exact ⟨ret_bool HE2.out.symm, below1 _ _⟩
    ·have hp2 : (pp == 0) = false := by simpa using hp
     have HE2 := Lib.hid (show litOk ar (kd, pp, xs) = false by rw [HE.out]; simp [hp])
     clear hp
     rcases kb with rfl | rfl
     all_goals
      go_enter Tryz.func206, Tryz.ntmps206
      go_wp2_with (go_at_call 121; refine CA.out.mono ?_; rintro e w5 ⟨rfl, rfl⟩)
      go_ret
      exact ⟨ret_bool HE2.out.symm, below1 _ _⟩
   ·have k2 : (kd == 2) = false := by simp; omega
    have k3 : (kd == 3) = false := by simp; omega
    have HE := Lib.hid (show litOk ar (kd, pp, xs) = false by simp [litOk, litFits, ka, kb])
    clear ka kb
    go_enter Tryz.func206, Tryz.ntmps206
    go_wp2_with (go_at_call 121; refine CA.out.mono ?_; rintro e w5 ⟨rfl, rfl⟩)
    go_ret
    exact ⟨ret_bool HE.out.symm, below1 _ _⟩
  ·have CA := Lib.hid ((specArityOk_any _ ar _ (H.out.on (below1 w (.cells #[.int .i64 kd, .int .i64 pp, .slice A2 xs.length c2] 191))) (by omega)).mono fun e w' (hh : e = .returned (.bool (arityOk ar)) /\ _ = w') => (⟨by rw [hh.1, show arityOk ar = false by simpa using ha], hh.2⟩ : e = .returned (.bool false) /\ _ = w'))
   have HE := Lib.hid (show litOk ar (kd, pp, xs) = false by simp [litOk, ha])
   clear ha ka
   go_enter Tryz.func206, Tryz.ntmps206
   go_wp2_with (go_at_call 121; refine CA.out.mono ?_; rintro e w5 ⟨rfl, rfl⟩)
   go_ret
   exact ⟨ret_bool HE.out.symm, below1 _ _⟩
open Go.RowKit
set_option maxHeartbeats 400000 in
theorem ruleVars_any (v : Value) (r : LRule) (w : World) (h : RdRule w w.heap.size v r) (hr : szR r <= 1048576) :
 Calls Tryz.prog 259 #[v] w fun e w' => e = .returned (.int .u64 (ruleMask r : Nat)) /\ Below w.heap.size w w' := by
 obtain ⟨a, b, rfl, h, h2⟩ := h
 unfold szR at hr
 have HW := Lib.hid (show bits .or .u64 ((maskOf r.1.2 : Nat) : Int) ((bodyMask r.2 : Nat) : Int) = (ruleMask r : Nat) from or_word (maskOf_lt _) (bodyMask_lt' _))
 obtain ⟨w1, hw1⟩ : ∃ w1, w1 = w.alloc (Obj.cells #[Value.int IntKind.i64 r.1.1, a, b] 138) := ⟨_, rfl⟩
 have B1 : Below w.heap.size w w1 := by rw [hw1]; exact below1 _ _
 have C1 := Lib.hid (fun x : Later w1 => later_same (argVars_any a r.1.2 _ x.val ((h.on B1).on x.2) (by omega)))
 have C2 := Lib.hid (fun x : Later w1 => later_of (bodyVars_any b r.2 x.val ((h2.on B1).on x.2) (by omega) (by omega)))
 obtain ⟨A, c, rfl, hc, _⟩ := h
 obtain ⟨A2, c2, rfl, hc2, _⟩ := h2
 have x1 : Blk w1 w.heap.size 138 #[.int .i64 r.1.1, .slice A r.1.2.length c, .slice A2 r.2.length c2] := by rw [hw1]; exact Blk.new w _ _
 have M1 := later_cell (x1.cell 1 : w1.cell? ⟨w.heap.size, 1, none⟩ = some (.slice A r.1.2.length c))
 have M2 := later_cell (x1.cell 2 : w1.cell? ⟨w.heap.size, 2, none⟩ = some (.slice A2 r.2.length c2))
 go_enter Tryz.func259, Tryz.ntmps259
 go_wp2_with (fail)
 rw [<- hw1]
 clear hw1
 refine wp_region_later (by kernel_rfl) (by kernel_rfl) ?_
 repeat (go_big_quiet_step (first | (go_at_call 265; exact C1.out _) | (go_at_call 274; exact C2.out _)))
 refine wpQuiet_nil ?_
 rintro _ ⟨xq, rfl⟩
 go_wp2_with (fail)
 go_ret
 exact ⟨ret_int HW.out, bthen B1 xq.2⟩
open Go.RowKit
set_option maxHeartbeats 400000 in
theorem implRuleSafe_any (v : Value) (r : LRule) (w : World) (h : RdRule w w.heap.size v r) (hr : szR r <= 1048576) :
 Calls Tryz.prog 223 #[v] w fun e w' => e = .returned (.bool (ruleSafe r)) /\ Below w.heap.size w w' := by
 obtain ⟨a, b, rfl, h, h2⟩ := h
 obtain ⟨w1, hw1⟩ : ∃ w1, w1 = w.alloc (Obj.cells #[Value.int IntKind.i64 r.1.1, a, b] 138) := ⟨_, rfl⟩
 have B1 : Below w.heap.size w w1 := by rw [hw1]; exact below1 _ _
 have C1 := Lib.hid (fun x : Later w1 => later_of (ruleVars_any _ r x.val ⟨a, b, rfl, (h.on B1).on x.2, (h2.on B1).on x.2⟩ hr))
 have C2 := Lib.hid (fun x : Later w1 => later_of (yesVars_any b r.2 x.val ((h2.on B1).on x.2) (by unfold szR at hr; omega) (by unfold szR at hr; omega)))
 obtain ⟨A, c, rfl, hc, _⟩ := h
 obtain ⟨A2, c2, rfl, hc2, _⟩ := h2
 have x1 : Blk w1 w.heap.size 138 #[.int .i64 r.1.1, .slice A r.1.2.length c, .slice A2 r.2.length c2] := by rw [hw1]; exact Blk.new w _ _
 have M0 := later_cell (x1.cell 0 : w1.cell? ⟨w.heap.size, 0, none⟩ = some (.int .i64 r.1.1))
 have M1 := later_cell (x1.cell 1 : w1.cell? ⟨w.heap.size, 1, none⟩ = some (.slice A r.1.2.length c))
 have M2 := later_cell (x1.cell 2 : w1.cell? ⟨w.heap.size, 2, none⟩ = some (.slice A2 r.2.length c2))
 go_enter Tryz.func223, Tryz.ntmps223
 go_wp2_with (fail)
 rw [<- hw1]
 clear hw1
 refine wp_region_later (by kernel_rfl) (by kernel_rfl) ?_
 repeat (go_big_quiet_step (first | (go_at_call 259; exact C1.out _) | (go_at_call 260; exact C2.out _)))
 refine wpQuiet_nil ?_
 rintro _ ⟨xq, rfl⟩
 go_wp2_with (fail)
 go_ret
 exact ⟨rfl, bthen B1 xq.2⟩
open Go.RowKit
def ruleFits (ar : List Int) (r : LRule) : Bool := atomFits ar r.1 && (decide (r.2.length <= 4) && (r.2.all (litFits ar) && ruleSafe r))
def ruleOk (ar : List Int) (r : LRule) : Bool := arityOk ar && ruleFits ar r
set_option maxHeartbeats 1000000 in
set_option maxRecDepth 100000 in
theorem ruleFits_any (v v2 : Value) (ar : List Int) (r : LRule) (w : World) (h : RdInts w w.heap.size v ar) (h2 : RdRule w w.heap.size v2 r) (hs : szR r <= 1048576) :
 Calls Tryz.prog 172 #[v, v2] w fun e w' => e = .returned (.bool (ruleFits ar r)) /\ Below w.heap.size w w' := by
 have H := Lib.hid h
 have HR := Lib.hid h2
 have hsz := hs
 unfold szR at hs
 obtain ⟨A, c, rfl, hc, _⟩ := h
 obtain ⟨a, b, rfl, h2, h3⟩ := h2
 have H2 := Lib.hid h2
 have H3 := Lib.hid h3
 obtain ⟨A2, c2, rfl, hc2, _⟩ := h2
 obtain ⟨A3, c3, rfl, hc3, _⟩ := h3
 go_enter Tryz.func172, Tryz.ntmps172
 go_wp2_with (fail)
 refine (atomFits_any _ _ ar r.1 _ (H.out.on (below1 _ _)) ⟨_, rfl, H2.out.on (below1 _ _)⟩ (by omega)).mono ?_
 rintro e w2 ⟨rfl, hb2⟩
 have B2 := bthen (below1 _ _) hb2
 have x2 : Blk w2 w.heap.size 138 #[.int .i64 r.1.1, .slice A2 r.1.2.length c2, .slice A3 r.2.length c3] := (Blk.new w _ _).below hb2 (by simp)
 have q2 : w2.cell? ⟨w.heap.size, 2, none⟩ = some (.slice A3 r.2.length c3) := x2.cell 2
 by_cases hf : atomFits ar r.1 = true
 ·rw [hf]
  have HF := Lib.hid hf
  clear hf hb2
  by_cases hl : r.2.length <= 4
  ·have hd : decide ((4 : Int) < (r.2.length : Int)) = false := by simp; omega
   have HL := Lib.hid (show ruleFits ar r = (r.2.all (litFits ar) && ruleSafe r) by simp [ruleFits, HF.out, hl])
   go_wp2_with (fail)
   go_loopw [6, 21] (fun _ i wr => ∃ k : Nat, k <= r.2.length /\ i = .int .i64 k /\ AllTo (litFits ar) r.2 k /\ Below w2.heap.size w2 wr) (fun _ i _ => r.2.length - (intOf i).toNat)
   case atStart => exact ⟨0, Nat.zero_le _, rfl, AllTo.start, Below.refl _ _⟩
   case round =>
    obtain ⟨k, hk, rfl, hs, hbe⟩ := hrel
    have BW := bthen B2 hbe
    have xr := x2.below hbe x2.lt
    have p0 : wr.cell? ⟨w.heap.size, 0, none⟩ = some (.int .i64 r.1.1) := xr.cell 0
    have p1 : wr.cell? ⟨w.heap.size, 1, none⟩ = some (.slice A2 r.1.2.length c2) := xr.cell 1
    have p2 : wr.cell? ⟨w.heap.size, 2, none⟩ = some (.slice A3 r.2.length c3) := xr.cell 2
    clear q2
    by_cases hlt : k < r.2.length
    ·obtain ⟨b, o, u0, u1, u2, rfl, hbB, k0, k1, k2, rfl, rfl, p3⟩ := (H3.out.on BW).get hlt
     have HA := Lib.hid p3
     obtain ⟨A4, c4, rfl, hc4, _⟩ := p3
     have hle := len_le_totL r.2 k hlt
     go_wp2_with (fail)
     refine (litFits_any _ _ ar r.2[k] _ ((H.out.on BW).on (below1 _ _)) ⟨_, rfl, HA.out.on (below1 _ _)⟩ (by omega)).mono ?_
     rintro e w4 ⟨rfl, hb4⟩
     have B4 := bthen hbe (bthen (below1 _ _) hb4)
     by_cases he : litFits ar r.2[k] = true
     ·rw [he]
      have HS := Lib.hid (hs.step hlt he)
      clear hs he
      go_wp2_with (fail)
      go_roundw
      case rel => exact ⟨k + 1, by omega, by go_num, HS.out, B4⟩
      case measure => simp [intOf]; omega
     ·have he' : litFits ar r.2[k] = false := by simpa using he
      rw [he']
      have HE := Lib.hid (show ruleFits ar r = false by rw [HL.out, all_not hlt he']; rfl)
      clear hs he he'
      go_wp2_with (fail)
      go_ret
      exact ⟨ret_bool HE.out.symm, bthen B2 B4⟩
    ·have HE := Lib.hid (show ruleFits ar r = ruleSafe r by rw [HL.out, hs.done (by omega), Bool.true_and])
     clear hs
     go_wp2_with (fail)
     refine (implRuleSafe_any _ r _ (HR.out.on BW) hsz).mono ?_
     rintro e w5 ⟨rfl, hb5⟩
     go_wp2_with (fail)
     go_ret
     exact ⟨ret_bool HE.out.symm, bthen BW hb5⟩
  ·have hd : decide ((4 : Int) < (r.2.length : Int)) = true := by simp; omega
   have HE := Lib.hid (show ruleFits ar r = false by simp [ruleFits, hl])
   go_wp2_with (fail)
   go_ret
   exact ⟨ret_bool HE.out.symm, B2⟩
 ·have hf' : atomFits ar r.1 = false := by simpa using hf
  rw [hf']
  have HE := Lib.hid (show ruleFits ar r = false by simp [ruleFits, hf'])
  clear hf hf'
  go_wp2_with (fail)
  go_ret
  exact ⟨ret_bool HE.out.symm, B2⟩
theorem ruleOk_spec (ar : List Int) (r : LRule) : ruleOk ar r = (r.2.all (litOk ar) && (atomOk ar r.1 && (decide (r.2.length <= 4) && ruleSafe r))) := by
 unfold ruleOk ruleFits atomOk
 by_cases ha : arityOk ar = true
 ·have : r.2.all (litOk ar) = r.2.all (litFits ar) := by
   congr 1
   funext l
   unfold litOk
   rw [ha, Bool.true_and]
  rw [this, ha]
  cases atomFits ar r.1 <;> cases r.2.all (litFits ar) <;> cases decide (r.2.length <= 4) <;> rfl
 ·have ha' : arityOk ar = false := by simpa using ha
  rw [ha']
  simp
set_option maxHeartbeats 1000000 in
set_option maxRecDepth 100000 in
theorem specRuleOk_any (v v2 : Value) (ar : List Int) (r : LRule) (w : World) (h : RdInts w w.heap.size v ar) (h2 : RdRule w w.heap.size v2 r) (hr : ar.length <= 1048576) (hs : szR r <= 1048576) :
 Calls Tryz.prog 161 #[v, v2] w fun e w' => e = .returned (.bool (ruleOk ar r)) /\ Below w.heap.size w w' := by
 have H := Lib.hid h
 have HR := Lib.hid h2
 have hsz := hs
 unfold szR at hs
 have HP := Lib.hid (ruleOk_spec ar r)
 obtain ⟨A, c, rfl, hc, _⟩ := h
 obtain ⟨a, b, rfl, h2, h3⟩ := h2
 have H2 := Lib.hid h2
 have H3 := Lib.hid h3
 obtain ⟨A2, c2, rfl, hc2, _⟩ := h2
 obtain ⟨A3, c3, rfl, hc3, _⟩ := h3
 go_enter Tryz.func161, Tryz.ntmps161
 go_wp2_with (fail)
 obtain ⟨w2, hw2⟩ : ∃ w2, w2 = w.alloc (Obj.cells #[Value.int IntKind.i64 r.1.1, Value.slice A2 r.1.2.length c2, Value.slice A3 r.2.length c3] 138) := ⟨_, rfl⟩
 have B2 : Below w.heap.size w w2 := by rw [hw2]; exact below1 _ _
 have x2 : Blk w2 w.heap.size 138 #[.int .i64 r.1.1, .slice A2 r.1.2.length c2, .slice A3 r.2.length c3] := by rw [hw2]; exact Blk.new _ _ _
 rw [<- hw2]
 clear hw2
 go_loopw [5] (fun i wr => ∃ k : Nat, k <= r.2.length /\ i = .int .i64 k /\ AllTo (litOk ar) r.2 k /\ Below w2.heap.size w2 wr) (fun i _ => r.2.length - (intOf i).toNat)
 case atStart => exact ⟨0, Nat.zero_le _, rfl, AllTo.start, Below.refl _ _⟩
 case round =>
  obtain ⟨k, hk, rfl, hs, hbe⟩ := hrel
  have BW := bthen B2 hbe
  have xr := x2.below hbe x2.lt
  have p0 : wr.cell? ⟨w.heap.size, 0, none⟩ = some (.int .i64 r.1.1) := xr.cell 0
  have p1 : wr.cell? ⟨w.heap.size, 1, none⟩ = some (.slice A2 r.1.2.length c2) := xr.cell 1
  have p2 : wr.cell? ⟨w.heap.size, 2, none⟩ = some (.slice A3 r.2.length c3) := xr.cell 2
  by_cases hlt : k < r.2.length
  ·obtain ⟨b, o, u0, u1, u2, rfl, hbB, k0, k1, k2, rfl, rfl, p3⟩ := (H3.out.on BW).get hlt
   have HA := Lib.hid p3
   obtain ⟨A4, c4, rfl, hc4, _⟩ := p3
   have hle := len_le_totL r.2 k hlt
   go_wp2_with (fail)
   refine (specLitOk_any _ _ ar r.2[k] _ (H.out.on BW) ⟨_, rfl, HA.out⟩ hr (by omega)).mono ?_
   rintro e w4 ⟨rfl, hb4⟩
   have B4 := bthen hbe hb4
   by_cases he : litOk ar r.2[k] = true
   ·rw [he]
    have HS := Lib.hid (hs.step hlt he)
    clear hs he
    go_wp2_with (fail)
    go_roundw
    case rel => exact ⟨k + 1, by omega, by go_num, HS.out, B4⟩
    case measure => simp [intOf]; omega
   ·have he' : litOk ar r.2[k] = false := by simpa using he
    rw [he']
    have HE := Lib.hid (show ruleOk ar r = false by rw [HP.out, all_not hlt he']; rfl)
    clear hs he he'
    go_wp2_with (fail)
    go_ret
    exact ⟨ret_bool HE.out.symm, bthen B2 B4⟩
  ·have HE := Lib.hid (show ruleOk ar r = (atomOk ar r.1 && (decide (r.2.length <= 4) && ruleSafe r)) by rw [HP.out, hs.done (by omega), Bool.true_and])
   clear hs
   go_wp2_with (fail)
   refine (specAtomOk_any _ _ ar r.1 _ (H.out.on BW) ⟨_, rfl, H2.out.on BW⟩ hr (by omega)).mono ?_
   rintro e w5 ⟨rfl, hb5⟩
   have B5 := bthen BW hb5
   have x5 := xr.below hb5 xr.lt
   have p0 : w5.cell? ⟨w.heap.size, 0, none⟩ = some (.int .i64 r.1.1) := x5.cell 0
   have p1 : w5.cell? ⟨w.heap.size, 1, none⟩ = some (.slice A2 r.1.2.length c2) := x5.cell 1
   have p2 : w5.cell? ⟨w.heap.size, 2, none⟩ = some (.slice A3 r.2.length c3) := x5.cell 2
   by_cases hf : atomOk ar r.1 = true
   ·rw [hf]
    by_cases hl : r.2.length <= 4
    ·have hd : decide ((r.2.length : Int) <= 4) = true := by simp; omega
     have HE2 := Lib.hid (show ruleOk ar r = ruleSafe r by rw [HE.out, hf]; simp [hl])
     clear hf
     go_wp2_with (fail)
     refine (specRuleSafe_any _ r _ (HR.out.on B5) hsz).mono ?_
     rintro e w6 ⟨rfl, hb6⟩
     go_wp2_with (fail)
     go_ret
     exact ⟨ret_bool HE2.out.symm, bthen B5 hb6⟩
    ·have hd : decide ((r.2.length : Int) <= 4) = false := by simp; omega
     have HE2 := Lib.hid (show ruleOk ar r = false by rw [HE.out]; simp [hl])
     clear hf
     go_wp2_with (fail)
     go_ret
     exact ⟨ret_bool HE2.out.symm, B5⟩
   ·have hf' : atomOk ar r.1 = false := by simpa using hf
    rw [hf']
    have HE2 := Lib.hid (show ruleOk ar r = false by rw [HE.out, hf']; rfl)
    clear hf hf'
    go_wp2_with (fail)
    go_ret
    exact ⟨ret_bool HE2.out.symm, B5⟩
open Go.RowKit
theorem place_short {ar : List Int} {p : Int} {n : Nat} (ha : arityOk ar = true) (h : 0 <= p /\ p < ar.length /\ (n : Int) = ar.getD p.toNat 0) : n <= 2 := by
 obtain ⟨h0, h1, h2⟩ := h
 simp only [arityOk, Bool.and_eq_true, List.all_eq_true] at ha
 have hlt : p.toNat < ar.length := by omega
 have hp := ha.2 _ (List.getElem_mem hlt)
 simp only [placeOk, decide_eq_true_eq] at hp
 have hd : ar.getD p.toNat 0 = ar[p.toNat] := by simp [hlt]
 rw [hd] at h2
 omega
theorem fits_parts {ar : List Int} {f : LFact} (h : factFits ar f = true) : (0 <= f.1 /\ f.1 < ar.length /\ (f.2.length : Int) = ar.getD f.1.toNat 0) /\ f.2.all constOk = true := by
 simp only [factFits, Bool.and_eq_true, decide_eq_true_eq] at h
 exact h
theorem fits_short {ar : List Int} {f : LFact} (ha : arityOk ar = true) (h : factFits ar f = true) : f.2.length <= 2 := place_short ha (fits_parts h).1
def encF (f : LFact) : Nat := f.1.toNat * 64 + (match f.2 with | [] => 0 | [x] => x.toNat + 1 | x :: y :: _ => x.toNat + 1 + 7 * (y.toNat + 1))
theorem const_range {x : Int} (h : constOk x = true) : 0 <= x /\ x <= 5 := by simpa [constOk] using h
theorem encF_lt {ar : List Int} {f : LFact} (ha : arityOk ar = true) (h : factFits ar f = true) : encF f < 1536 := by
 have hs := fits_short ha h
 obtain ⟨⟨h0, h1, _⟩, h2⟩ := fits_parts h
 have hl : ar.length <= 24 := by simp only [arityOk, Bool.and_eq_true, decide_eq_true_eq] at ha; exact ha.1
 obtain ⟨p, xs⟩ := f
 rcases xs with _ | ⟨x, _ | ⟨y, _ | ⟨z, xs⟩⟩⟩
 ·simp only [encF] at *; omega
 ·simp only [List.all_cons, Bool.and_eq_true] at h2
  have := const_range h2.1
  simp only [encF] at *; omega
 ·simp only [List.all_cons, Bool.and_eq_true] at h2
  have := const_range h2.1
  have := const_range h2.2.1
  simp only [encF] at *; omega
 ·simp at hs
theorem split64 {a b c d : Nat} (e : a * 64 + c = b * 64 + d) (hc : c < 64) (hd : d < 64) : a = b /\ c = d := by omega
theorem split7 {a b c d : Nat} (e : a + 1 + 7 * (c + 1) = b + 1 + 7 * (d + 1)) (ha : a < 6) (hb : b < 6) : a = b /\ c = d := by omega
theorem encF_inj {ar : List Int} {f g : LFact} (ha : arityOk ar = true) (hf : factFits ar f = true) (hg : factFits ar g = true) (e : encF f = encF g) : f = g := by
 have hs := fits_short ha hf
 have hs' := fits_short ha hg
 obtain ⟨⟨h0, _, _⟩, h2⟩ := fits_parts hf
 obtain ⟨⟨h0', _, _⟩, h2'⟩ := fits_parts hg
 obtain ⟨p, xs⟩ := f
 obtain ⟨q, ys⟩ := g
 rcases xs with _ | ⟨x, _ | ⟨y, _ | ⟨z, xs⟩⟩⟩ <;> rcases ys with _ | ⟨x', _ | ⟨y', _ | ⟨z', ys⟩⟩⟩ <;> (try (simp at hs; done)) <;> (try (simp at hs'; done)) <;>
  simp only [List.all_cons, List.all_nil, Bool.and_eq_true, and_true] at h2 h2' <;> simp only [encF] at e h0 h0'
 ·obtain ⟨e1, _⟩ := split64 e (by omega) (by omega); simp; omega
 ·have := const_range h2'; obtain ⟨_, e2⟩ := split64 e (by omega) (by omega); omega
 ·have := const_range h2'.1; have := const_range h2'.2; obtain ⟨_, e2⟩ := split64 e (by omega) (by omega); omega
 ·have := const_range h2; obtain ⟨_, e2⟩ := split64 e (by omega) (by omega); omega
 ·have := const_range h2; have := const_range h2'; obtain ⟨e1, e2⟩ := split64 e (by omega) (by omega); simp; omega
 ·have := const_range h2; have := const_range h2'.1; have := const_range h2'.2; obtain ⟨_, e2⟩ := split64 e (by omega) (by omega); omega
 ·have := const_range h2.1; have := const_range h2.2; obtain ⟨_, e2⟩ := split64 e (by omega) (by omega); omega
 ·have := const_range h2.1; have := const_range h2.2; have := const_range h2'; obtain ⟨_, e2⟩ := split64 e (by omega) (by omega); omega
 ·have := const_range h2.1; have := const_range h2.2; have := const_range h2'.1; have := const_range h2'.2
  obtain ⟨e1, e2⟩ := split64 e (by omega) (by omega)
  obtain ⟨e3, e4⟩ := split7 e2 (by omega) (by omega)
  simp; omega
theorem tot_short : ∀ {l : List LFact}, (∀ f ∈ l, f.2.length <= 2) -> tot l <= l.length * 2
 | [], _ => by simp [tot]
 | f :: l, h => by
  have h1 := h f (List.mem_cons_self ..)
  have h2 := tot_short fun g hg => h g (List.mem_cons_of_mem _ hg)
  rw [tot_cons, List.length_cons]
  omega
theorem facts_few {ar : List Int} {l : List LFact} (ha : arityOk ar = true) (hn : l.Nodup) (h : ∀ f ∈ l, factFits ar f = true) : l.length <= 1536 /\ tot l <= 3072 := by
 have h1 := nodup_len 1536 (l.map encF) (by
  unfold List.Nodup
  rw [List.pairwise_map]
  exact List.Pairwise.imp_of_mem (fun {a b} hx hy hne e => hne (encF_inj ha (h a hx) (h b hy) e)) hn) fun x hx => by
   obtain ⟨b, hb, rfl⟩ := List.mem_map.1 hx
   exact encF_lt ha (h b hb)
 rw [List.length_map] at h1
 have h2 := tot_short fun f hf => fits_short ha (h f hf)
 omega
theorem headOf_fits {ar : List Int} {a : LFact} {bs : List Int} (ha : atomFits ar a = true) (e : headOk a bs = true) : factFits ar (headOf a bs) = true := by
 rw [headOf_yes e]
 simp only [atomFits, Bool.and_eq_true, decide_eq_true_eq] at ha
 simp only [headOk, Bool.and_eq_true] at e
 simp only [factFits, Bool.and_eq_true, decide_eq_true_eq, List.length_map]
 exact ⟨ha.1, e.2⟩
theorem headsTo_asc (a : LFact) (S : List (List Int)) : ∀ k, Asc (headsTo a S k)
 | 0 => List.Pairwise.nil
 | k + 1 => by
  have ih := headsTo_asc a S k
  show Asc (if _ then _ else _)
  split
  ·exact (foldWith [headOf a (S.getD k [])] _ ih).1
  ·exact ih
theorem headsTo_fits {ar : List Int} {a : LFact} {S : List (List Int)} (ha : atomFits ar a = true) : ∀ k, ∀ f ∈ headsTo a S k, factFits ar f = true
 | 0 => fun f hf => by cases hf
 | k + 1 => by
  have ih := headsTo_fits (S := S) ha k
  intro f hf
  have hf : f ∈ (if headOk a (S.getD k []) then factsWith (headsTo a S k) (headOf a (S.getD k [])) else headsTo a S k) := hf
  split at hf
  ·rename_i e
   rcases (factsWith_mem _ _ _).1 hf with h | rfl
   ·exact ih f h
   ·exact headOf_fits ha e
  ·exact ih f hf
theorem headsL_fits {ar : List Int} {r : LRule} (gs : List LFact) (h : ruleFits ar r = true) : ∀ f ∈ headsL r gs, factFits ar f = true := by
 simp only [ruleFits, Bool.and_eq_true] at h
 exact headsTo_fits h.1 _
theorem headsL_few {ar : List Int} {r : LRule} (gs : List LFact) (ha : arityOk ar = true) (h : ruleFits ar r = true) : (headsL r gs).length <= 1536 /\ tot (headsL r gs) <= 3072 :=
 facts_few ha (asc_nodup (headsTo_asc _ _ _)) (headsL_fits gs h)
def headsAll (rs : List LRule) (gs : List LFact) : List LFact := setOf (rs.flatMap fun r => headsL r gs)
theorem setOf_more (xs ys : List LFact) : setOf (setOf xs ++ ys) = setOf (xs ++ ys) :=
 (setOf_asc _).unique (setOf_asc _) fun f => by rw [setOf_mem, setOf_mem, List.mem_append, List.mem_append, setOf_mem]
theorem headsAll_snoc (rs : List LRule) (gs : List LFact) (k : Nat) (h : k < rs.length) : headsAll (rs.take (k + 1)) gs = setOf (headsAll (rs.take k) gs ++ headsL rs[k] gs) := by
 unfold headsAll
 rw [take_snoc rs k h, List.flatMap_append, setOf_more]
 simp
theorem headsAll_fits {ar : List Int} {rs : List LRule} (gs : List LFact) (h : ∀ r ∈ rs, ruleFits ar r = true) : ∀ f ∈ headsAll rs gs, factFits ar f = true := by
 intro f hf
 obtain ⟨r, hr, hm⟩ := List.mem_flatMap.1 ((setOf_mem _ _).1 hf)
 exact headsL_fits gs (h r hr) f hm
theorem headsAll_few {ar : List Int} {rs : List LRule} (gs : List LFact) (ha : arityOk ar = true) (h : ∀ r ∈ rs, ruleFits ar r = true) : (headsAll rs gs).length <= 1536 /\ tot (headsAll rs gs) <= 3072 :=
 facts_few ha (asc_nodup (setOf_asc _)) (headsAll_fits gs h)
theorem lit_terms {ar : List Int} {l : LLit} (h : litFits ar l = true) : l.2.2.all termOk = true := by
 unfold litFits at h
 split at h
 ·simp only [atomFits, Bool.and_eq_true] at h; exact h.2
 ·split at h
  ·simp only [Bool.and_eq_true] at h; exact h.2
  ·cases h
set_option maxHeartbeats 4000000 in
set_option maxRecDepth 100000 in
theorem l4All_any (v v2 : Value) (ar : List Int) (rs : List LRule) (gs : List LFact) (w : World) (h : RdRules w w.heap.size v rs) (h2 : RdFacts w w.heap.size v2 gs) (har : arityOk ar = true) (hfit : ∀ r ∈ rs, ruleFits ar r = true) (hsz : totR rs <= 1048576) (hrl : rs.length <= 1048576)
 (hn : gs.length <= 1048576) (ht : tot gs <= 1048576) (hc : ∀ f ∈ gs, f.2.all constOk = true) (hnd : gs.Nodup) :
 Calls Tryz.prog 180 #[v, v2] w fun e w' => ∃ A c, e = .returned (.slice A (headsAll rs gs).length c) /\ OwnFacts w' w.heap.size w'.heap.size (.slice A (headsAll rs gs).length c) (headsAll rs gs) /\ Below w.heap.size w w' := by
 have H := Lib.hid h
 have H2 := Lib.hid h2
 obtain ⟨A, c, rfl, hcA, _⟩ := h
 obtain ⟨A2, c2, rfl, hc2, _⟩ := h2
 have HFIT := Lib.hid hfit
 clear hfit
 go_enter Tryz.func180, Tryz.ntmps180
 go_wp2_with (fail)
 go_loopw [5, 6] (fun o i wr => ∃ (k : Nat) (A' : Option Addr) (c' : Nat), k <= rs.length /\ i = .int .i64 k /\ o = .slice A' (headsAll (rs.take k) gs).length c' /\ OwnFacts wr w.heap.size wr.heap.size (.slice A' (headsAll (rs.take k) gs).length c') (headsAll (rs.take k) gs) /\ Below w.heap.size w wr) (fun _ i _ => rs.length - (intOf i).toNat)
 case atStart => exact ⟨0, _, 0, Nat.zero_le _, rfl, rfl, (ColRel.empty w).own.own.mono (Nat.le_refl _) (Nat.le_refl _), below1 _ _⟩
 case round =>
  obtain ⟨k, A', c', hk, rfl, rfl, ho, hbe⟩ := hrel
  have HO := Lib.hid ho
  have HBE := Lib.hid hbe
  by_cases hlt : k < rs.length
  ·obtain ⟨b, o, u0, u1, u2, rfl, hbB, k0, k1, k2, rfl, q1, q2⟩ := (H.out.on hbe).get hlt
   obtain ⟨A3, c3, rfl, _⟩ := id q1
   obtain ⟨A4, c4, rfl, _⟩ := id q2
   have hfk := HFIT.out _ (List.getElem_mem hlt)
   have HW := Lib.hid hfk
   have hparts := hfk
   simp only [ruleFits, atomFits, Bool.and_eq_true, decide_eq_true_eq] at hparts
   have ha2 := place_short har hparts.1.1
   have hsk := sz_le_totR rs k hlt
   unfold szR at hsk
   have HOF := Lib.hid (l4Of_any (.agg #[.int .i64 rs[k].1.1, .slice A3 rs[k].1.2.length c3, .slice A4 rs[k].2.length c4]) (.slice A2 gs.length c2) rs[k] gs _ ⟨_, _, rfl, q1, q2⟩ (H2.out.on hbe) hn ht (by omega) hc hnd (fun l hl => lit_terms (List.all_eq_true.1 hparts.2.2.1 l hl)) ha2)
   have h1 := headsAll_few gs har (rs := rs.take k) (fun r hr => HFIT.out r (List.mem_of_mem_take hr))
   have h2 := headsL_few gs har HW.out
   have HN := Lib.hid (And.intro h1 h2)
   have HE := Lib.hid (headsAll_snoc rs gs k hlt)
   clear ho hbe q1 q2 h1 h2 hparts hfk hsk
   go_wp2_with (first
    | (go_at_call 228; refine HOF.out.mono ?_; rintro e w1 ⟨A5, c5, rfl, o5, b5⟩; have H5 := Lib.hid (And.intro o5 b5); clear o5 b5)
    | (go_at_call 108
       refine (specFactsEither_any _ _ (headsAll (rs.take k) gs) (headsL rs[k] gs) w1 ((HO.out.below H5.out.2 (Nat.le_refl _)).rd.more H5.out.2.size) H5.out.1.rd (by have := HN.out; omega) (by have := HN.out; omega)).mono ?_
       rintro e w2 ⟨A6, c6, rfl, o6, b6⟩; have H6 := Lib.hid (And.intro o6 b6); clear o6 b6))
   go_roundw
   case rel =>
    refine ⟨k + 1, A6, c6, by omega, by go_num, by rw [HE.out], ?_, bthen HBE.out (bthen H5.out.2 H6.out.2)⟩
    rw [HE.out]
    exact H6.out.1.mono (by have := HBE.out.size; have := H5.out.2.size; omega) (Nat.le_refl _)
   case measure => simp [intOf]; omega
  ·obtain rfl : k = rs.length := by omega
   have HR := Lib.hid (show rs.take rs.length = rs from List.take_length)
   clear ho hbe
   go_wp2_with (fail)
   go_ret
   have ho := HO.out
   rw [HR.out] at ho ⊢
   exact ⟨A', c', rfl, ho, HBE.out⟩
end Go.Proofs.YtmnolnmpglanfaaGreatDoor
