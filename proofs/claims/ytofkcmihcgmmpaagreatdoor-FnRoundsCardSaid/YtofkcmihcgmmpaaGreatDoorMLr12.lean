/-
  Texts that the claim's last one imports, laid together: part 12 of 16. No condition of its own.
-/
import Derived.Test.YtofkcmihcgmmpaaGreatDoorMLr2
import Derived.Test.YtofkcmihcgmmpaaGreatDoorMLr3
import Derived.Test.YtofkcmihcgmmpaaGreatDoorMLr7
import Derived.Test.YtofkcmihcgmmpaaGreatDoorMLr11
namespace Go.Proofs.YtofkcmihcgmmpaaGreatDoor
set_option maxRecDepth 100000
open Go.RowKit
def zlO (ls : List zC) (b : List Int) : Prop := ∀ v, v < 4 -> (b.getD v (-1) ≠ -1 <-> ∃ l ∈ ls, (maskOf l.2.2).testBit v = true)
def zc0 (fs : List zd) (ls : List zC) (b : List Int) : Prop := zp b = true /\ zlO ls b /\ ∀ l ∈ ls, zM fs l b = true
theorem zmq {fs : List zd} {ls : List zC} {S : List (List Int)} : zbS (zaV fs ls) S <-> S.Nodup /\ ∀ b, b ∈ S <-> zc0 fs ls b := by
 have e : ∀ b, (zp b = true /\ (∀ v, v < 4 -> (b.getD v (-1) ≠ -1 <-> ∃ q ∈ zaV fs ls, (maskOf q.1.2.2).testBit v = true)) /\ ∀ q ∈ zaV fs ls, zbR q b = true) <-> zc0 fs ls b := fun b => by
  have e1 : ∀ v, (∃ q ∈ zaV fs ls, (maskOf q.1.2.2).testBit v = true) <-> ∃ l ∈ ls, (maskOf l.2.2).testBit v = true := fun v => by
   constructor
   ·rintro ⟨q, hq, h⟩
    obtain ⟨l, hl, rfl⟩ := List.mem_map.1 hq
    exact ⟨l, hl, h⟩
   ·rintro ⟨l, hl, h⟩
    exact ⟨(l, fs), List.mem_map.2 ⟨l, hl, rfl⟩, h⟩
  have e2 : (∀ q ∈ zaV fs ls, zbR q b = true) <-> ∀ l ∈ ls, zM fs l b = true := by
   constructor
   ·intro h l hl
    exact h (l, fs) (List.mem_map.2 ⟨l, hl, rfl⟩)
   ·intro h q hq
    obtain ⟨l, hl, rfl⟩ := List.mem_map.1 hq
    exact h l hl
  unfold zc0 zlO
  rw [e2]
  refine and_congr_right fun _ => and_congr_left fun _ => ?_
  exact forall_congr' fun v => forall_congr' fun _ => by rw [e1 v]
 unfold zbS
 exact and_congr_right fun _ => forall_congr' fun b => by rw [e b]
theorem zb2 {fs : List zd} {l : zC} {b : List Int} (h : l.1 = 0) : zM fs l b = true <-> zai l.2 b = true /\ zaM l.2 b ∈ fs := by
 unfold zM
 rw [if_neg (by omega), zbe, h]
 cases zai l.2 b <;> simp
theorem zoN {fs : List zd} {l : zC} {b : List Int} (h : l.1 = 1) : zM fs l b = true <-> zai l.2 b = true /\ zaM l.2 b ∉ fs := by
 unfold zM
 rw [if_neg (by omega), zbe, h]
 cases zai l.2 b <;> simp
theorem zog {fs gs : List zd} {l : zC} {b : List Int} (h : l.1 = 2 \/ l.1 = 3) : zM fs l b = zM gs l b := by
 unfold zM
 rw [if_pos h, if_pos h]
def ofP (L : List zd) (p : Int) : List zd := L.filter fun f => decide (f.1 = p)
theorem zkk {L : List zd} {p : Int} {f : zd} : f ∈ ofP L p <-> f ∈ L /\ f.1 = p := by simp [ofP]
theorem zeO (L M : List zd) (p : Int) : ofP (L ++ M) p = ofP L p ++ ofP M p := by simp [ofP]
theorem zgo {L : List zd} {o e : Nat} (h : o <= e) : L.take e = L.take o ++ (L.take e).drop o := by
 have h1 := (List.take_append_drop o (L.take e)).symm
 rw [List.take_take, Nat.min_eq_left h] at h1
 exact h1
theorem zn8 (L : List zd) (p : Int) (n : Nat) : ofP (L.take n) p = (ofP L p).take (ofP (L.take n) p).length := by
 have h := congrArg (fun x => ofP x p) (List.take_append_drop n L)
 simp only [zeO] at h
 rw [<- h, List.take_left']
 rfl
theorem zk4 (L : List zd) (p : Int) (n : Nat) : (ofP (L.take n) p).length <= (ofP L p).length := by
 have h := congrArg (fun x => ofP x p) (List.take_append_drop n L)
 simp only [zeO] at h
 rw [<- h, List.length_append]
 omega
theorem zjR {a : zd} {b : List Int} (h : zai a b = true) : (zaM a b).1 = a.1 := by rw [zct h]
theorem ziQ {fs : List zd} {l : zC} {b : List Int} : zM (ofP fs l.2.1) l b = zM fs l b := by
 unfold zM
 split
 ·rfl
 ·rw [zbe, zbe]
  cases h : zai l.2 b
  ·rfl
  ·congr 2
   exact decide_eq_decide.2 (by rw [zkk]; exact ⟨fun h => h.1, fun h2 => ⟨h2, zjR h⟩⟩)
abbrev zcU := List zd × List zd × List zd
def zba (ls : List zC) (j : Nat) : zC := ls.getD j (0, 0, [])
def zaD (ag : List zcU) (j : Nat) : zcU := ag.getD j ([], [], [])
theorem zda {ls : List zC} {j : Nat} (h : j < ls.length) : zba ls j = ls[j] := by simp [zba, h]
theorem ze0 {ag : List zcU} {j : Nat} (h : j < ag.length) : zaD ag j = ag[j] := by simp [zaD, h]
theorem zdQ {ls : List zC} {j : Nat} (h : j < ls.length) : zba ls j ∈ ls := by rw [zda h]; exact List.getElem_mem h
def qAt (ls : List zC) (ag : List zcU) (i j : Nat) : LQ := (zba ls j, if j < i /\ (zba ls j).1 = 0 then (zaD ag j).2.1 else (zaD ag j).1)
def zac (ls : List zC) (ag : List zcU) (i k : Nat) : List LQ := (zba ls i, (zaD ag i).2.2) :: (List.range k).flatMap fun j => if j = i then [] else [qAt ls ag i j]
theorem zgL (ls : List zC) (ag : List zcU) (i : Nat) : zac ls ag i 0 = [(zba ls i, (zaD ag i).2.2)] := by simp [zac]
theorem zgM (ls : List zC) (ag : List zcU) (i : Nat) : zac ls ag i (i + 1) = zac ls ag i i := by simp [zac, List.range_succ]
theorem zdv (ls : List zC) (ag : List zcU) {i k : Nat} (h : k ≠ i) : zac ls ag i (k + 1) = zac ls ag i k ++ [qAt ls ag i k] := by simp [zac, List.range_succ, h]
theorem zb3 (ls : List zC) (ag : List zcU) (i : Nat) : ∀ k, (zac ls ag i k).length <= k + 1 /\ (i < k -> (zac ls ag i k).length = k) /\ (k <= i -> (zac ls ag i k).length = k + 1)
 | 0 => by simp [zgL]
 | k + 1 => by
  obtain ⟨h1, h2, h3⟩ := zb3 ls ag i k
  by_cases e : k = i
  ·subst e
   rw [zgM]
   refine ⟨by omega, fun _ => h3 (Nat.le_refl _), fun h => absurd h (by omega)⟩
  ·rw [zdv ls ag e, List.length_append, List.length_singleton]
   refine ⟨by omega, fun h => ?_, fun h => ?_⟩
   ·rw [h2 (by omega)]
   ·rw [h3 (by omega)]
theorem zbw {ls : List zC} {ag : List zcU} {i k : Nat} {q : LQ} : q ∈ zac ls ag i k <-> q = (zba ls i, (zaD ag i).2.2) \/ ∃ j, j < k /\ j ≠ i /\ q = qAt ls ag i j := by
 unfold zac
 rw [List.mem_cons, List.mem_flatMap]
 refine or_congr_right ?_
 constructor
 ·rintro ⟨j, hj, h⟩
  split at h
  ·cases h
  ·rename_i e
   exact ⟨j, List.mem_range.1 hj, e, by simpa using h⟩
 ·rintro ⟨j, hj, e, rfl⟩
  exact ⟨j, List.mem_range.2 hj, by rw [if_neg e]; exact List.mem_singleton_self _⟩
def zfQ (ls : List zC) (ag : List zcU) (i : Nat) (b : List Int) : Prop :=
 zM (zaD ag i).2.2 (zba ls i) b = true /\ ∀ j, j < ls.length -> j ≠ i -> zM (qAt ls ag i j).2 (zba ls j) b = true
theorem ziU {ls : List zC} {ag : List zcU} {i v : Nat} (hi : i < ls.length) : (∃ q ∈ zac ls ag i ls.length, (maskOf q.1.2.2).testBit v = true) <-> ∃ l ∈ ls, (maskOf l.2.2).testBit v = true := by
 constructor
 ·rintro ⟨q, hq, h⟩
  rcases zbw.1 hq with rfl | ⟨j, hj, _, rfl⟩
  ·exact ⟨_, zdQ hi, h⟩
  ·exact ⟨_, zdQ hj, h⟩
 ·rintro ⟨l, hl, h⟩
  obtain ⟨j, hj, rfl⟩ := List.getElem_of_mem hl
  rw [<- zda hj] at h
  by_cases e : j = i
  ·subst e
   exact ⟨_, zbw.2 (.inl rfl), h⟩
  ·exact ⟨_, zbw.2 (.inr ⟨j, hj, e, rfl⟩), h⟩
theorem znA {ls : List zC} {ag : List zcU} {i : Nat} (hi : i < ls.length) {S : List (List Int)} (h : zbS (zac ls ag i ls.length) S) : S.Nodup /\ ∀ b, b ∈ S <-> zp b = true /\ zlO ls b /\ zfQ ls ag i b := by
 refine ⟨h.1, fun b => ?_⟩
 rw [h.2 b]
 refine and_congr_right fun _ => and_congr ?_ ?_
 ·exact forall_congr' fun v => forall_congr' fun _ => by rw [ziU hi]
 ·constructor
  ·intro hq
   exact ⟨hq _ (zbw.2 (.inl rfl)), fun j hj e => hq (qAt ls ag i j) (zbw.2 (.inr ⟨j, hj, e, rfl⟩))⟩
  ·rintro ⟨h1, h2⟩ q hq
   rcases zbw.1 hq with rfl | ⟨j, hj, e, rfl⟩
   ·exact h1
   ·exact h2 j hj e
theorem zlo {ls : List zC} {ag : List zcU} {i : Nat} (hi : i < ls.length) (h : zbV ls) : zj1 (zac ls ag i ls.length) := fun q hq v hv hm => by
 have hl : ∃ l ∈ ls, (maskOf l.2.2).testBit v = true := (ziU (ag := ag) hi).1 ⟨q, hq, hm⟩
 obtain ⟨l, hl, hm⟩ := hl
 obtain ⟨l', hl', h0, hm'⟩ := h.safe l hl v hv hm
 obtain ⟨j, hj, rfl⟩ := List.getElem_of_mem hl'
 rw [<- zda hj] at h0 hm'
 by_cases e : j = i
 ·subst e
  exact ⟨_, zbw.2 (.inl rfl), h0, hm'⟩
 ·exact ⟨_, zbw.2 (.inr ⟨j, hj, e, rfl⟩), h0, hm'⟩
structure zm1 (a : zcU) : Prop where
 consts : ∀ f ∈ a.1, f.2.all zt = true
 len : a.1.length <= 1048576
 tot : tot a.1 <= 1048576
 constsO : ∀ f ∈ a.2.1, f.2.all zt = true
 lenO : a.2.1.length <= 1048576
 totO : Go.Proofs.YtofkcmihcgmmpaaGreatDoor.tot a.2.1 <= 1048576
 constsF : ∀ f ∈ a.2.2, f.2.all zt = true
 lenF : a.2.2.length <= 1048576
 totF : Go.Proofs.YtofkcmihcgmmpaaGreatDoor.tot a.2.2 <= 1048576
theorem znz {ls : List zC} {ag : List zcU} {i : Nat} (hi : i < ls.length) (hl : ag.length = ls.length) (h : zbV ls) (ht : zbB ls <= 1048576) (ha : ∀ a ∈ ag, zm1 a) : ∀ q ∈ zac ls ag i ls.length, QOk q := fun q hq => by
 have key : ∀ j, j < ls.length -> ((zba ls j).1 = 0 \/ (zba ls j).1 = 1 \/ (zba ls j).1 = 2 \/ (zba ls j).1 = 3) /\ (zba ls j).2.2.all zz = true /\ (zba ls j).2.2.length <= 1048576 /\ zm1 (zaD ag j) := fun j hj => by
  have hk := h.kind _ (zdQ hj)
  refine ⟨by omega, h.terms _ (zdQ hj), ?_, by rw [ze0 (by omega)]; exact ha _ (List.getElem_mem _)⟩
  rw [zda hj]
  exact Nat.le_trans (za3 ls j hj) ht
 rcases zbw.1 hq with rfl | ⟨j, hj, e, rfl⟩
 ·obtain ⟨k1, k2, k3, k4⟩ := key i hi
  exact ⟨k1, k2, k4.constsF, k3, k4.lenF, k4.totF⟩
 ·obtain ⟨k1, k2, k3, k4⟩ := key j hj
  unfold qAt
  by_cases e2 : j < i /\ (zba ls j).1 = 0
  ·rw [if_pos e2]
   exact ⟨k1, k2, k4.constsO, k3, k4.lenO, k4.totO⟩
  ·rw [if_neg e2]
   exact ⟨k1, k2, k4.consts, k3, k4.len, k4.tot⟩
def zco (ls : List zC) (ag : List zcU) (b : List Int) : Prop := zp b = true /\ zlO ls b /\ ∃ i, i < ls.length /\ (zba ls i).1 = 0 /\ zfQ ls ag i b
def zbm (ls : List zC) (ag : List zcU) (k : Nat) (b : List Int) : Prop := zp b = true /\ zlO ls b /\ ∃ i, i < k /\ (zba ls i).1 = 0 /\ zfQ ls ag i b
theorem zny {ls : List zC} {ag : List zcU} {b : List Int} (h : zbV ls) (ha : ∀ j, j < ls.length -> ∀ f, f ∈ (zaD ag j).1 <-> f ∈ (zaD ag j).2.1 \/ f ∈ (zaD ag j).2.2) :
 zco ls ag b <-> zp b = true /\ zlO ls b /\ (∀ j, j < ls.length -> zM (zaD ag j).1 (zba ls j) b = true) /\ ∃ i, i < ls.length /\ (zba ls i).1 = 0 /\ zM (zaD ag i).2.2 (zba ls i) b = true := by
 unfold zco
 refine and_congr_right fun _ => and_congr_right fun _ => ?_
 constructor
 ·rintro ⟨i, hi, h0, h1, h2⟩
  refine ⟨fun j hj => ?_, i, hi, h0, h1⟩
  by_cases e : j = i
  ·subst e
   rw [zb2 h0] at h1 ⊢
   exact ⟨h1.1, (ha j hj _).2 (.inr h1.2)⟩
  ·have h3 := h2 j hj e
   unfold qAt at h3
   by_cases e2 : j < i /\ (zba ls j).1 = 0
   ·rw [if_pos e2, zb2 e2.2] at h3
    rw [zb2 e2.2]
    exact ⟨h3.1, (ha j hj _).2 (.inl h3.2)⟩
   ·rw [if_neg e2] at h3
    exact h3
 ·rintro ⟨hall, hex⟩
  -- the least one
  have least : ∀ n, (∃ i, i < n /\ i < ls.length /\ (zba ls i).1 = 0 /\ zM (zaD ag i).2.2 (zba ls i) b = true) -> ∃ i, i < ls.length /\ (zba ls i).1 = 0 /\ zM (zaD ag i).2.2 (zba ls i) b = true /\ ∀ j, j < i -> (zba ls j).1 = 0 -> zM (zaD ag j).2.2 (zba ls j) b = false := by
   intro n
   induction n with
   | zero => rintro ⟨i, hi, _⟩; omega
   | succ n ih =>
    rintro ⟨i, hi, h1, h2, h3⟩
    by_cases hl : ∃ j, j < i /\ (zba ls j).1 = 0 /\ zM (zaD ag j).2.2 (zba ls j) b = true
    ·obtain ⟨j, hj, h4, h5⟩ := hl
     exact ih ⟨j, by omega, by omega, h4, h5⟩
    ·refine ⟨i, h1, h2, h3, fun j hj h4 => ?_⟩
     cases h5 : zM (zaD ag j).2.2 (zba ls j) b
     ·rfl
     ·exact absurd ⟨j, hj, h4, h5⟩ hl
  obtain ⟨i0, g1, g2, g3⟩ := hex
  obtain ⟨i, hi, h0, h1, hmin⟩ := least (i0 + 1) ⟨i0, Nat.lt_succ_self _, g1, g2, g3⟩
  refine ⟨i, hi, h0, h1, fun j hj e => ?_⟩
  unfold qAt
  by_cases e2 : j < i /\ (zba ls j).1 = 0
  ·rw [if_pos e2]
   have h4 := hall j hj
   have h5 := hmin j e2.1 e2.2
   rw [zb2 e2.2] at h4
   show zM _ (zba ls j) b = true
   rw [zb2 e2.2]
   refine ⟨h4.1, ?_⟩
   rcases (ha j hj _).1 h4.2 with h6 | h6
   ·exact h6
   ·rw [(zb2 e2.2).2 ⟨h4.1, h6⟩] at h5
    cases h5
  ·rw [if_neg e2]
   exact hall j hj
theorem zln {ls : List zC} {ag : List zcU} {b : List Int} {i j : Nat} (hi : i < ls.length) (hij : i < j) (h0 : (zba ls i).1 = 0) (hd : ∀ f, f ∈ (zaD ag i).2.1 -> f ∉ (zaD ag i).2.2) (h1 : zfQ ls ag i b) (h2 : zfQ ls ag j b) : False := by
 have h3 := h2.2 i hi (by omega)
 unfold qAt at h3
 rw [if_pos ⟨hij, h0⟩, zb2 h0] at h3
 have h4 := (zb2 h0).1 h1.1
 exact hd _ h3.2 h4.2
def zcZ (L : List zd) (o e : Nat) (p : Int) : zcU := (ofP (L.take e) p, ofP (L.take o) p, (ofP (L.take e) p).drop (ofP (L.take o) p).length)
def zaw (L : List zd) (o e : Nat) (ls : List zC) : List zcU := ls.map fun l => zcZ L o e l.2.1
theorem zhx {L : List zd} {o e j : Nat} {ls : List zC} (h : j < ls.length) : zaD (zaw L o e ls) j = zcZ L o e (zba ls j).2.1 := by
 rw [ze0 (by simpa [zaw] using h), zda h]
 simp [zaw]
theorem zh2 {L : List zd} {o e : Nat} (h : o <= e) (p : Int) : (zcZ L o e p).1 = (zcZ L o e p).2.1 ++ (zcZ L o e p).2.2 := by
 unfold zcZ
 have h1 := congrArg (fun x => ofP x p) (zgo (L := L) h)
 simp only [zeO] at h1
 show ofP (L.take e) p = ofP (L.take o) p ++ (ofP (L.take e) p).drop (ofP (L.take o) p).length
 rw [h1, List.drop_left']
 rfl
theorem ziu {L : List zd} {o e : Nat} (h : o <= e) {f : zd} (hf : f ∈ L.take o) : f ∈ L.take e := by
 rw [zgo h]
 exact List.mem_append_left _ hf
theorem zdu {L : List zd} {o e : Nat} (h : o <= e) {ls : List zC} (hs : zbV ls) {b : List Int} : (zc0 (L.take e) ls b -> zco ls (zaw L o e ls) b \/ zc0 (L.take o) ls b) /\ (zco ls (zaw L o e ls) b -> zc0 (L.take e) ls b) := by
 have hspl : ∀ j, j < ls.length -> ∀ f, f ∈ (zaD (zaw L o e ls) j).1 <-> f ∈ (zaD (zaw L o e ls) j).2.1 \/ f ∈ (zaD (zaw L o e ls) j).2.2 := fun j hj f => by
  rw [zhx hj, zh2 h, List.mem_append]
 rw [zny hs hspl]
 have hat : ∀ j, j < ls.length -> zM (zaD (zaw L o e ls) j).1 (zba ls j) b = zM (L.take e) (zba ls j) b := fun j hj => by
  rw [zhx hj]
  exact ziQ
 constructor
 ·rintro ⟨h1, h2, h3⟩
  by_cases hex : ∃ i, i < ls.length /\ (zba ls i).1 = 0 /\ zM (zaD (zaw L o e ls) i).2.2 (zba ls i) b = true
  ·exact .inl ⟨h1, h2, fun j hj => by rw [hat j hj]; exact h3 _ (zdQ hj), hex⟩
  ·refine .inr ⟨h1, h2, fun l hl => ?_⟩
   obtain ⟨j, hj, rfl⟩ := List.getElem_of_mem hl
   rw [<- zda hj]
   have h4 := h3 _ (zdQ hj)
   have hk := hs.kind _ (zdQ hj)
   rcases (by omega : (zba ls j).1 = 0 \/ (zba ls j).1 = 1 \/ ((zba ls j).1 = 2 \/ (zba ls j).1 = 3)) with e0 | e0 | e0
   ·rw [zb2 e0] at h4 ⊢
    refine ⟨h4.1, ?_⟩
    have h5 : zaM (zba ls j).2 b ∈ (zcZ L o e (zba ls j).2.1).1 := zkk.2 ⟨h4.2, zjR h4.1⟩
    rw [zh2 h] at h5
    rcases List.mem_append.1 h5 with h6 | h6
    ·exact (zkk.1 h6).1
    ·exact absurd ⟨j, hj, e0, by rw [zhx hj, zb2 e0]; exact ⟨h4.1, h6⟩⟩ hex
   ·rw [zoN e0] at h4 ⊢
    exact ⟨h4.1, fun hc => h4.2 (ziu h hc)⟩
   ·rw [zog (gs := L.take e) e0]
    exact h4
 ·rintro ⟨h1, h2, h3, _⟩
  refine ⟨h1, h2, fun l hl => ?_⟩
  obtain ⟨j, hj, rfl⟩ := List.getElem_of_mem hl
  rw [<- zda hj, <- hat j hj]
  exact h3 j hj
def zdU (r : zJ) (b : List Int) : zd := (r.1.1, r.1.2.map (zn b))
theorem zf8 {ar : List Int} {r : zJ} {fs : List zd} (h : zA ar r = true) (hc : ∀ f ∈ fs, f.2.all zt = true) (hn : fs.Nodup) (f : zd) : f ∈ zc4 r fs <-> ∃ b, zc0 fs r.2 b /\ f = zdU r b := by
 obtain ⟨_, h2⟩ := zjC (fs := fs) (gs := fs) (zbV.of (zcC h)) hc hn (fun _ => Iff.rfl)
 rw [ziS h h2 hc hn]
 have h3 := (zmq.1 h2).2
 constructor
 ·rintro ⟨b, hb, e⟩; exact ⟨b, (h3 b).1 hb, e⟩
 ·rintro ⟨b, hb, e⟩; exact ⟨b, (h3 b).2 hb, e⟩
theorem zcL {ar : List Int} {rs : List zJ} {fs : List zd} (h : ∀ r ∈ rs, zA ar r = true) (hc : ∀ f ∈ fs, f.2.all zt = true) (hn : fs.Nodup) (f : zd) : f ∈ zR rs fs <-> ∃ r ∈ rs, ∃ b, zc0 fs r.2 b /\ f = zdU r b := by
 unfold zR
 rw [zao, List.mem_flatMap]
 constructor
 ·rintro ⟨r, hr, hf⟩; exact ⟨r, hr, (zf8 (h r hr) hc hn f).1 hf⟩
 ·rintro ⟨r, hr, hf⟩; exact ⟨r, hr, (zf8 (h r hr) hc hn f).2 hf⟩
theorem zit {fs gs : List zd} (h : ∀ f, f ∈ fs <-> f ∈ gs) (ls : List zC) (b : List Int) : zc0 fs ls b <-> zc0 gs ls b := by
 unfold zc0
 refine and_congr_right fun _ => and_congr_right fun _ => forall_congr' fun l => forall_congr' fun _ => ?_
 rw [zc9 h]
theorem zdF {α : Type} [DecidableEq α] : ∀ {l m : List α}, l.Nodup -> (∀ x ∈ l, x ∈ m) -> l.length <= m.length
 | [], _, _, _ => Nat.zero_le _
 | x :: l, m, hn, hs => by
  rw [List.nodup_cons] at hn
  have h1 := zdF (m := m.erase x) hn.2 fun y hy => (List.mem_erase_of_ne (show y ≠ x from fun e => by subst e; exact hn.1 hy)).2 (hs y (List.mem_cons_of_mem _ hy))
  have hx := hs x List.mem_cons_self
  rw [List.length_erase_of_mem hx] at h1
  have := List.length_pos_of_mem hx
  simp only [List.length_cons]
  omega
theorem zjD {L : List zd} (h : L.Nodup) : (zG L).length = L.length :=
 Nat.le_antisymm (zdF (zeF (zaT L)) fun x hx => (zao L x).1 hx) (zdF h fun x hx => (zao L x).2 hx)
def zas (L : List zd) (X : zd -> Prop) (L' : List zd) : Prop := (∃ N, L' = L ++ N) /\ L'.Nodup /\ ∀ f, f ∈ L' <-> f ∈ L \/ X f
theorem zas.refl {L : List zd} (h : L.Nodup) {X : zd -> Prop} (hX : ∀ f, X f -> f ∈ L) : zas L X L := ⟨⟨[], by simp⟩, h, fun f => ⟨.inl, fun h => h.elim id (hX f)⟩⟩
theorem zas.trans {L L1 L2 : List zd} {X Y Z : zd -> Prop} (h : zas L X L1) (h2 : zas L1 Y L2) (hZ : ∀ f, Z f <-> X f \/ Y f) : zas L Z L2 := by
 obtain ⟨⟨N, e⟩, _, m1⟩ := h
 obtain ⟨⟨N2, e2⟩, n2, m2⟩ := h2
 exact ⟨⟨N ++ N2, by rw [e2, e, List.append_assoc]⟩, n2, fun f => by rw [m2, m1, hZ, or_assoc]⟩
theorem zas.step {L : List zd} {f : zd} (h : L.Nodup) (hf : f ∉ L) : zas L (fun g => g = f) (L ++ [f]) :=
 ⟨⟨[f], rfl⟩, by
  rw [List.nodup_append]
  exact ⟨h, by simp, fun a ha b hb e => hf (by rw [List.mem_singleton.1 hb] at e; exact e ▸ ha)⟩, fun g => by simp⟩
def ze4 (rs : List zJ) (F : List zd) : List zd := zG (F ++ zR rs F)
def zaj (rs : List zJ) (F : List zd) : Nat -> List zd
 | 0 => F
 | n + 1 => ze4 rs (zaj rs F n)
def zcS (rs : List zJ) (F : List zd) (m : Nat) : Prop := (∀ k, k < m -> (zaj rs F (k + 1)).length ≠ (zaj rs F k).length) /\ (zaj rs F (m + 1)).length = (zaj rs F m).length
theorem zcS.unique {rs : List zJ} {F : List zd} {m n : Nat} (h : zcS rs F m) (h2 : zcS rs F n) : m = n := by
 rcases Nat.lt_trichotomy m n with h3 | h3 | h3
 ·exact absurd h.2 (h2.1 m h3)
 ·exact h3
 ·exact absurd h2.2 (h.1 n h3)
theorem zjO (rs : List zJ) (F : List zd) : ∀ n, zaj rs F (n + 1) = zaj rs (ze4 rs F) n
 | 0 => rfl
 | n + 1 => by
  show ze4 rs (zaj rs F (n + 1)) = ze4 rs (zaj rs (ze4 rs F) n)
  rw [zjO rs F n]
structure zaI (ar : List Int) (L : List zd) : Prop where
 nodup : L.Nodup
 fits : ∀ f ∈ L, zE ar f = true
theorem zaI.take {ar : List Int} {L : List zd} (h : zaI ar L) (n : Nat) : zaI ar (L.take n) := ⟨List.Nodup.sublist (List.take_sublist _ _) h.nodup, fun f hf => h.fits f (List.mem_of_mem_take hf)⟩
theorem zaI.consts {ar : List Int} {L : List zd} (h : zaI ar L) : ∀ f ∈ L, f.2.all zt = true := fun f hf => (zav (h.fits f hf)).2
theorem zaI.set {ar : List Int} {L : List zd} (h : ∀ f ∈ L, zE ar f = true) : zaI ar (zG L) := ⟨zeF (zaT L), fun f hf => h f ((zao L f).1 hf)⟩
theorem zm5 {ar : List Int} {rs : List zJ} {F : List zd} (h : ∀ r ∈ rs, zA ar r = true) (hF : zaI ar F) : zaI ar (ze4 rs F) :=
 zaI.set fun f hf => by
  rcases List.mem_append.1 hf with h1 | h1
  ·exact hF.fits f h1
  ·exact zcm F h f h1
theorem zbP {ar : List Int} {rs : List zJ} {F : List zd} (h : ∀ r ∈ rs, zA ar r = true) (hF : zaI ar F) : ∀ n, zaI ar (zaj rs F n)
 | 0 => hF
 | n + 1 => zm5 h (zbP h hF n)
theorem zen {ar : List Int} {rs : List zJ} {F G : List zd} (h : ∀ r ∈ rs, zA ar r = true) (hF : zaI ar F) (hG : zaI ar G) (e : ∀ f, f ∈ F <-> f ∈ G) (f : zd) : f ∈ zR rs F <-> f ∈ zR rs G := by
 rw [zcL h hF.consts hF.nodup, zcL h hG.consts hG.nodup]
 constructor
 ·rintro ⟨r, hr, b, hb, e2⟩; exact ⟨r, hr, b, (zit e _ _).1 hb, e2⟩
 ·rintro ⟨r, hr, b, hb, e2⟩; exact ⟨r, hr, b, (zit e _ _).2 hb, e2⟩
theorem zew {rs : List zJ} {F : List zd} (f : zd) : f ∈ ze4 rs F <-> f ∈ F \/ f ∈ zR rs F := by unfold ze4; rw [zao, List.mem_append]
theorem zke {ar : List Int} {rs : List zJ} {L L' : List zd} {o e : Nat} (h : ∀ r ∈ rs, zA ar r = true) (hL : zaI ar L) (ho : o <= e) (he : e = L.length) (hb : ∀ f, f ∈ zR rs (L.take o) -> f ∈ L)
 (hB : zas L (fun f => ∃ r ∈ rs, ∃ b, zco r.2 (zaw L o e r.2) b /\ f = zdU r b) L') : ∀ f, f ∈ L' <-> f ∈ L \/ f ∈ zR rs L := by
 intro f
 have hte : L.take e = L := by rw [he, List.take_length]
 rw [hB.2.2 f, zcL h hL.consts hL.nodup]
 constructor
 ·rintro (h1 | ⟨r, hr, b, hb, e2⟩)
  ·exact .inl h1
  ·refine .inr ⟨r, hr, b, ?_, e2⟩
   have := (zdu (L := L) ho (zbV.of (zcC (h r hr))) (b := b)).2 hb
   rw [hte] at this
   exact this
 ·rintro (h1 | ⟨r, hr, b, h2, e2⟩)
  ·exact .inl h1
  ·rw [<- hte] at h2
   rcases (zdu (L := L) ho (zbV.of (zcC (h r hr))) (b := b)).1 h2 with h3 | h3
   ·exact .inr ⟨r, hr, b, h3, e2⟩
   ·exact .inl (hb f ((zcL h (hL.take o).consts (hL.take o).nodup f).2 ⟨r, hr, b, h3, e2⟩))
theorem zja {L L' : List zd} {X : zd -> Prop} (h : zas L X L') : L'.take L.length = L /\ L.length <= L'.length := by
 obtain ⟨⟨N, e⟩, _⟩ := h
 subst e
 simp
theorem ziH (E : List Nat) (x : Nat) : (E ++ [x]).getLastD 0 = x := by simp
structure zf3 (ar : List Int) (rs : List zJ) (L0 : List zd) (E0 : List Nat) (L : List zd) (E : List Nat) (e j : Nat) : Prop where
 fit : zaI ar L
 pre : ∃ N, L = L0 ++ N
 ends : ∃ M, E = E0 ++ M /\ M.length = j /\ ∀ k, k < j -> M.getD k 0 <= L.length /\ ∀ f, f ∈ L.take (M.getD k 0) <-> f ∈ zaj rs (zG L0) k
 last : E.getLastD 0 = e
 le : e <= L.length
 heads : ∀ f, f ∈ zR rs (L.take e) -> f ∈ L
 now : ∀ f, f ∈ L <-> f ∈ zaj rs (zG L0) j
 grow : ∀ k, k + 1 < j -> (zaj rs (zG L0) (k + 1)).length ≠ (zaj rs (zG L0) k).length
 zero : j = 0 -> L = L0
 up : E.Pairwise (· < ·)
 ub : ∀ x ∈ E, x <= e
 first : 0 < j -> E0.getLastD 0 < L0.length
 lst : 0 < j -> (zaj rs (zG L0) (j - 1)).length = e
theorem zf3.start {ar : List Int} {rs : List zJ} {L : List zd} {E : List Nat} {e : Nat} (hL : zaI ar L) (he : E.getLastD 0 = e) (hl : e <= L.length) (hh : ∀ f, f ∈ zR rs (L.take e) -> f ∈ L) (hu : E.Pairwise (· < ·)) (hb : ∀ x ∈ E, x <= e) : zf3 ar rs L E L E e 0 :=
 ⟨hL, ⟨[], by simp⟩, ⟨[], by simp, rfl, fun k hk => absurd hk (by omega)⟩, he, hl, hh, fun f => (zao L f).symm, fun k hk => absurd hk (by omega), fun _ => rfl, hu, hb, fun h => absurd h (by omega), fun h => absurd h (by omega)⟩
theorem zj9 {ar : List Int} {F G : List zd} (hF : zaI ar F) (hG : zaI ar G) (h : ∀ f, f ∈ F <-> f ∈ G) : F.length = G.length :=
 Nat.le_antisymm (zdF hF.nodup fun x hx => (h x).1 hx) (zdF hG.nodup fun x hx => (h x).2 hx)
theorem zf3.step {ar : List Int} {rs : List zJ} {L0 L L' : List zd} {E0 E : List Nat} {e j : Nat} (hr : ∀ r ∈ rs, zA ar r = true) (h0 : zaI ar L0) (h : zf3 ar rs L0 E0 L E e j) (hlt : e < L.length)
 (hf : zaI ar L') (hB : zas L (fun f => ∃ r ∈ rs, ∃ b, zco r.2 (zaw L e L.length r.2) b /\ f = zdU r b) L') : zf3 ar rs L0 E0 L' (E ++ [L.length]) L.length (j + 1) := by
 obtain ⟨hp, hpl⟩ := zja hB
 have hm := zke hr h.fit h.le rfl h.heads hB
 have hS : zaI ar (zG L0) := zaI.set h0.fits
 have hi := zbP hr hS
 have hlen : (zaj rs (zG L0) j).length = L.length := (zj9 h.fit (hi j) h.now).symm
 refine ⟨hf, ?_, ?_, ziH _ _, hpl, ?_, ?_, ?_, fun e => absurd e (by omega), ?_, ?_, fun _ => ?_, fun _ => by simpa using hlen⟩
 ·obtain ⟨N, e1⟩ := h.pre
  obtain ⟨N2, e2⟩ := hB.1
  exact ⟨N ++ N2, by rw [e2, e1, List.append_assoc]⟩
 ·obtain ⟨M, e1, e2, e3⟩ := h.ends
  refine ⟨M ++ [L.length], by rw [e1, List.append_assoc], by simp [e2], fun k hk => ?_⟩
  by_cases hkj : k < j
  ·obtain ⟨g1, g2⟩ := e3 k hkj
   have e4 : (M ++ [L.length]).getD k 0 = M.getD k 0 := by
    simp only [List.getD_eq_getElem?_getD]
    rw [List.getElem?_append_left (by omega)]
   rw [e4]
   refine ⟨by omega, fun f => ?_⟩
   rw [<- g2 f]
   obtain ⟨N2, e5⟩ := hB.1
   rw [e5, List.take_append_of_le_length g1]
  ·have e4 : (M ++ [L.length]).getD k 0 = L.length := by
    have : k = M.length := by omega
    subst this
    simp
   rw [e4]
   refine ⟨hpl, fun f => ?_⟩
   rw [hp, show k = j by omega]
   exact h.now f
 ·intro f hfh
  rw [hp] at hfh
  exact (hm f).2 (.inr hfh)
 ·intro f
  rw [hm f]
  show _ <-> f ∈ ze4 rs (zaj rs (zG L0) j)
  rw [zew, h.now f, zen hr h.fit (hi j) h.now]
 ·intro k hk
  by_cases e1 : k + 1 < j
  ·exact h.grow k e1
  ·have e2 : k + 1 = j := by omega
   have h3 := h.lst (by omega)
   rw [e2, hlen, show k = j - 1 by omega, h3]
   omega
 ·rw [List.pairwise_append]
  exact ⟨h.up, by simp, fun a ha b hb => by
   have := h.ub a ha
   rw [List.mem_singleton.1 hb]
   omega⟩
 ·intro x hx
  rcases List.mem_append.1 hx with h1 | h1
  ·have := h.ub x h1
   omega
  ·rw [List.mem_singleton.1 h1]
   exact Nat.le_refl _
 ·by_cases e1 : 0 < j
  ·exact h.first e1
  ·have e2 : j = 0 := by omega
   subst e2
   obtain ⟨M, e3, e4, _⟩ := h.ends
   have e5 : M = [] := List.eq_nil_of_length_eq_zero e4
   subst e5
   rw [List.append_nil] at e3
   rw [<- e3, h.last, <- h.zero rfl]
   exact hlt
structure zmL (ar : List Int) (rs : List zJ) (L0 : List zd) (E0 : List Nat) (L : List zd) (E : List Nat) (m : Nat) : Prop where
 fit : zaI ar L
 pre : ∃ N, L = L0 ++ N
 rounds : zcS rs (zG L0) m
 now : ∀ f, f ∈ L <-> f ∈ zaj rs (zG L0) m
 last : E.getLastD 0 = L.length
 up : E.Pairwise (· < ·)
 ub : ∀ x ∈ E, x <= L.length
 ends : (m = 0 /\ E = E0 /\ L = L0) \/ (E0.getLastD 0 < L0.length /\ ∃ M, E = E0 ++ M /\ M.length = m + 1 /\ ∀ k, k <= m -> M.getD k 0 <= L.length /\ ∀ f, f ∈ L.take (M.getD k 0) <-> f ∈ zaj rs (zG L0) k)
theorem zf3.done {ar : List Int} {rs : List zJ} {L0 L : List zd} {E0 E : List Nat} {e j : Nat} (hr : ∀ r ∈ rs, zA ar r = true) (h0 : zaI ar L0) (h : zf3 ar rs L0 E0 L E e j) (hge : e = L.length) : ∃ m, zmL ar rs L0 E0 L E m := by
 have hS : zaI ar (zG L0) := zaI.set h0.fits
 have hi := zbP hr hS
 have hlen : (zaj rs (zG L0) j).length = L.length := (zj9 h.fit (hi j) h.now).symm
 have hte : L.take e = L := by rw [hge, List.take_length]
 obtain ⟨M, e1, e2, e3⟩ := h.ends
 by_cases hj : j = 0
 ·subst hj
  have hz := h.zero rfl
  subst hz
  have hM : M = [] := List.eq_nil_of_length_eq_zero e2
  subst hM
  rw [List.append_nil] at e1
  subst e1
  refine ⟨0, h.fit, ⟨[], by simp⟩, ⟨fun k hk => absurd hk (by omega), ?_⟩, h.now, by rw [h.last, hge], h.up, fun x hx => by have := h.ub x hx; omega, .inl ⟨rfl, rfl, rfl⟩⟩
  refine zj9 (hi 1) (hi 0) fun f => ?_
  show f ∈ ze4 rs (zG L) <-> f ∈ zG L
  rw [zew]
  refine ⟨fun h1 => h1.elim id fun h2 => ?_, .inl⟩
  have := h.heads f
  rw [hte] at this
  exact (zao L f).2 (this ((zen hr hS h.fit (zao L) f).1 h2))
 ·have hl := h.lst (by omega)
  refine ⟨j - 1, h.fit, h.pre, ⟨fun k hk => h.grow k (by omega), ?_⟩, fun f => ?_, by rw [h.last, hge], h.up, fun x hx => by have := h.ub x hx; omega, .inr ⟨h.first (by omega), M, e1, by omega, fun k hk => e3 k (by omega)⟩⟩
  ·rw [show j - 1 + 1 = j by omega, hlen, hl, hge]
  ·obtain ⟨g1, g2⟩ := e3 (j - 1) (by omega)
   have hL : E.getLastD 0 = M.getD (j - 1) 0 := by
    rw [e1]
    have hM : M ≠ [] := fun e => by rw [e] at e2; simp at e2; omega
    obtain ⟨M', x, rfl⟩ : ∃ M' x, M = M' ++ [x] := ⟨M.dropLast, M.getLast hM, (List.dropLast_concat_getLast hM).symm⟩
    rw [<- List.append_assoc, ziH]
    have e5 : j - 1 = M'.length := by rw [<- e2]; simp
    rw [e5]
    simp
   have := g2 f
   rw [<- hL, h.last, hte] at this
   exact this
structure zjf (ar : List Int) (rs : List zJ) (L0 : List zd) (E0 : List Nat) (L : List zd) (E : List Nat) (m : Nat) : Prop where
 fit : zaI ar L
 pre : ∃ N, L = L0 ++ N
 rounds : zcS rs (zG L0) m
 now : ∀ f, f ∈ L <-> f ∈ zaj rs (zG L0) m
 last : E.getLastD 0 = L.length
 up : E.Pairwise (· < ·)
 ub : ∀ x ∈ E, x <= L.length
 ends : ∃ M, E = E0 ++ M /\ M.length = m /\ ∀ k, k < m -> M.getD k 0 <= L.length /\ ∀ f, f ∈ L.take (M.getD k 0) <-> f ∈ zaj rs (zG L0) (k + 1)
theorem zjf.of {ar : List Int} {rs : List zJ} {L0 L1 L : List zd} {E0 E : List Nat} {m : Nat} (hr : ∀ r ∈ rs, zA ar r = true) (h0 : zaI ar L0) (h1 : zaI ar L1) (hl : E0.getLastD 0 = L0.length) (hpre : ∃ N, L1 = L0 ++ N)
 (hm : ∀ f, f ∈ L1 <-> f ∈ L0 \/ f ∈ zR rs L0) (h : zmL ar rs L1 E0 L E m) : ∃ m', zjf ar rs L0 E0 L E m' := by
 have hS : zaI ar (zG L0) := zaI.set h0.fits
 have hi := zbP hr hS
 have hst : zG L1 = ze4 rs (zG L0) := by
  refine (zaT L1).unique (zaT _) fun f => ?_
  rw [zew, zao, zao, hm f, zen hr hS h0 (zao L0)]
 have hit : ∀ n, zaj rs (zG L1) n = zaj rs (zG L0) (n + 1) := fun n => by rw [hst, zjO]
 obtain ⟨N1, hN1⟩ := hpre
 have hpre2 : ∃ N, L = L0 ++ N := by
  obtain ⟨N, e⟩ := h.pre
  exact ⟨N1 ++ N, by rw [e, hN1, List.append_assoc]⟩
 rcases h.ends with ⟨e1, e2, e3⟩ | ⟨e1, M, e2, e3, e4⟩
 ·subst e1 e2 e3
  have hN : N1 = [] := by
   have := h.last
   rw [hl, hN1, List.length_append] at this
   exact List.eq_nil_of_length_eq_zero (by omega)
  subst hN
  rw [List.append_nil] at hN1
  subst hN1
  exact ⟨0, h.fit, ⟨[], by simp⟩, h.rounds, h.now, h.last, h.up, h.ub, [], by simp, rfl, fun k hk => absurd hk (by omega)⟩
 ·refine ⟨m + 1, h.fit, hpre2, ⟨fun k hk => ?_, ?_⟩, fun f => by rw [h.now f, hit], h.last, h.up, h.ub, M, e2, e3, fun k hk => ?_⟩
  ·rcases k with _ | k
   ·rw [<- hit 0]
    show (zG L1).length ≠ (zG L0).length
    rw [zjD h0.nodup, zjD h1.nodup]
    omega
   ·rw [<- hit, <- hit]
    exact h.rounds.1 k (by omega)
  ·rw [<- hit, <- hit]
   exact h.rounds.2
  ·obtain ⟨g1, g2⟩ := e4 k (by omega)
   exact ⟨g1, fun f => by rw [g2 f, hit]⟩
def zks (rs : List zJ) (F : List zd) : Nat -> Nat -> Nat
 | 0, k => k
 | n + 1, k => if (zaj rs F (k + 1)).length = (zaj rs F k).length then k else zks rs F n (k + 1)
theorem zjV {rs : List zJ} {F : List zd} {m : Nat} (h : zcS rs F m) : ∀ n k, k <= m -> m <= k + n -> zks rs F n k = m
 | 0, k, h1, h2 => by show k = m; omega
 | n + 1, k, h1, h2 => by
  show (if _ then _ else _) = m
  by_cases e : k = m
  ·subst e
   rw [if_pos h.2]
  ·rw [if_neg (h.1 k (by omega))]
   exact zjV h n (k + 1) (by omega) (by omega)
theorem zem {rs : List zJ} {F : List zd} {m : Nat} (h : ∀ k, k < m -> (zaj rs F (k + 1)).length ≠ (zaj rs F k).length) (hF : F.Nodup) (hn : ∀ k, (zaj rs F k).Nodup) : ∀ k, k <= m -> k <= (zaj rs F k).length
 | 0, _ => Nat.zero_le _
 | k + 1, hk => by
  have ih := zem h hF hn k (by omega)
  have h1 := h k (by omega)
  have h2 := zdF (hn k) (m := zaj rs F (k + 1)) fun f hf => (zew f).2 (.inl hf)
  omega
theorem zcS.few {ar : List Int} {rs : List zJ} {F : List zd} {m : Nat} (har : zr ar = true) (hr : ∀ r ∈ rs, zA ar r = true) (hF : zaI ar F) (h : zcS rs F m) : m <= 1536 := by
 have hi := zbP hr hF
 have h1 := zem h.1 hF.nodup (fun k => (hi k).nodup) m (Nat.le_refl _)
 have h2 := (zdH har (hi m).nodup (hi m).fits).1
 omega
def zd9 (rs : List zJ) (F : List zd) : Nat := zks rs F 2000 0
theorem zeM {ar : List Int} {rs : List zJ} {F : List zd} {m : Nat} (har : zr ar = true) (hr : ∀ r ∈ rs, zA ar r = true) (hF : zaI ar F) (h : zcS rs F m) : zd9 rs F = m :=
 zjV h 2000 0 (Nat.zero_le _) (by have := h.few har hr hF; omega)
def zad (rs : List zJ) (F : List zd) : List (List zd) := (List.range (zd9 rs F + 1)).map (zaj rs F)
def zcc (rs : List zJ) (F : List zd) : List zd := zaj rs F (zd9 rs F)
open Go.RowKit
theorem zmE {L N : List zd} {o e : Nat} (ho : o <= L.length) (he : e <= L.length) (ls : List zC) : zaw (L ++ N) o e ls = zaw L o e ls := by
 unfold zaw zcZ
 rw [List.take_append_of_le_length ho, List.take_append_of_le_length he]
def zd0 (L : List zd) (e : Nat) (ls : List zC) : List LQ := ls.map fun l => (l, ofP (L.take e) l.2.1)
theorem zo0 {L : List zd} {e : Nat} {ls : List zC} {S : List (List Int)} (h : zbS (zd0 L e ls) S) : S.Nodup /\ ∀ b, b ∈ S <-> zc0 (L.take e) ls b := by
 refine ⟨h.1, fun b => ?_⟩
 rw [h.2 b]
 unfold zc0 zlO
 refine and_congr_right fun _ => and_congr ?_ ?_
 ·refine forall_congr' fun v => forall_congr' fun _ => ?_
  have e1 : (∃ q ∈ zd0 L e ls, (maskOf q.1.2.2).testBit v = true) <-> ∃ l ∈ ls, (maskOf l.2.2).testBit v = true := by
   constructor
   ·rintro ⟨q, hq, h⟩
    obtain ⟨l, hl, rfl⟩ := List.mem_map.1 hq
    exact ⟨l, hl, h⟩
   ·rintro ⟨l, hl, h⟩
    exact ⟨_, List.mem_map.2 ⟨l, hl, rfl⟩, h⟩
  rw [e1]
 ·constructor
  ·intro hq l hl
   have := hq _ (List.mem_map.2 ⟨l, hl, rfl⟩)
   unfold zbR at this
   rw [ziQ] at this
   exact this
  ·intro hq q hm
   obtain ⟨l, hl, rfl⟩ := List.mem_map.1 hm
   unfold zbR
   rw [ziQ]
   exact hq l hl
theorem znL {L : List zd} {e : Nat} {ls : List zC} (h : zbV ls) : zj1 (zd0 L e ls) := fun q hq v hv hm => by
 obtain ⟨l, hl, rfl⟩ := List.mem_map.1 hq
 obtain ⟨l', hl', h0, hm'⟩ := h.safe l hl v hv hm
 exact ⟨_, List.mem_map.2 ⟨l', hl', rfl⟩, h0, hm'⟩
theorem zoB : ∀ {l m : List zd}, l.Sublist m -> tot l <= tot m := fun {l m} h => by
 induction h with
 | slnil => exact Nat.le_refl _
 | cons a _ ih => rw [zdc]; omega
 | cons_cons a _ ih => rw [zdc, zdc]; omega
theorem zkj (L : List zd) (e : Nat) (p : Int) : (ofP (L.take e) p).Sublist L := (List.filter_sublist).trans (List.take_sublist _ _)
structure znN (L : List zd) : Prop where
 consts : ∀ f ∈ L, f.2.all zt = true
 len : L.length <= 1048576
 tot : tot L <= 1048576
theorem znN.sub {L M : List zd} (h : znN L) (hs : M.Sublist L) : znN M := ⟨fun f hf => h.consts f (hs.subset hf), Nat.le_trans hs.length_le h.len, Nat.le_trans (zoB hs) h.tot⟩
theorem zaI.fewL {ar : List Int} {L : List zd} (ha : zr ar = true) (h : zaI ar L) : znN L := by
 have h1 := zdH ha h.nodup h.fits
 exact ⟨h.consts, by omega, by omega⟩
theorem zoZ {L : List zd} {e : Nat} {ls : List zC} (h : zbV ls) (hL : znN L) (hl : zbB ls <= 1048576) : ∀ q ∈ zd0 L e ls, QOk q := fun q hq => by
 obtain ⟨l, hl', rfl⟩ := List.mem_map.1 hq
 have hk := h.kind l hl'
 have hf := hL.sub (zkj L e l.2.1)
 refine ⟨by show l.1 = 0 \/ l.1 = 1 \/ l.1 = 2 \/ l.1 = 3; omega, h.terms l hl', hf.consts, ?_, hf.len, hf.tot⟩
 obtain ⟨k, hk', rfl⟩ := List.getElem_of_mem hl'
 exact Nat.le_trans (za3 ls k hk') hl
theorem znM {L : List zd} {o e : Nat} {ls : List zC} (hL : znN L) : ∀ a ∈ zaw L o e ls, zm1 a := fun a ha => by
 obtain ⟨l, hl, rfl⟩ := List.mem_map.1 ha
 have h1 := hL.sub (zkj L e l.2.1)
 have h2 := hL.sub (zkj L o l.2.1)
 have h3 := h1.sub (List.drop_sublist (ofP (L.take o) l.2.1).length _)
 exact ⟨h1.consts, h1.len, h1.tot, h2.consts, h2.len, h2.tot, h3.consts, h3.len, h3.tot⟩
theorem zmF (L : List zd) (o e : Nat) (ls : List zC) : (zaw L o e ls).length = ls.length := by simp [zaw]
theorem zoc {ar : List Int} {l : zC} (ha : zr ar = true) (h : zaO ar l = true) : 0 <= l.2.1 /\ l.2.1 < 24 := by
 have h2 : ar.length <= 24 := by simp only [zr, Bool.and_eq_true, decide_eq_true_eq] at ha; exact ha.1
 unfold zaO at h
 split at h
 ·simp only [zah, Bool.and_eq_true, decide_eq_true_eq] at h
  omega
 ·split at h
  ·simp only [Bool.and_eq_true, decide_eq_true_eq] at h
   omega
  ·cases h
theorem ziw {ar : List Int} {r : zJ} (ha : zr ar = true) (h : zA ar r = true) : (0 <= r.1.1 /\ r.1.1 < 24) /\ r.1.2.all zz = true /\ r.1.2.length <= 2 /\ r.2.length <= 4 /\ ∀ l ∈ r.2, 0 <= l.2.1 /\ l.2.1 < 24 := by
 have h2 : ar.length <= 24 := by simp only [zr, Bool.and_eq_true, decide_eq_true_eq] at ha; exact ha.1
 simp only [zA, zah, Bool.and_eq_true, decide_eq_true_eq] at h
 exact ⟨⟨h.1.1.1, by omega⟩, h.1.2, zea ha h.1.1, h.2.1, fun l hl => zoc ha (List.all_eq_true.1 h.2.2.1 l hl)⟩
theorem zgr {ar : List Int} {r : zJ} {fs : List zd} {b : List Int} (_ha : zr ar = true) (h : zA ar r = true) (hf : zaI ar fs) (hb : zc0 fs r.2 b) : zE ar (zdU r b) = true :=
 zfw fs h _ ((zf8 h hf.consts hf.nodup _).2 ⟨b, hb, rfl⟩)
theorem zol : ∀ {E : List Nat} {m : Nat}, E.Pairwise (· < ·) -> (∀ x ∈ E, x <= m) -> E.length <= m + 1 := fun {E m} h hb =>
 zfL (m + 1) E (h.imp fun h => by omega) fun x hx => by have := hb x hx; omega
open Go.RowKit
def zfx (l : zC) : Bool := decide (l.1 = 1)
def zdP (r : zJ) : Bool := r.2.all fun l => !zfx l
def zaN (p : zal) : Bool := zaW p && p.2.all zdP
set_option maxHeartbeats 1000000 in
theorem zjL (v : Value) (ls : List zC) (B : Nat) (w : World) (h : za6 w B v ls) (hr : ls.length <= 1048576) :
 Calls Tryz.prog 36 #[v, .int .i64 1] w fun e w' => e = .returned (.bool (!ls.all fun l => !zfx l)) /\ w = w' := by
 have H := Lib.hid h
 obtain ⟨A, c, rfl, hc, _⟩ := h
 go_enter Tryz.func36, Tryz.ntmps36
 go_wp2_with (fail)
 go_loop [5] (fun i => ∃ k : Nat, k <= ls.length /\ i = .int .i64 k /\ zbf (fun l => !zfx l) ls k) (fun i => ls.length - (intOf i).toNat)
 case atStart => exact ⟨0, Nat.zero_le _, rfl, zbf.start⟩
 case round =>
  obtain ⟨k, hk, rfl, hs⟩ := hrel
  by_cases hlt : k < ls.length
  ·obtain ⟨b, o, u0, u1, u2, rfl, hbB, k0, k1, k2, rfl, rfl, p3⟩ := H.out.get hlt
   by_cases he : ls[k].1 = 1
   ·have hd : (ls[k].1 == 1) = true := by simpa using he
    have HE := Lib.hid (zcp (p := fun l : zC => !zfx l) hlt (by simp [zfx, he]))
    clear hs he p3
    go_wp2_with (fail)
    go_ret
    exact ⟨zi (by rw [HE.out]; rfl), rfl⟩
   ·have hd : (ls[k].1 == 1) = false := by simpa using he
    have HS := Lib.hid (hs.step hlt (by simp [zfx, he]))
    clear hs he p3
    go_wp2_with (fail)
    go_round
    case rel => exact ⟨k + 1, by omega, by go_num, HS.out⟩
    case measure => simp [intOf]; omega
  ·have HE := Lib.hid (hs.done (by omega))
   clear hs
   go_wp2_with (fail)
   go_ret
   exact ⟨zi (by rw [HE.out]; rfl), rfl⟩
set_option maxHeartbeats 1000000 in
theorem zhb (v : Value) (p : zal) (w : World) (h : zb7 w w.heap.size v p) (hs : szP p <= 1048576) :
 Calls Tryz.prog 11 #[v] w fun e w' => e = .returned (.bool (zaN p)) /\ Below w.heap.size w w' := by
 have HP := Lib.hid h
 have hsz := hs
 unfold szP at hs
 obtain ⟨a, b, rfl, h, h2⟩ := h
 have H2 := Lib.hid h2
 obtain ⟨A, c, rfl, hc, _⟩ := h
 obtain ⟨A2, c2, rfl, hc2, _⟩ := h2
 go_enter Tryz.func11, Tryz.ntmps11
 go_wp2_with (fail)
 obtain ⟨w2, hw2⟩ : ∃ w2, w2 = w.alloc (Obj.cells #[Value.slice A p.1.length c, Value.slice A2 p.2.length c2] 26) := ⟨_, rfl⟩
 have B2 : Below w.heap.size w w2 := by rw [hw2]; exact ze _ _
 have x2 : Blk w2 w.heap.size 26 #[.slice A p.1.length c, .slice A2 p.2.length c2] := by rw [hw2]; exact Blk.new _ _ _
 have q0 : w2.cell? ⟨w.heap.size, 0, none⟩ = some (.slice A p.1.length c) := x2.cell 0
 have q1 : w2.cell? ⟨w.heap.size, 1, none⟩ = some (.slice A2 p.2.length c2) := x2.cell 1
 rw [<- hw2]
 clear hw2
 go_loop [3] (fun i => ∃ k : Nat, k <= p.2.length /\ i = .int .i64 k /\ zbf zdP p.2 k) (fun i => p.2.length - (intOf i).toNat)
 case atStart => exact ⟨0, Nat.zero_le _, rfl, zbf.start⟩
 case round =>
  obtain ⟨k, hk, rfl, hs⟩ := hrel
  by_cases hlt : k < p.2.length
  ·obtain ⟨b, o, u0, u1, u2, rfl, hbB, k0, k1, k2, rfl, p3, p4⟩ := (H2.out.on B2).get hlt
   have HB := Lib.hid p4
   obtain ⟨A4, c4, rfl, hc4, _⟩ := p3
   obtain ⟨A5, c5, rfl, hc5, _⟩ := p4
   have hle := zbZ p.2 k hlt
   unfold szR at hle
   by_cases he : zdP p.2[k] = true
   ·have HK := Lib.hid (zjL _ p.2[k].2 _ _ HB.out (by omega))
    have HS := Lib.hid (hs.step hlt he)
    have he2 : (!p.2[k].2.all fun l => !zfx l) = false := by unfold zdP at he; rw [he]; rfl
    rw [he2] at HK
    clear hs he he2
    go_wp2_with (go_at_call 36; refine HK.out.mono ?_; rintro e w' ⟨rfl, rfl⟩)
    go_round
    case rel => exact ⟨k + 1, by omega, by go_num, HS.out⟩
    case measure => simp [intOf]; omega
   ·have HK := Lib.hid (zjL _ p.2[k].2 _ _ HB.out (by omega))
    have he' : zdP p.2[k] = false := by simpa using he
    have HS := Lib.hid (show zaN p = false by unfold zaN; rw [zcp hlt he', Bool.and_false])
    have he2 : (!p.2[k].2.all fun l => !zfx l) = true := by unfold zdP at he'; rw [he']; rfl
    rw [he2] at HK
    clear hs he he2 he'
    go_wp2_with (go_at_call 36; refine HK.out.mono ?_; rintro e w' ⟨rfl, rfl⟩)
    go_ret
    exact ⟨zi HS.out.symm, B2⟩
  ·have HE := Lib.hid (show zaN p = zaW p by unfold zaN; rw [hs.done (by omega), Bool.and_true])
   clear hs
   go_wp2_with (fail)
   refine (zgq _ p _ (HP.out.on B2) hsz).mono ?_
   rintro e w5 ⟨rfl, hb5⟩
   go_wp2_with (fail)
   go_ret
   exact ⟨zi HE.out.symm, zf B2 hb5⟩
set_option maxHeartbeats 1000000 in
theorem zhk (v : Value) (p : zal) (w : World) (h : zb7 w w.heap.size v p) (hs : szP p <= 1048576) :
 Calls Tryz.prog 10 #[v] w fun e w' => e = .returned (.bool (zaN p)) /\ Below w.heap.size w w' := by
 have HP := Lib.hid h
 have hsz := hs
 unfold szP at hs
 obtain ⟨a, b, rfl, h, h2⟩ := h
 have H2 := Lib.hid h2
 obtain ⟨A, c, rfl, hc, _⟩ := h
 obtain ⟨A2, c2, rfl, hc2, _⟩ := h2
 go_enter Tryz.func10, Tryz.ntmps10
 go_wp2_with (fail)
 refine (zef _ p _ (HP.out.on (ze _ _)) hsz).mono ?_
 rintro e w2 ⟨rfl, hb2⟩
 have B2 := zf (ze _ _) hb2
 have x2 : Blk w2 w.heap.size 26 #[.slice A p.1.length c, .slice A2 p.2.length c2] := (Blk.new w _ _).below hb2 (by simp)
 have q1 : w2.cell? ⟨w.heap.size, 1, none⟩ = some (.slice A2 p.2.length c2) := x2.cell 1
 by_cases hf : zaW p = true
 ·rw [hf]
  have HF := Lib.hid (show zaN p = p.2.all zdP by unfold zaN; rw [hf, Bool.true_and])
  clear hf hb2
  go_wp2_with (fail)
  go_loopw [13] (fun i wr => ∃ k : Nat, k <= p.2.length /\ i = .int .i64 k /\ zbf zdP p.2 k /\ Below w2.heap.size w2 wr) (fun i _ => p.2.length - (intOf i).toNat)
  case atStart => exact ⟨0, Nat.zero_le _, rfl, zbf.start, Below.refl _ _⟩
  case round =>
   obtain ⟨k, hk, rfl, hs, hbe⟩ := hrel
   have BW := zf B2 hbe
   clear q1
   by_cases hlt : k < p.2.length
   ·obtain ⟨b, o, u0, u1, u2, rfl, hbB, k0, k1, k2, rfl, p3, p4⟩ := (H2.out.on BW).get hlt
    have HB := Lib.hid p4
    obtain ⟨A4, c4, rfl, hc4, _⟩ := p3
    obtain ⟨A5, c5, rfl, hc5, _⟩ := p4
    have hle := zbZ p.2 k hlt
    unfold szR at hle
    go_wp2_with (fail)
    obtain ⟨w3, hw3⟩ : ∃ w3, w3 = wr.alloc (Obj.cells #[Value.int IntKind.i64 p.2[k].1.1, Value.slice A4 p.2[k].1.2.length c4, Value.slice A5 p.2[k].2.length c5] 66) := ⟨_, rfl⟩
    have B3 : Below wr.heap.size wr w3 := by rw [hw3]; exact ze _ _
    rw [<- hw3]
    clear hw3 k0 k1 k2
    go_loopw [20] (fun i ws => ∃ m : Nat, m <= p.2[k].2.length /\ i = .int .i64 m /\ zbf (fun l => !zfx l) p.2[k].2 m /\ Below w3.heap.size w3 ws) (fun i _ => p.2[k].2.length - (intOf i).toNat)
    case atStart => exact ⟨0, Nat.zero_le _, rfl, zbf.start, Below.refl _ _⟩
    case round =>
     obtain ⟨m, hm, rfl, ht, hbt⟩ := hrel
     have BT := zf B3 hbt
     by_cases hlm : m < p.2[k].2.length
     ·obtain ⟨b', o', u0, u1, u2, rfl, hbB', k0, k1, k2, rfl, rfl, p5⟩ := (HB.out.on BT).get hlm
      obtain ⟨A6, c6, rfl, hc6, _⟩ := p5
      by_cases he : p.2[k].2[m].1 = 1
      ·have hd : (p.2[k].2[m].1 == 1) = true := by simpa using he
       have HE := Lib.hid (show zaN p = false by rw [HF.out, zcp hlt (show zdP p.2[k] = false from zcp hlm (by simp [zfx, he]))])
       clear hs ht he
       go_wp2_with (fail)
       go_ret
       exact ⟨zi HE.out.symm, zf BW (zf BT (ze _ _))⟩
      ·have hd : (p.2[k].2[m].1 == 1) = false := by simpa using he
       have HT := Lib.hid (ht.step hlm (by simp [zfx, he]))
       clear ht he
       go_wp2_with (fail)
       go_roundw
       case rel => exact ⟨m + 1, by omega, by go_num, HT.out, zf hbt (ze _ _)⟩
       case measure => simp [intOf]; omega
     ·have HS := Lib.hid (hs.step hlt (show zdP p.2[k] = true from ht.done (by omega)))
      clear hs ht
      go_wp2_with (fail)
      go_roundw
      case rel => exact ⟨k + 1, by omega, by go_num, HS.out, zf hbe BT⟩
      case measure => simp [intOf]; omega
   ·have HE := Lib.hid (show zaN p = true by rw [HF.out, hs.done (by omega)])
    clear hs
    go_wp2_with (fail)
    go_ret
    exact ⟨zi HE.out.symm, BW⟩
 ·have hf' : zaW p = false := by simpa using hf
  rw [hf']
  have HE := Lib.hid (show zaN p = false by simp [zaN, hf'])
  clear hf hf'
  go_wp2_with (fail)
  go_ret
  exact ⟨zi HE.out.symm, B2⟩
open Go.RowKit
def szF (fs : List zd) : Nat := fs.length + tot fs
open Go.RowKit
theorem zbY.empty (w : World) : zbY (w.alloc (.cells #[] 27)) w.heap.size (w.heap.size + 1) (.slice (some ⟨w.heap.size, 0, none⟩) 0 0) [] [] (fun _ => 0) (fun _ => 0) :=
 ⟨World.ownsRow_made w #[] 0 (Nat.le_refl _) (by decide) rfl, fun g hg => by simp [Value.ownBlock] at hg; omega, fun i h => absurd h (by simp), fun i j _ h => absurd h (by simp)⟩
theorem zeA (rs : List zJ) (F : List zd) : ∀ n k, zks rs F n k <= k + n
 | 0, k => Nat.le_refl _
 | n + 1, k => by
  show (if _ then _ else _) <= _
  split
  ·omega
  ·have := zeA rs F n (k + 1)
   omega
def zeX (rs : List zJ) (F : List zd) (k : Nat) : List (List zd) := (List.range k).map (zaj rs F)
theorem zli (rs : List zJ) (F : List zd) (k : Nat) : (zeX rs F k).length = k := by simp [zeX]
theorem zgF (rs : List zJ) (F : List zd) (k : Nat) : zeX rs F (k + 1) = zeX rs F k ++ [zaj rs F k] := by simp [zeX, List.range_succ]
theorem zgG {ar : List Int} {rs : List zJ} {F : List zd} (har : zr ar = true) (hr : ∀ r ∈ rs, zA ar r = true) (hF : zaI ar F) (k : Nat) : (zaj rs F k).length <= 1536 /\ tot (zaj rs F k) <= 3072 :=
 zdH har (zbP hr hF k).nodup (zbP hr hF k).fits
set_option maxHeartbeats 4000000 in
theorem zgD (ar : List Int) (har : zr ar = true) (rs : List zJ) (hfit : ∀ r ∈ rs, zA ar r = true) (hsz : zgm rs <= 1048576) (hrl : rs.length <= 1048576) (v v2 : Value) (fs : List zd) (w : World) (h : zbp w w.heap.size v rs) (h2 : zu w w.heap.size v2 fs) (hf : ∀ f ∈ fs, zE ar f = true) (hn : fs.length <= 1048576) (ht : tot fs <= 1048576) :
 Calls Tryz.prog 56 #[v, v2] w fun e w' => ∃ A c, e = .returned (.slice A (zad rs (zG fs)).length c) /\ zcf w' w.heap.size w'.heap.size (.slice A (zad rs (zG fs)).length c) (zad rs (zG fs)) /\ Below w.heap.size w w' := by
 obtain ⟨i0, hi0, hz0, hz1, hz2⟩ := info_parts Tryz.infoFactS
 obtain ⟨F, hF⟩ : ∃ F, F = zG fs := ⟨_, rfl⟩
 have HFT := Lib.hid (show zaI ar F by rw [hF]; exact zaI.set hf)
 have HH := Lib.hid h
 have H2 := Lib.hid h2
 have HAR := Lib.hid har
 have HFIT := Lib.hid hfit
 have HFE := Lib.hid (show zG (fs ++ []) = F by rw [hF, List.append_nil])
 obtain ⟨A, c, rfl, hc, _⟩ := h
 obtain ⟨A2, c2, rfl, hc2, _⟩ := h2
 have hw1 := ze w (Obj.cells #[] 27)
 have CE := Lib.hid (zch (.slice A2 fs.length c2) (.slice none 0 0) fs [] _ (H2.out.on hw1) ⟨none, 0, rfl, by simp, fun h => absurd h (by simp)⟩ (by simp; omega) (by simp [tot] at ht ⊢; omega))
 rw [HFE.out] at CE
 have HE0 := Lib.hid (zbY.empty w)
 rw [<- hF]
 clear hF har hfit hf hw1
 go_enter Tryz.func56, Tryz.ntmps56
 go_wp2_with (go_at_call 65; refine CE.out.mono ?_; rintro e1 w1 ⟨A3, c3, rfl, o3, b3⟩; have H3 := Lib.hid (And.intro o3 b3); clear o3 b3)
 have hs1 : w.heap.size + 1 <= w1.heap.size := by have := H3.out.2.size; simpa using this
 have HB1 := Lib.hid (show Below w.heap.size w w1 from (ze w _).trans (H3.out.2.mono (by simp)))
 have HF1 := Lib.hid (show zbY w1 w.heap.size (w.heap.size + 1) (.slice (some ⟨w.heap.size, 0, none⟩) 0 0) [] [] (fun _ => 0) (fun _ => 0) from HE0.out.below H3.out.2 (by simp))
 go_loopw [5, 6] (fun q x wr => ∃ (k : Nat) (A : Option Addr) (c : Nat) (hv : List Value) (P Q : Nat -> Nat) (A4 : Option Addr) (c4 a m hi : Nat), q = .slice A k c /\ x = .slice A4 (zaj rs F k).length c4 /\ zbY wr w.heap.size hi (.slice A k c) hv (zeX rs F k) P Q /\ zq wr a m (.slice A4 (zaj rs F k).length c4) (zaj rs F k) /\ hi <= a /\ w.heap.size <= a /\ a <= m /\ m <= wr.heap.size /\ (∀ j, j < k -> (zaj rs F (j + 1)).length ≠ (zaj rs F j).length) /\ Below w.heap.size w wr) (fun q _ _ => match q with | .slice _ n _ => 2000 - n | _ => 0)
 case atStart => exact ⟨0, _, 0, [], _, _, A3, c3, w.heap.size + 1, w1.heap.size, w.heap.size + 1, rfl, rfl, HF1.out, H3.out.1.mono (by simp) (Nat.le_refl _), Nat.le_refl _, by omega, hs1, Nat.le_refl _, fun j hj => absurd hj (by omega), HB1.out⟩
 case round =>
  obtain ⟨k, A5, c5, hv, P, Q, A4, c4, a, m, hi, rfl, rfl, hff, hno, hia, hla, ham, hm, hgr, hbe⟩ := hrel
  have HFF := Lib.hid hff
  have HNO := Lib.hid hno
  have HGR := Lib.hid hgr
  have HBE := Lib.hid hbe
  obtain ⟨G, hG⟩ : ∃ G, G = zaj rs F k := ⟨_, rfl⟩
  have hfew := zgG HAR.out HFIT.out HFT.out k
  have HGF := Lib.hid (show zaI ar G by rw [hG]; exact zbP HFIT.out HFT.out k)
  have hkm : k <= G.length := by rw [hG]; exact zem hgr HFT.out.nodup (fun j => (zbP HFIT.out HFT.out j).nodup) k (Nat.le_refl _)
  rw [<- hG] at HNO hfew
  rw [<- hG]
  obtain ⟨hG1, hG2⟩ := hfew
  have HGG := Lib.hid hG
  obtain ⟨G1, hG1e⟩ : ∃ G1, G1 = ze4 rs G := ⟨_, rfl⟩
  have HG1 := Lib.hid (show G1 = zaj rs F (k + 1) by rw [hG1e, hG]; rfl)
  have HST := Lib.hid (show zG (G ++ zR rs G) = G1 by rw [hG1e]; rfl)
  have hhf := zeY (rs := rs) G HAR.out HFIT.out
  have HLEN := Lib.hid (zli rs F k)
  clear hff hno hgr hbe hG hG1e
  go_upto_region 4 with (at_builtin; refine wpList_append_lies _ rfl (.tmp 11) (.tmp 13) 42 rfl w.heap.size 27 i0 (.slice none 0 0) 1 24 Tryz.underlying42 hi0 hz0 hz1 hz2 rfl (by decide) (.slice A5 k c5) k hv rfl ?c1 ⟨wr.heap.size, 0, none⟩ 1 1 [.slice A4 G.length c4] rfl rfl (cell_one_new _ _ _) ?c2 (by omega) (by unfold maxLen; omega) (by omega) ?c3 _ rfl ?_)
  case c1 => have := HFF.out.row; rw [HLEN.out] at this; exact this.alloc _
  case c2 => first | rfl | (intro u hu; simp at hu; subst hu; rfl)
  case c3 => have := HBE.out.size; (try simp); omega
  intro g2 cap w4 hown hgrw hat _
  have HP := Lib.hid (HFF.out.push (v' := .slice (some ⟨g2, 0, none⟩) (k + 1) cap) HNO.out hia hla ham hm hgrw (by rw [HLEN.out]; exact hown) (by
   rcases hat with hat | hat
   ·exact .inl (by rw [hat]; rfl)
   ·exact .inr fun b hb => by
     have e : g2 = b := by simpa [Value.ownBlock] using hb
     rw [<- e, hat]
     simp))
  have HB4 := Lib.hid (show Below w.heap.size w w4 from (HBE.out.trans ((ze wr _).mono HBE.out.size)).grown hgrw (by have := HBE.out.size; simp; omega) fun b hb => (HFF.out.row.lt b hb).1)
  have hs4 := (zy hgrw).size
  clear hown hgrw hat
  have CA := Lib.hid (zno (.slice A rs.length c) (.slice A4 G.length c4) ar rs G w4 (HH.out.on HB4.out) HP.out.2.rdS HAR.out HFIT.out hsz hrl (by omega) (by omega) HGF.out.consts HGF.out.nodup)
  go_upto_region 5 with (first
   | (go_at_call 46; refine CA.out.mono ?_; rintro e5 w5 ⟨A6, c6, rfl, o6, b6⟩; have H6 := Lib.hid (And.intro o6 b6); clear o6 b6)
   | (go_at_call 65
      have CF := zch (.slice A4 G.length c4) (.slice A6 (zR rs G).length c6) G (zR rs G) w5 ((HP.out.2.rdS).on H6.out.2) H6.out.1.rd (by omega) (by omega)
      rw [HST.out] at CF
      refine CF.mono ?_
      clear CF
      rintro e7 w7 ⟨A7, c7, rfl, o7, b7⟩; have H7 := Lib.hid (And.intro o7 b7); clear o7 b7))
  have hs5 := H6.out.2.size
  have hs7 := H7.out.2.size
  have HB7 := Lib.hid (show Below w.heap.size w w7 from zf (zf HB4.out H6.out.2) H7.out.2)
  by_cases he : G1.length = G.length
  ·have hd : ((G1.length : Int) == (G.length : Int)) = true := by simp [he]
   have HE := Lib.hid (show zad rs F = zeX rs F k ++ [G] from by
    have hM : zcS rs F k := ⟨HGR.out, by rw [<- HG1.out, he, HGG.out]⟩
    unfold zad
    rw [zeM HAR.out HFIT.out HFT.out hM, HGG.out]
    exact zgF rs F k)
   have HEL := Lib.hid (show (zad rs F).length = k + 1 by rw [HE.out, List.length_append, HLEN.out]; rfl)
   clear he
   go_wp2_with fail
   go_ret
   obtain ⟨P', Q', hff'⟩ := HP.out.1
   have hfin := (hff'.below (zf H6.out.2 H7.out.2) (Nat.le_refl _)).mono (Nat.le_refl _) (Nat.le_trans hs5 hs7)
   rw [<- HE.out] at hfin
   rw [HEL.out]
   exact ⟨_, cap, rfl, ⟨_, P', Q', hfin⟩, HB7.out⟩
  ·have hd : ((G1.length : Int) == (G.length : Int)) = false := by simp; omega
   have HNE := Lib.hid he
   clear he
   go_wp2_with fail
   go_roundw
   case rel =>
    obtain ⟨P', Q', hff'⟩ := HP.out.1
    refine ⟨k + 1, some ⟨g2, 0, none⟩, cap, hv ++ [.slice A4 G.length c4], P', Q', A7, c7, w5.heap.size, w7.heap.size, w4.heap.size, rfl, by rw [HG1.out], ?_, ?_, hs5, by omega, hs7, Nat.le_refl _, fun j hj => ?_, HB7.out⟩
    ·rw [zgF, <- HGG.out]
     exact hff'.below (zf H6.out.2 H7.out.2) (Nat.le_refl _)
    ·rw [<- HG1.out]
     exact H7.out.1
    ·by_cases e : j = k
     ·subst e
      rw [<- HG1.out, <- HGG.out]
      exact HNE.out
     ·exact HGR.out j (by omega)
   case measure => simp; omega
set_option maxHeartbeats 1000000 in
theorem zlf (ar : List Int) (har : zr ar = true) (rs : List zJ) (hfit : ∀ r ∈ rs, zA ar r = true) (hsz : zgm rs <= 1048576) (hrl : rs.length <= 1048576) (v v2 : Value) (fs : List zd) (w : World) (h : zbp w w.heap.size v rs) (h2 : zu w w.heap.size v2 fs) (hf : ∀ f ∈ fs, zE ar f = true) (hn : fs.length <= 1048576) (ht : tot fs <= 1048576) :
 Calls Tryz.prog 34 #[v, v2] w fun e w' => ∃ A c, e = .returned (.slice A (zcc rs (zG fs)).length c) /\ zq w' w.heap.size w'.heap.size (.slice A (zcc rs (zG fs)).length c) (zcc rs (zG fs)) /\ Below w.heap.size w w' := by
 have CR := Lib.hid (zgD ar har rs hfit hsz hrl v v2 fs w h h2 hf hn ht)
 obtain ⟨F, hF⟩ : ∃ F, F = zG fs := ⟨_, rfl⟩
 rw [<- hF] at CR
 rw [<- hF]
 obtain ⟨FF, hFF⟩ : ∃ FF, FF = zad rs F := ⟨_, rfl⟩
 rw [<- hFF] at CR
 obtain ⟨m, hm⟩ : ∃ m, m = zd9 rs F := ⟨_, rfl⟩
 have hlen : FF.length = m + 1 := by rw [hFF, hm]; simp [zad]
 obtain ⟨G, hG⟩ : ∃ G, G = zcc rs F := ⟨_, rfl⟩
 have HAT := Lib.hid (show ∀ h : m < FF.length, FF[m] = G from fun h => by
  subst hFF
  rw [hG]
  simp [zad, zcc, hm])
 rw [<- hG]
 have HLEN := Lib.hid hlen
 rw [hlen] at CR
 have hmb : m <= 2000 := by rw [hm]; exact zeA rs F 2000 0
 clear hF hFF hG hm hlen h h2 har hfit hf
 go_enter Tryz.func34, Tryz.ntmps34
 go_upto_region 2 with (go_at_call 56; refine CR.out.mono ?_; rintro e1 w1 ⟨A1, c1, rfl, o1, b1⟩; have H1 := Lib.hid (And.intro o1 b1); clear o1 b1)
 obtain ⟨hv, P, Q, hff⟩ := H1.out.1
 have hmlt : m < FF.length := by rw [HLEN.out]; omega
 have hff2 := hff
 rw [<- HLEN.out] at hff2
 obtain ⟨g, A2, c2, rfl, hg, hlo, k0, o0, _, _⟩ := hff2.get hmlt
 rw [HAT.out hmlt] at k0 o0
 obtain ⟨q1, q2, -⟩ := hff.own m hmlt (by rw [hff.len]; exact hmlt)
 have HO := Lib.hid (o0.mono (lo' := w.heap.size) (hi' := w1.heap.size) q1 q2.2)
 have hm6 : (m : Int) <= 2000 := by omega
 have hm7 : (m : Int) < (m : Int) + 1 := by omega
 clear hff hff2 o0 q1 q2
 go_wp2_with fail
 go_ret
 exact ⟨A2, c2, rfl, HO.out, H1.out.2⟩
open Go.RowKit
abbrev FV := zd × Value
def zcN (X : List FV) : List Value := X.flatMap fun x => [.int .i64 x.1.1, x.2]
theorem zgP (X Y : List FV) : zcN (X ++ Y) = zcN X ++ zcN Y := by simp [zcN]
theorem ziW : ∀ (X : List FV) (k : Nat) (h : k < X.length), (zcN X)[k * 2]? = some (.int .i64 X[k].1.1) /\ (zcN X)[k * 2 + 1]? = some X[k].2
 | [], _, h => absurd h (by simp)
 | x :: X, 0, _ => by simp [zcN]
 | x :: X, k + 1, h => by
  obtain ⟨h1, h2⟩ := ziW X k (by simpa using h)
  have e : zcN (x :: X) = .int .i64 x.1.1 :: x.2 :: zcN X := rfl
  rw [e, show (k + 1) * 2 = k * 2 + 1 + 1 by omega, show k * 2 + 1 + 1 + 1 = (k * 2 + 1) + 1 + 1 by omega]
  simp only [List.getElem?_cons_succ, List.getElem_cons_succ]
  exact ⟨h1, h2⟩
def wdN (x : Nat) : Value := .int .u64 ((x : Nat) : Int)
def inN (x : Nat) : Value := .int .i64 ((x : Nat) : Int)
structure zaF (cs : Array Value) (R : Nat -> Value) (T : List Nat) (O La : Nat -> Nat) : Prop where
 size : cs.size = 98
 list : cs[0]? = some (R 0)
 ends : cs[1]? = some (R 1)
 tab : ∀ p, p < 24 -> cs[2 + p]? = some (wdN (T.getD p 0))
 pred : ∀ p, p < 24 -> cs[26 + p * 3]? = some (R (2 + p))
 old : ∀ p, p < 24 -> cs[26 + p * 3 + 1]? = some (inN (O p))
 lat : ∀ p, p < 24 -> cs[26 + p * 3 + 2]? = some (inN (La p))
def zcq {α : Type} (F : Nat -> α) (r : Nat) (v : α) : Nat -> α := fun s => if s = r then v else F s
theorem zbg {α : Type} (F : Nat -> α) (r : Nat) (v : α) : zcq F r v r = v := if_pos rfl
theorem zbn {α : Type} (F : Nat -> α) {r s : Nat} (v : α) (h : s ≠ r) : zcq F r v s = F s := if_neg h
section
variable {cs : Array Value} {R : Nat -> Value} {T : List Nat} {O La : Nat -> Nat} {i p : Nat} {u : Value}
theorem zO (h : i ≠ p) : (cs.setIfInBounds i u)[p]? = cs[p]? := by rw [Array.getElem?_setIfInBounds, if_neg h]
theorem zcA (h : i < cs.size) : (cs.setIfInBounds i u)[i]? = some u := by rw [Array.getElem?_setIfInBounds, if_pos rfl, if_pos h]
theorem zaF.setList (h : zaF cs R T O La) (u : Value) : zaF (cs.setIfInBounds 0 u) (zcq R 0 u) T O La where
 size := by simpa using h.size
 list := by rw [zbg]; exact zcA (by rw [h.size]; omega)
 ends := by rw [zbn R u (by omega), zO (by omega)]; exact h.ends
 tab p hp := by rw [zO (by omega)]; exact h.tab p hp
 pred p hp := by rw [zbn R u (by omega), zO (by omega)]; exact h.pred p hp
 old p hp := by rw [zO (by omega)]; exact h.old p hp
 lat p hp := by rw [zO (by omega)]; exact h.lat p hp
theorem zaF.setEnds (h : zaF cs R T O La) (u : Value) : zaF (cs.setIfInBounds 1 u) (zcq R 1 u) T O La where
 size := by simpa using h.size
 list := by rw [zbn R u (by omega), zO (by omega)]; exact h.list
 ends := by rw [zbg]; exact zcA (by rw [h.size]; omega)
 tab p hp := by rw [zO (by omega)]; exact h.tab p hp
 pred p hp := by rw [zbn R u (by omega), zO (by omega)]; exact h.pred p hp
 old p hp := by rw [zO (by omega)]; exact h.old p hp
 lat p hp := by rw [zO (by omega)]; exact h.lat p hp
theorem zaF.setPred (h : zaF cs R T O La) (hp : p < 24) (u : Value) : zaF (cs.setIfInBounds (26 + p * 3) u) (zcq R (2 + p) u) T O La where
 size := by simpa using h.size
 list := by rw [zbn R u (by omega), zO (by omega)]; exact h.list
 ends := by rw [zbn R u (by omega), zO (by omega)]; exact h.ends
 tab q hq := by rw [zO (by omega)]; exact h.tab q hq
 pred q hq := by
  by_cases e : q = p
  ·subst e
   rw [zbg]
   exact zcA (by rw [h.size]; omega)
  ·rw [zbn R u (by omega), zO (by omega)]
   exact h.pred q hq
 old q hq := by rw [zO (by omega)]; exact h.old q hq
 lat q hq := by rw [zO (by omega)]; exact h.lat q hq
theorem zaF.setTab (h : zaF cs R T O La) (hT : T.length = 24) (hp : p < 24) (x : Nat) : zaF (cs.setIfInBounds (2 + p) (wdN x)) R (T.set p x) O La where
 size := by simpa using h.size
 list := by rw [zO (by omega)]; exact h.list
 ends := by rw [zO (by omega)]; exact h.ends
 tab q hq := by
  by_cases e : q = p
  ·subst e
   rw [zcA (by rw [h.size]; omega)]
   simp [hT, hq]
  ·rw [zO (by omega), h.tab q hq]
   simp only [List.getD_eq_getElem?_getD]
   rw [List.getElem?_set_ne (by omega)]
 pred q hq := by rw [zO (by omega)]; exact h.pred q hq
 old q hq := by rw [zO (by omega)]; exact h.old q hq
 lat q hq := by rw [zO (by omega)]; exact h.lat q hq
theorem zaF.setOld (h : zaF cs R T O La) (hp : p < 24) (x : Nat) : zaF (cs.setIfInBounds (26 + p * 3 + 1) (inN x)) R T (zcq O p x) La where
 size := by simpa using h.size
 list := by rw [zO (by omega)]; exact h.list
 ends := by rw [zO (by omega)]; exact h.ends
 tab q hq := by rw [zO (by omega)]; exact h.tab q hq
 pred q hq := by rw [zO (by omega)]; exact h.pred q hq
 old q hq := by
  by_cases e : q = p
  ·subst e
   rw [zbg]
   exact zcA (by rw [h.size]; omega)
  ·rw [zbn O x e, zO (by omega)]
   exact h.old q hq
 lat q hq := by rw [zO (by omega)]; exact h.lat q hq
theorem zaF.setLat (h : zaF cs R T O La) (hp : p < 24) (x : Nat) : zaF (cs.setIfInBounds (26 + p * 3 + 2) (inN x)) R T O (zcq La p x) where
 size := by simpa using h.size
 list := by rw [zO (by omega)]; exact h.list
 ends := by rw [zO (by omega)]; exact h.ends
 tab q hq := by rw [zO (by omega)]; exact h.tab q hq
 pred q hq := by rw [zO (by omega)]; exact h.pred q hq
 old q hq := by rw [zO (by omega)]; exact h.old q hq
 lat q hq := by
  by_cases e : q = p
  ·subst e
   rw [zbg]
   exact zcA (by rw [h.size]; omega)
  ·rw [zbn La x e, zO (by omega)]
   exact h.lat q hq
end
def RB (R : Nat -> Value) (b : Nat) : Prop := ∃ r, r < 26 /\ (R r).ownBlock = some b
def zbH (w : World) (g : Nat) (R : Nat -> Value) (x : FV) : Prop := zv w w.heap.size x.2 x.1.2 /\ (0 < x.1.2.length -> ∀ b, x.2.ownBlock = some b -> b ≠ g /\ ¬ RB R b)
structure zP (w : World) (g : Nat) (XL : List FV) (E : List Nat) (XP : Nat -> List FV) (O La : Nat -> Nat) (T : List Nat) (R : Nat -> Value) : Prop where
 blk : ∃ cs, Blk w g 59 cs /\ zaF cs R T O La
 tl : T.length = 24
 tb : ∀ x ∈ T, x < 18446744073709551616
 list : w.ownsRow (g + 1) 39 2 (R 0) XL.length (zcN XL)
 ends : w.ownsRow (g + 1) 3 1 (R 1) E.length (E.map inN)
 pred : ∀ p, p < 24 -> w.ownsRow (g + 1) 39 2 (R (2 + p)) (XP p).length (zcN (XP p))
 apart : ∀ r s, r < 26 -> s < 26 -> r ≠ s -> ∀ b, (R r).ownBlock = some b -> (R s).ownBlock ≠ some b
 argsL : ∀ x ∈ XL, zbH w g R x
 argsP : ∀ p, p < 24 -> ∀ x ∈ XP p, zbH w g R x
structure z8 (g : Nat) (w : World) (R : Nat -> Value) (w' : World) (R' : Nat -> Value) : Prop where
 below : Below g w w'
 keep : ∀ k, k < w.heap.size -> k ≠ g -> ¬ RB R k -> w'.heap[k]? = w.heap[k]?
 rows : ∀ b, RB R' b -> RB R b \/ w.heap.size <= b
theorem z8.refl (g : Nat) (w : World) (R : Nat -> Value) : z8 g w R w R := ⟨Below.refl _ _, fun _ _ _ _ => rfl, fun _ h => .inl h⟩
theorem z8.trans {g : Nat} {w w1 w2 : World} {R R1 R2 : Nat -> Value} (h : z8 g w R w1 R1) (k : z8 g w1 R1 w2 R2) : z8 g w R w2 R2 := by
 have hs := h.below.size
 refine ⟨h.below.trans k.below, fun j h1 h2 h3 => (k.keep j (by omega) h2 fun e => ?_).trans (h.keep j h1 h2 h3), fun b hb => ?_⟩
 ·rcases h.rows j e with e2 | e2
  ·exact h3 e2
  ·omega
 ·rcases k.rows b hb with e | e
  ·exact h.rows b e
  ·exact .inr (by omega)
theorem z8.of_below {g : Nat} {w w' : World} {R : Nat -> Value} (h : Below w.heap.size w w') (hg : g <= w.heap.size) : z8 g w R w' R := ⟨h.mono hg, fun k h1 _ _ => h.block k h1, fun _ h => .inl h⟩
theorem z8.setG {g : Nat} {w w' : World} {R R' : Nat -> Value} (h : z8 g w R w' R') (i : Nat) (u : Value) : z8 g w R (w'.setCell ⟨g, i, none⟩ u) R' :=
 ⟨h.below.setCell (Nat.le_refl _) _, fun k h1 h2 h3 => (Below.heap_setCell _ _ _ k h2).trans (h.keep k h1 h2 h3), h.rows⟩
theorem zfp {w w' : World} {B B' : Nat} {v : Value} {xs : List Int} (h : zv w B v xs) (hB : B <= B') (hk : 0 < xs.length -> ∀ b, v.ownBlock = some b -> w'.heap[b]? = w.heap[b]?) : zv w' B' v xs := by
 obtain ⟨A, c, rfl, hc, h⟩ := h
 refine ⟨A, c, rfl, hc, fun h0 => ?_⟩
 obtain ⟨b, o, rfl, hb, hx⟩ := h h0
 refine ⟨b, o, rfl, by omega, fun k hk' => ?_⟩
 rw [World.cell?_of_block (hk h0 b rfl)]
 exact hx k hk'
section
variable {w w' w4 : World} {g r i : Nat} {XL : List FV} {E : List Nat} {XP : Nat -> List FV} {O La : Nat -> Nat} {T : List Nat} {R : Nat -> Value} {v' u : Value}
theorem zP.lt (h : zP w g XL E XP O La T R) : g < w.heap.size := by
 obtain ⟨cs, h1, _⟩ := h.blk
 exact h1.lt
theorem zP.rowLt (h : zP w g XL E XP O La T R) (hr : r < 26) {b : Nat} (hb : (R r).ownBlock = some b) : g < b /\ b < w.heap.size := by
 rcases Nat.lt_or_ge r 2 with h2 | h2
 ·rcases (by omega : r = 0 \/ r = 1) with rfl | rfl
  ·have := h.list.lt b hb; omega
  ·have := h.ends.lt b hb; omega
 ·have h3 := h.pred (r - 2) (by omega)
  rw [show 2 + (r - 2) = r by omega] at h3
  have := h3.lt b hb
  omega
theorem zbH.on {x : FV} (h : zbH w g R x) (hb : Below w.heap.size w w') : zbH w' g R x := ⟨h.1.on hb, h.2⟩
theorem zP.on (h : zP w g XL E XP O La T R) (hb : Below w.heap.size w w') : zP w' g XL E XP O La T R := by
 obtain ⟨cs, h1, h2⟩ := h.blk
 exact ⟨⟨cs, h1.below hb h1.lt, h2⟩, h.tl, h.tb, zw h.list fun b hb' => hb.block b (h.list.lt b hb').2, zw h.ends fun b hb' => hb.block b (h.ends.lt b hb').2,
  fun p hp => zw (h.pred p hp) fun b hb' => hb.block b ((h.pred p hp).lt b hb').2, h.apart, fun x hx => (h.argsL x hx).on hb, fun p hp x hx => (h.argsP p hp x hx).on hb⟩
theorem zP.store {T' : List Nat} {O' La' : Nat -> Nat} (h : zP w g XL E XP O La T R) (hT : T'.length = 24) (hb : ∀ x ∈ T', x < 18446744073709551616) (hc : ∀ cs, zaF cs R T O La -> zaF (cs.setIfInBounds i u) R T' O' La') :
 zP (w.setCell ⟨g, i, none⟩ u) g XL E XP O' La' T' R := by
 have hk : ∀ k, k ≠ g -> (w.setCell ⟨g, i, none⟩ u).heap[k]? = w.heap[k]? := fun k hk => Below.heap_setCell _ _ _ k hk
 have hz : (w.setCell ⟨g, i, none⟩ u).heap.size = w.heap.size := by simp
 have ha : ∀ x, zbH w g R x -> zbH (w.setCell ⟨g, i, none⟩ u) g R x := fun x hx => ⟨zfp hx.1 (by omega) fun h0 b hb => hk b (hx.2 h0 b hb).1, hx.2⟩
 obtain ⟨cs, h1, h2⟩ := h.blk
 exact ⟨⟨_, h1.set_ i u, hc cs h2⟩, hT, hb, zw h.list fun b hb => hk b (by have := (h.list.lt b hb).1; omega), zw h.ends fun b hb => hk b (by have := (h.ends.lt b hb).1; omega),
  fun p hp => zw (h.pred p hp) fun b hb => hk b (by have := ((h.pred p hp).lt b hb).1; omega), h.apart, fun x hx => ha x (h.argsL x hx), fun p hp x hx => ha x (h.argsP p hp x hx)⟩
theorem zP.setTab (h : zP w g XL E XP O La T R) {p n : Nat} (hp : p < 24) (hn : n < 64) : zP (w.setCell ⟨g, 2 + p, none⟩ (wdN (T.getD p 0 ||| 2 ^ n))) g XL E XP O La (za9 T p n) R :=
 h.store (by simp [za9, h.tl]) (zjE h.tb hn) fun cs hc => hc.setTab h.tl hp _
theorem zP.setOld (h : zP w g XL E XP O La T R) {p : Nat} (hp : p < 24) (x : Nat) : zP (w.setCell ⟨g, 26 + p * 3 + 1, none⟩ (inN x)) g XL E XP (zcq O p x) La T R :=
 h.store h.tl h.tb fun cs hc => hc.setOld hp _
theorem zP.setLat (h : zP w g XL E XP O La T R) {p : Nat} (hp : p < 24) (x : Nat) : zP (w.setCell ⟨g, 26 + p * 3 + 2, none⟩ (inN x)) g XL E XP O (zcq La p x) T R :=
 h.store h.tl h.tb fun cs hc => hc.setLat hp _
structure zd1 (w : World) (g : Nat) (R : Nat -> Value) (r i : Nat) (v' : Value) (w4 : World) : Prop where
 grown : w.grownBy w4 (R r).ownBlock
 at_ : ∀ b, v'.ownBlock = some b -> (R r).ownBlock = some b \/ w.heap.size <= b
theorem zd1.heap (k : zd1 w g R r i v' w4) (h : zP w g XL E XP O La T R) (hr : r < 26) {b : Nat} (hb : b < w.heap.size) (hg : b ≠ g) (hn : (R r).ownBlock ≠ some b) : (w4.setCell ⟨g, i, none⟩ u).heap[b]? = w.heap[b]? :=
 (Below.heap_setCell _ _ _ b hg).trans (k.grown.block b hb fun e => hn e.symm)
theorem zd1.rb (_k : zd1 w g R r i v' w4) {b : Nat} (hb : RB (zcq R r v') b) : RB R b \/ v'.ownBlock = some b := by
 obtain ⟨s, hs, e⟩ := hb
 by_cases h : s = r
 ·subst h
  rw [zbg] at e
  exact .inr e
 ·rw [zbn R v' h] at e
  exact .inl ⟨s, hs, e⟩
theorem zd1.keep (k : zd1 w g R r i v' w4) (h : zP w g XL E XP O La T R) (hr : r < 26) : z8 g w R (w4.setCell ⟨g, i, none⟩ u) (zcq R r v') := by
 refine ⟨⟨k.grown.os, k.grown.tape, k.grown.output, by simpa using k.grown.size, fun b hb => ?_⟩, fun b hb hg hn => k.heap h hr hb hg fun e => hn ⟨r, hr, e⟩, fun b hb => ?_⟩
 ·exact k.heap h hr (by have := h.lt; omega) (by omega) fun e => by have := h.rowLt hr e; omega
 ·rcases k.rb hb with e | e
  ·exact .inl e
  ·rcases k.at_ b e with e2 | e2
   ·exact .inl ⟨r, hr, e2⟩
   ·exact .inr e2
theorem zd1.arg (k : zd1 w g R r i v' w4) (h : zP w g XL E XP O La T R) (hr : r < 26) {x : FV} (hx : zbH w g R x) : zbH (w4.setCell ⟨g, i, none⟩ u) g (zcq R r v') x := by
 have hz : w.heap.size <= (w4.setCell ⟨g, i, none⟩ u).heap.size := by simpa using k.grown.size
 have hlt : 0 < x.1.2.length -> ∀ b, x.2.ownBlock = some b -> b < w.heap.size := fun h0 b hb => by
  obtain ⟨A, c, e, _, h1⟩ := hx.1
  obtain ⟨b2, o, rfl, hb2, _⟩ := h1 h0
  rw [e] at hb
  have : b2 = b := by simpa [Value.ownBlock] using hb
  omega
 refine ⟨zfp hx.1 hz fun h0 b hb => k.heap h hr (hlt h0 b hb) (hx.2 h0 b hb).1 fun e => (hx.2 h0 b hb).2 ⟨r, hr, e⟩, fun h0 b hb => ⟨(hx.2 h0 b hb).1, fun hrb => ?_⟩⟩
 rcases k.rb hrb with e | e
 ·exact (hx.2 h0 b hb).2 e
 ·rcases k.at_ b e with e2 | e2
  ·exact (hx.2 h0 b hb).2 ⟨r, hr, e2⟩
  ·have := hlt h0 b hb
   omega
theorem zd1.apart (k : zd1 w g R r i v' w4) (h : zP w g XL E XP O La T R) (hr : r < 26) : ∀ s t, s < 26 -> t < 26 -> s ≠ t -> ∀ b, (zcq R r v' s).ownBlock = some b -> (zcq R r v' t).ownBlock ≠ some b := by
 intro s t hs ht hst b hb e
 by_cases h1 : s = r
 ·subst h1
  rw [zbg] at hb
  rw [zbn R v' (by omega)] at e
  rcases k.at_ b hb with e2 | e2
  ·exact h.apart s t hs ht hst b e2 e
  ·have := (h.rowLt ht e).2
   omega
 ·rw [zbn R v' h1] at hb
  by_cases h2 : t = r
  ·subst h2
   rw [zbg] at e
   rcases k.at_ b e with e2 | e2
   ·exact h.apart s t hs ht hst b hb e2
   ·have := (h.rowLt hs hb).2
    omega
  ·rw [zbn R v' h2] at e
   exact h.apart s t hs ht hst b hb e
theorem zd1.row (k : zd1 w g R r i v' w4) (h : zP w g XL E XP O La T R) (hr : r < 26) {s n size : Nat} {e : TypeId} {xs : List Value} (hs : s < 26) (hsr : s ≠ r) (ho : w.ownsRow (g + 1) e size (R s) n xs) :
 (w4.setCell ⟨g, i, none⟩ u).ownsRow (g + 1) e size (zcq R r v' s) n xs := by
 rw [zbn R v' hsr]
 exact zw ho fun b hb => k.heap h hr (ho.lt b hb).2 (by have := (ho.lt b hb).1; omega) fun e2 => h.apart s r hs hr hsr b hb e2
theorem zd1.new (_k : zd1 w g R r i v' w4) {n size : Nat} {e : TypeId} {xs : List Value} (ho : w4.ownsRow (g + 1) e size v' n xs) : (w4.setCell ⟨g, i, none⟩ u).ownsRow (g + 1) e size (zcq R r v' r) n xs := by
 rw [zbg]
 exact zw ho fun b hb => Below.heap_setCell _ _ _ b (by have := (ho.lt b hb).1; show b ≠ g; omega)
theorem zd1.cells (k : zd1 w g R r i v' w4) (h : zP w g XL E XP O La T R) (hr : r < 26) {T' : List Nat} {O' La' : Nat -> Nat} (hc : ∀ cs, zaF cs R T O La -> zaF (cs.setIfInBounds i u) (zcq R r v') T' O' La') :
 ∃ cs, Blk (w4.setCell ⟨g, i, none⟩ u) g 59 cs /\ zaF cs (zcq R r v') T' O' La' := by
 obtain ⟨cs, h1, h2⟩ := h.blk
 have h3 : Blk w4 g 59 cs := (k.grown.block g h.lt fun e => by have := h.rowLt hr e.symm; omega).trans h1
 exact ⟨_, h3.set_ i u, hc cs h2⟩
theorem zP.growList (h : zP w g XL E XP O La T R) {f : zd} {a : Value} (k : zd1 w g R 0 0 v' w4) (ho : w4.ownsRow (g + 1) 39 2 v' (XL.length + 1) (zcN XL ++ [.int .i64 f.1, a])) (ha : zbH w g R (f, a)) :
 zP (w4.setCell ⟨g, 0, none⟩ v') g (XL ++ [(f, a)]) E XP O La T (zcq R 0 v') /\ z8 g w R (w4.setCell ⟨g, 0, none⟩ v') (zcq R 0 v') := by
 refine ⟨⟨k.cells h (by omega) fun cs hc => hc.setList v', h.tl, h.tb, ?_, k.row h (by omega) (by omega) (by omega) h.ends, fun p hp => k.row h (by omega) (by omega) (by omega) (h.pred p hp), k.apart h (by omega), fun x hx => ?_, fun p hp x hx => k.arg h (by omega) (h.argsP p hp x hx)⟩, k.keep h (by omega)⟩
 ·rw [List.length_append, zgP]
  exact k.new ho
 ·rcases List.mem_append.1 hx with hx | hx
  ·exact k.arg h (by omega) (h.argsL x hx)
  ·rw [List.mem_singleton.1 hx]
   exact k.arg h (by omega) ha
theorem zP.growEnds (h : zP w g XL E XP O La T R) {n : Nat} (k : zd1 w g R 1 1 v' w4) (ho : w4.ownsRow (g + 1) 3 1 v' (E.length + 1) (E.map inN ++ [inN n])) :
 zP (w4.setCell ⟨g, 1, none⟩ v') g XL (E ++ [n]) XP O La T (zcq R 1 v') /\ z8 g w R (w4.setCell ⟨g, 1, none⟩ v') (zcq R 1 v') := by
 refine ⟨⟨k.cells h (by omega) fun cs hc => hc.setEnds v', h.tl, h.tb, k.row h (by omega) (by omega) (by omega) h.list, ?_, fun p hp => k.row h (by omega) (by omega) (by omega) (h.pred p hp), k.apart h (by omega), fun x hx => k.arg h (by omega) (h.argsL x hx), fun p hp x hx => k.arg h (by omega) (h.argsP p hp x hx)⟩, k.keep h (by omega)⟩
 rw [List.length_append, List.map_append]
 exact k.new ho
theorem zP.growPred (h : zP w g XL E XP O La T R) {f : zd} {a : Value} {p : Nat} (hp : p < 24) (k : zd1 w g R (2 + p) (26 + p * 3) v' w4) (ho : w4.ownsRow (g + 1) 39 2 v' ((XP p).length + 1) (zcN (XP p) ++ [.int .i64 f.1, a])) (ha : zbH w g R (f, a)) :
 zP (w4.setCell ⟨g, 26 + p * 3, none⟩ v') g XL E (zcq XP p (XP p ++ [(f, a)])) O La T (zcq R (2 + p) v') /\ z8 g w R (w4.setCell ⟨g, 26 + p * 3, none⟩ v') (zcq R (2 + p) v') := by
 refine ⟨⟨k.cells h (by omega) fun cs hc => hc.setPred hp v', h.tl, h.tb, k.row h (by omega) (by omega) (by omega) h.list, k.row h (by omega) (by omega) (by omega) h.ends, fun q hq => ?_, k.apart h (by omega), fun x hx => k.arg h (by omega) (h.argsL x hx), fun q hq x hx => ?_⟩, k.keep h (by omega)⟩
 ·by_cases e : q = p
  ·subst e
   rw [zbg XP, List.length_append, zgP]
   exact k.new ho
  ·rw [zbn XP _ e]
   exact k.row h (by omega) (by omega) (by omega) (h.pred q hq)
 ·by_cases e : q = p
  ·subst e
   rw [zbg] at hx
   rcases List.mem_append.1 hx with hx | hx
   ·exact k.arg h (by omega) (h.argsP q hq x hx)
   ·rw [List.mem_singleton.1 hx]
    exact k.arg h (by omega) ha
  ·rw [zbn XP _ e] at hx
   exact k.arg h (by omega) (h.argsP q hq x hx)
end
open Go.RowKit
theorem zP.drew {w : World} {g : Nat} {XL : List FV} {E : List Nat} {XP : Nat -> List FV} {O La : Nat -> Nat} {T : List Nat} {R : Nat -> Value} (h : zP w g XL E XP O La T R) : zP w.drew g XL E XP O La T R := h.on (Below.refl _ _).drew
theorem z8.drew {g : Nat} {w w' : World} {R R' : Nat -> Value} (h : z8 g w R w' R') : z8 g w R w'.drew R' := ⟨h.below.drew, h.keep, h.rows⟩
section
variable {w : World} {g p : Nat} {XL : List FV} {E : List Nat} {XP : Nat -> List FV} {O La : Nat -> Nat} {T : List Nat} {R : Nat -> Value}
theorem zP.cellTab (h : zP w g XL E XP O La T R) (hp : p < 24) : w.cell? ⟨g, 2 + p, none⟩ = some (wdN (T.getD p 0)) := by
 obtain ⟨cs, h1, h2⟩ := h.blk
 rw [h1.cell]
 exact h2.tab p hp
theorem zP.cellList (h : zP w g XL E XP O La T R) : w.cell? ⟨g, 0, none⟩ = some (R 0) := by
 obtain ⟨cs, h1, h2⟩ := h.blk
 rw [h1.cell]
 exact h2.list
theorem zP.cellEnds (h : zP w g XL E XP O La T R) : w.cell? ⟨g, 1, none⟩ = some (R 1) := by
 obtain ⟨cs, h1, h2⟩ := h.blk
 rw [h1.cell]
 exact h2.ends
theorem zP.cellPred (h : zP w g XL E XP O La T R) (hp : p < 24) : w.cell? ⟨g, 26 + p * 3, none⟩ = some (R (2 + p)) := by
 obtain ⟨cs, h1, h2⟩ := h.blk
 rw [h1.cell]
 exact h2.pred p hp
theorem zP.cellOld (h : zP w g XL E XP O La T R) (hp : p < 24) : w.cell? ⟨g, 26 + p * 3 + 1, none⟩ = some (inN (O p)) := by
 obtain ⟨cs, h1, h2⟩ := h.blk
 rw [h1.cell]
 exact h2.old p hp
theorem zP.cellLat (h : zP w g XL E XP O La T R) (hp : p < 24) : w.cell? ⟨g, 26 + p * 3 + 2, none⟩ = some (inN (La p)) := by
 obtain ⟨cs, h1, h2⟩ := h.blk
 rw [h1.cell]
 exact h2.lat p hp
theorem zP.free (h : zP w g XL E XP O La T R) (i : Nat) : w.frozen? ⟨g, i, none⟩ = false := by
 obtain ⟨cs, h1, h2⟩ := h.blk
 exact h1.frozen i
theorem zP.word (h : zP w g XL E XP O La T R) : T.getD p 0 < 18446744073709551616 := zoA h.tb
end
set_option maxHeartbeats 1000000 in
theorem zoi (g p n x : Nat) (w : World) (hg : g < w.heap.size) (hc : w.cell? ⟨g, 2 + p, none⟩ = some (wdN x)) (hx : x < 18446744073709551616) (hp : p < 24) (hn : n < 64) :
 Calls Tryz.prog 113 #[.pointer (some ⟨g, 2, none⟩), .int .i64 p, .int .i64 n] w fun e w' =>
  e = .returned (.bool (x.testBit n)) /\ w = w' := by
 unfold wdN at hc
 have HL := Lib.hid hg
 have hpi : (p : Int) < 24 := by omega
 have hpn : (0 : Int) <= (p : Int) := by omega
 have hni : ¬ (n : Int) < 0 := by omega
 go_enter Tryz.func113, Tryz.ntmps113
 go_wp2_with fail
 go_ret
 exact ⟨zi (zj0 x n hx), rfl⟩
set_option maxHeartbeats 1000000 in
theorem zlL (g p n : Nat) (XL : List FV) (E : List Nat) (XP : Nat -> List FV) (O La : Nat -> Nat) (T : List Nat) (R : Nat -> Value) (w : World) (h : zP w g XL E XP O La T R) (hp : p < 24) (hn : n < 64) :
 Calls Tryz.prog 76 #[.pointer (some ⟨g, 2, none⟩), .int .i64 p, .int .i64 n] w fun e w' =>
  e = .returned (.bool (!(T.getD p 0).testBit n)) /\ zP w' g XL E XP O La (za9 T p n) R /\ z8 g w R w' R := by
 have CH := Lib.hid (zoi g p n _ w h.lt (h.cellTab hp) (h.word (p := p)) hp hn)
 have hc := h.cellTab hp
 have hf := h.free (2 + p)
 have H := Lib.hid h
 have hlt := h.word (p := p)
 have hgl := h.lt
 clear h
 unfold wdN at hc
 obtain ⟨x, hx⟩ : ∃ x, x = T.getD p 0 := ⟨_, rfl⟩
 obtain ⟨m, hm⟩ : ∃ m, m = 2 ^ n := ⟨_, rfl⟩
 have hml : m < 18446744073709551616 := by rw [hm]; exact Nat.pow_lt_pow_right (by decide) hn
 have hwr : IntKind.u64.wrap (2 ^ n) = (m : Int) := by
  have e : ((2 : Int) ^ n) = ((m : Nat) : Int) := by rw [hm]; simp
  rw [e]
  unfold IntKind.wrap
  simp [IntKind.bits, IntKind.signed] <;> omega
 rw [<- hx] at hc hlt ⊢
 have hor : bits .or .u64 (x : Int) (m : Int) = ((x ||| m : Nat) : Int) := u64_or_nat x m hlt hml
 rw [<- hx] at CH
 have HM := Lib.hid (And.intro hx hm)
 clear hx hm hml hlt
 go_enter Tryz.func76, Tryz.ntmps76
 go_upto_region 2 with (go_at_call 113; refine CH.out.mono ?_; rintro e w5 ⟨rfl, rfl⟩)
 have hc2 : w.drew.cell? ⟨g, 2 + p, none⟩ = some (.int .u64 ((x : Nat) : Int)) := hc
 have hpi : (p : Int) < 24 := by omega
 have hf2 : w.drew.frozen? ⟨g, 2 + p, none⟩ = false := hf
 go_region_law (fail)
 go_wp2_with fail
 go_ret
 obtain ⟨rfl, rfl⟩ := HM.out
 have hset := H.out.setTab hp hn
 unfold wdN at hset
 exact ⟨rfl, hset.drew, ((z8.refl g w R).setG _ _).drew⟩
open Go.RowKit
theorem zP.formL {w : World} {g : Nat} {XL : List FV} {E : List Nat} {XP : Nat -> List FV} {O La : Nat -> Nat} {T : List Nat} {R : Nat -> Value} (h : zP w g XL E XP O La T R) : ∃ A c, R 0 = .slice A XL.length c := by
 rcases h.list.2 with ⟨e, h0⟩ | ⟨g, cap, _, e, _⟩
 ·exact ⟨none, 0, by rw [e, h0]⟩
 ·exact ⟨_, _, e⟩
theorem zP.formP {w : World} {g p : Nat} {XL : List FV} {E : List Nat} {XP : Nat -> List FV} {O La : Nat -> Nat} {T : List Nat} {R : Nat -> Value} (h : zP w g XL E XP O La T R) (hp : p < 24) : ∃ A c, R (2 + p) = .slice A (XP p).length c := by
 rcases (h.pred p hp).2 with ⟨e, h0⟩ | ⟨g, cap, _, e, _⟩
 ·exact ⟨none, 0, by rw [e, h0]⟩
 ·exact ⟨_, _, e⟩
theorem zP.formE {w : World} {g : Nat} {XL : List FV} {E : List Nat} {XP : Nat -> List FV} {O La : Nat -> Nat} {T : List Nat} {R : Nat -> Value} (h : zP w g XL E XP O La T R) : ∃ A c, R 1 = .slice A E.length c := by
 rcases h.ends.2 with ⟨e, h0⟩ | ⟨g, cap, _, e, _⟩
 ·exact ⟨none, 0, by rw [e, h0]⟩
 ·exact ⟨_, _, e⟩
theorem zbH.keep {w w' : World} {g : Nat} {R R' : Nat -> Value} {x : FV} (h : zbH w g R x) (k : z8 g w R w' R') : zbH w' g R' x := by
 have hs := k.below.size
 have hlt : 0 < x.1.2.length -> ∀ b, x.2.ownBlock = some b -> b < w.heap.size := fun h0 b hb => by
  obtain ⟨A, c, e, _, h1⟩ := h.1
  obtain ⟨b2, o, rfl, hb2, _⟩ := h1 h0
  rw [e] at hb
  have : b2 = b := by simpa [Value.ownBlock] using hb
  omega
 refine ⟨zfp h.1 hs fun h0 b hb => k.keep b (hlt h0 b hb) (h.2 h0 b hb).1 (h.2 h0 b hb).2, fun h0 b hb => ⟨(h.2 h0 b hb).1, fun e => ?_⟩⟩
 rcases k.rows b e with e2 | e2
 ·exact (h.2 h0 b hb).2 e2
 ·have := hlt h0 b hb
  omega
set_option maxHeartbeats 4000000 in
theorem zkP (g p : Nat) (xs : List Int) (A3 : Option Addr) (c3 : Nat) (XL : List FV) (E : List Nat) (XP : Nat -> List FV) (O La : Nat -> Nat) (T : List Nat) (R : Nat -> Value) (w : World) (h : zP w g XL E XP O La T R) (hp : p < 24)
 (ha : zbH w g R (((p : Int), xs), .slice A3 xs.length c3)) (hn : XL.length <= 1048576) (hn2 : (XP p).length <= 1048576) :
 Calls Tryz.prog 100 #[.pointer (some ⟨g, 0, none⟩), .agg #[.int .i64 p, .slice A3 xs.length c3]] w fun e w' =>
  e = .returned (.tuple #[]) /\ ∃ R', zP w' g (XL ++ [(((p : Int), xs), .slice A3 xs.length c3)]) E (zcq XP p (XP p ++ [(((p : Int), xs), .slice A3 xs.length c3)])) O La T R' /\ z8 g w R w' R' := by
 obtain ⟨i0, hi0, hz0, hz1, hz2⟩ := info_parts Tryz.infoFact
 have H := Lib.hid h
 have HA := Lib.hid ha
 have hgl := h.lt
 have hpi : (p : Int) < 24 := by omega
 clear h ha
 go_enter Tryz.func100, Tryz.ntmps100
 go_upto_region 1 with fail
 obtain ⟨w1, hw1⟩ : ∃ w1, w1 = w.alloc (Obj.cells #[Value.int IntKind.i64 (p : Int), Value.slice A3 xs.length c3] 39) := ⟨_, rfl⟩
 have B1 : Below w.heap.size w w1 := by rw [hw1]; exact ze _ _
 have X1 : Blk w1 w.heap.size 39 #[.int .i64 p, .slice A3 xs.length c3] := by rw [hw1]; exact Blk.new _ _ _
 have hs1 : w.heap.size < w1.heap.size := by rw [hw1]; simp
 have hbx : ∃ bx, bx = w.heap.size := ⟨_, rfl⟩
 obtain ⟨bx, hbx⟩ := hbx
 rw [<- hbx] at X1 hs1 ⊢
 rw [<- hw1]
 clear hw1
 refine zB (fun W => W.cell? ⟨g, 0, none⟩ = some (R 0) /\ W.cell? ⟨bx, 0, none⟩ = some (.int .i64 p) /\ W.cell? ⟨bx, 1, none⟩ = some (.slice A3 xs.length c3)) 10 11 (by kernel_rfl) rfl ?_
 obtain ⟨wy, hwy⟩ : ∃ wy, wy = w1.drew := ⟨_, rfl⟩
 have HG := Lib.hid (show zP wy g XL E XP O La T R by rw [hwy]; exact (H.out.on B1).drew)
 have BY := Lib.hid (show Below w.heap.size w wy by rw [hwy]; exact B1.drew)
 have HX := Lib.hid (show Blk wy bx 39 #[.int .i64 p, .slice A3 xs.length c3] by rw [hwy]; exact X1)
 have hsy : bx < wy.heap.size := by rw [hwy]; exact hs1
 rw [<- hwy]
 clear hwy X1 B1 hs1
 obtain ⟨A0, c0, hv0⟩ := HG.out.formL
 obtain ⟨SS, hSS⟩ : ∃ SS : World -> Prop, SS = (fun W => W.cell? ⟨g, 0, none⟩ = some (R 0) /\ W.cell? ⟨bx, 0, none⟩ = some (.int .i64 p) /\ W.cell? ⟨bx, 1, none⟩ = some (.slice A3 xs.length c3)) := ⟨_, rfl⟩
 rw [<- hSS]
 have HB := Lib.hid (show ∀ W, SS W -> (W.cell? ⟨g, 0, none⟩ = some (.slice A0 XL.length c0) /\ W.cell? ⟨bx, 0, none⟩ = some (.int .i64 p) /\ W.cell? ⟨bx, 1, none⟩ = some (.slice A3 xs.length c3)) from by rw [hSS, hv0]; exact fun W hW => hW)
 have HS := Lib.hid (show ∀ W : World, (∀ b, b < wy.heap.size -> (R 0).ownBlock ≠ some b -> W.heap[b]? = wy.heap[b]?) -> SS W from by
  rw [hSS]
  intro W hW
  have hg0 : W.heap[g]? = wy.heap[g]? := hW g HG.out.lt fun e => by have := HG.out.rowLt (show 0 < 26 by omega) e; omega
  have hb0 : W.heap[bx]? = wy.heap[bx]? := hW bx hsy fun e => by have := H.out.rowLt (show 0 < 26 by omega) e; omega
  exact ⟨(World.cell?_of_block hg0).trans HG.out.cellList, (World.cell?_of_block hb0).trans (HX.out.cell 0), (World.cell?_of_block hb0).trans (HX.out.cell 1)⟩)
 have HFR := Lib.hid (show ∀ W : World, (∀ b, b < wy.heap.size -> (R 0).ownBlock ≠ some b -> W.heap[b]? = wy.heap[b]?) -> W.frozen? ⟨g, 0, none⟩ = false from fun W hW => by
  have hg0 : W.heap[g]? = wy.heap[g]? := hW g HG.out.lt fun e => by have := HG.out.rowLt (show 0 < 26 by omega) e; omega
  exact (World.frozen?_of_block hg0).trans (HG.out.free 0))
 have SB : SS wy := HS.out wy fun _ _ _ => rfl
 have HV0 := Lib.hid hv0
 have HBX := Lib.hid hbx
 clear hSS hv0 hbx
 refine za (i := 0) (oi := _) ?va0 rfl rfl (by kernel_rfl) (by decide) (fun _ _ _ h => h) rfl ?hya0 (fun _ => SB) ?resta0
 case hya0 => (intro W; go_simp; (try with_reducible rfl))
 try simp only [zs.a, zs.b, zs.c]
 refine za (i := 1) (oi := _) ?va1 rfl rfl (by kernel_rfl) (by decide) (fun _ _ _ h => h) rfl ?hya1 (fun _ => SB) ?resta1
 case hya1 => (intro W; go_simp; (try with_reducible rfl))
 try simp only [zs.a, zs.b, zs.c]
 refine za (i := 2) (oi := _) ?va2 rfl rfl (by kernel_rfl) (by decide) (fun _ _ _ h => h) rfl ?hya2 (fun _ => SB) ?resta2
 case hya2 => (intro W; go_simp; (try with_reducible rfl))
 try simp only [zs.a, zs.b, zs.c]
 refine za (i := 3) (oi := _) ?va3 rfl rfl (by kernel_rfl) (by decide) (fun _ _ _ h => h) rfl ?hya3 (fun _ => SB) ?resta3
 case hya3 => (intro W; go_simp; (try with_reducible rfl))
 try simp only [zs.a, zs.b, zs.c]
 refine zm (i := 4) (oi := _) ?va4 rfl rfl (by kernel_rfl) (fun _ _ _ h => h) rfl ?hya4 SB ?resta4
 case hya4 => (intro W hW; obtain ⟨E0, E1, E2⟩ := HB.out W hW; go_simp; (try with_reducible rfl))
 try simp only [zs.a, zs.b, zs.c]
 refine zm (i := 5) (oi := _) ?va5 rfl rfl (by kernel_rfl) (fun _ _ _ h => h) rfl ?hya5 SB ?resta5
 case hya5 => (intro W hW; obtain ⟨E0, E1, E2⟩ := HB.out W hW; go_simp; (try with_reducible rfl))
 try simp only [zs.a, zs.b, zs.c]
 refine zh (i := 6) (by kernel_rfl) rfl (fun K hK => ?_)
 try rw [if_pos (show Region.wanted _ _ = true from rfl)]
 go_simp
 have S6 : SS _ := HS.out (wy.alloc (Obj.cells #[Value.int IntKind.i64 (p : Int), Value.slice A3 xs.length c3] 39)) fun b hb _ => Below.heap_alloc _ _ _ hb
 refine hK.out _ _ (fun _ => S6) ?_
 clear hK K
 try simp only [zs.a, zs.b, zs.c, Act.put]
 refine zh (i := 7) (by kernel_rfl) rfl (fun K hK => ?_)
 refine step_append_lies _ rfl (.tmp 8) (.tmp 10) 27 rfl (g + 1) 39 i0 (.agg #[.int .i64 0, .slice none 0 0]) 2 32 Tryz.underlying27 hi0 hz0 hz1 hz2 rfl (by decide) (.slice A0 XL.length c0) XL.length (zcN XL) rfl ?c1 ⟨wy.heap.size, 0, none⟩ 1 1 [.int .i64 p, .slice A3 xs.length c3] rfl rfl ?c4 ?c2 (by omega) (by unfold maxLen; omega) (by omega) ?c3 _ rfl ?c5
 case c1 => exact (HV0.out ▸ HG.out.list).alloc _
 case c4 => exact zmS _ _ _ _
 case c2 => intro u hu; simp at hu; rcases hu with rfl | rfl <;> rfl
 case c3 => have := HG.out.lt; simp; omega
 case c5 =>
 intro g2 cap w5 hown hgr hat _
 have HGW := Lib.hid (show zd1 wy g R 0 0 (.slice (some ⟨g2, 0, none⟩) (XL.length + 1) cap) w5 from by
  have hgr' := zy hgr
  refine ⟨by rw [HV0.out]; exact hgr', fun b hb => ?_⟩
  have e : g2 = b := by simpa [Value.ownBlock] using hb
  subst e
  rw [HV0.out]
  rcases hat with hat | hat
  ·exact .inl hat
  ·exact .inr (by rw [hat]; simp))
 have HOW := Lib.hid hown
 have S5 : SS w5 := HS.out w5 fun b hb hne => HGW.out.grown.block b hb fun e => hne e.symm
 have f5 : w5.frozen? ⟨g, 0, none⟩ = false := HFR.out w5 fun b hb hne => HGW.out.grown.block b hb fun e => hne e.symm
 have c5 : w5.cell? ⟨g, 0, none⟩ = some (.slice A0 XL.length c0) := (HB.out w5 S5).1
 clear hown hgr hat
 refine hK.out _ _ (fun _ => S5) ?_
 clear hK K
 try simp only [zs.a, zs.b, zs.c, Act.put]
 refine za (i := 8) (oi := _) ?va8 rfl rfl (by kernel_rfl) (by decide) (fun _ _ _ h => h) rfl ?hya8 (fun _ => S5) ?resta8
 case hya8 => (intro W; go_simp; (try with_reducible rfl))
 try simp only [zs.a, zs.b, zs.c]
 refine za (i := 9) (oi := _) ?va9 rfl rfl (by kernel_rfl) (by decide) (fun _ _ _ h => h) rfl ?hya9 (fun _ => S5) ?resta9
 case hya9 => (intro W; go_simp; (try with_reducible rfl))
 try simp only [zs.a, zs.b, zs.c]
 refine zh (i := 10) (by kernel_rfl) rfl (fun K hK => ?_)
 go_simp
 refine hK.out _ _ (fun hf => absurd hf (by decide)) ?_
 clear hK K
 refine zL (by kernel_rfl) ?_
 obtain ⟨R1, hR1⟩ : ∃ R1, R1 = zcq R 0 (.slice (some ⟨g2, 0, none⟩) (XL.length + 1) cap) := ⟨_, rfl⟩
 obtain ⟨w6, hw6⟩ : ∃ w6, w6 = w5.setCell ⟨g, 0, none⟩ (.slice (some ⟨g2, 0, none⟩) (XL.length + 1) cap) := ⟨_, rfl⟩
 have HAY := Lib.hid (HA.out.on BY.out)
 have H6 := Lib.hid (show zP w6 g (XL ++ [(((p : Int), xs), .slice A3 xs.length c3)]) E XP O La T R1 /\ z8 g wy R w6 R1 from by
  rw [hw6, hR1]
  exact HG.out.growList HGW.out HOW.out HAY.out)
 have HA6 := Lib.hid (show zbH w6 g R1 (((p : Int), xs), .slice A3 xs.length c3) from HAY.out.keep H6.out.2)
 have X6 := Lib.hid (show Blk w6 bx 39 #[.int .i64 p, .slice A3 xs.length c3] /\ bx < w6.heap.size /\ bx ≠ g /\ ¬ RB R1 bx from by
  have hne : bx ≠ g := by have := HBX.out; omega
  have hnr : ¬ RB R bx := fun ⟨r, hr, e⟩ => by have := H.out.rowLt hr e; have := HBX.out; omega
  refine ⟨(H6.out.2.keep bx hsy hne hnr).trans HX.out, by have := H6.out.2.below.size; omega, hne, fun e => ?_⟩
  rcases H6.out.2.rows bx e with e2 | e2
  ·exact hnr e2
  ·omega)
 rw [<- hw6]
 clear hw6 hR1 S5 f5 c5 SB S6
 have q0 : w6.cell? ⟨bx, 0, none⟩ = some (.int .i64 p) := X6.out.1.cell 0
 have q1 : w6.cell? ⟨bx, 1, none⟩ = some (.slice A3 xs.length c3) := X6.out.1.cell 1
 clear q0 q1
 go_upto_region 2 with fail
 refine zB (fun W => W.cell? ⟨g, 26 + p * 3, none⟩ = some (R1 (2 + p)) /\ W.cell? ⟨bx, 0, none⟩ = some (.int .i64 p) /\ W.cell? ⟨bx, 1, none⟩ = some (.slice A3 xs.length c3)) 18 19 (by kernel_rfl) rfl ?_
 obtain ⟨wz, hwz⟩ : ∃ wz, wz = w6.drew := ⟨_, rfl⟩
 have HG2 := Lib.hid (show zP wz g (XL ++ [(((p : Int), xs), .slice A3 xs.length c3)]) E XP O La T R1 by rw [hwz]; exact H6.out.1.drew)
 have HK2 := Lib.hid (show z8 g w R wz R1 by rw [hwz]; exact ((z8.of_below BY.out (Nat.le_of_lt hgl)).trans H6.out.2).drew)
 have HX2 := Lib.hid (show Blk wz bx 39 #[.int .i64 p, .slice A3 xs.length c3] /\ bx < wz.heap.size /\ bx ≠ g /\ ¬ RB R1 bx by rw [hwz]; exact X6.out)
 have HA2 := Lib.hid (show zbH wz g R1 (((p : Int), xs), .slice A3 xs.length c3) by rw [hwz]; exact HA6.out.on (Below.refl _ _).drew)
 rw [<- hwz]
 clear hwz
 obtain ⟨A1, c1, hv1⟩ := HG2.out.formP hp
 obtain ⟨S2, hS2⟩ : ∃ S2 : World -> Prop, S2 = (fun W => W.cell? ⟨g, 26 + p * 3, none⟩ = some (R1 (2 + p)) /\ W.cell? ⟨bx, 0, none⟩ = some (.int .i64 p) /\ W.cell? ⟨bx, 1, none⟩ = some (.slice A3 xs.length c3)) := ⟨_, rfl⟩
 rw [<- hS2]
 clear HB
 have HB := Lib.hid (show ∀ W, S2 W -> (W.cell? ⟨g, 26 + p * 3, none⟩ = some (.slice A1 (XP p).length c1) /\ W.cell? ⟨bx, 0, none⟩ = some (.int .i64 p) /\ W.cell? ⟨bx, 1, none⟩ = some (.slice A3 xs.length c3)) from by rw [hS2, hv1]; exact fun W hW => hW)
 have HS2 := Lib.hid (show ∀ W : World, (∀ b, b < wz.heap.size -> (R1 (2 + p)).ownBlock ≠ some b -> W.heap[b]? = wz.heap[b]?) -> S2 W from by
  rw [hS2]
  intro W hW
  have hg0 : W.heap[g]? = wz.heap[g]? := hW g HG2.out.lt fun e => by have := HG2.out.rowLt (show 2 + p < 26 by omega) e; omega
  have hb0 : W.heap[bx]? = wz.heap[bx]? := hW bx HX2.out.2.1 fun e => HX2.out.2.2.2 ⟨2 + p, by omega, e⟩
  exact ⟨(World.cell?_of_block hg0).trans (HG2.out.cellPred hp), (World.cell?_of_block hb0).trans (HX2.out.1.cell 0), (World.cell?_of_block hb0).trans (HX2.out.1.cell 1)⟩)
 have HFR2 := Lib.hid (show ∀ W : World, (∀ b, b < wz.heap.size -> (R1 (2 + p)).ownBlock ≠ some b -> W.heap[b]? = wz.heap[b]?) -> W.frozen? ⟨g, 26 + p * 3, none⟩ = false from fun W hW => by
  have hg0 : W.heap[g]? = wz.heap[g]? := hW g HG2.out.lt fun e => by have := HG2.out.rowLt (show 2 + p < 26 by omega) e; omega
  exact (World.frozen?_of_block hg0).trans (HG2.out.free _))
 have SB : S2 wz := HS2.out wz fun _ _ _ => rfl
 have HV1 := Lib.hid hv1
 clear hS2 hv1
 refine za (i := 0) (oi := _) ?vb0 rfl rfl (by kernel_rfl) (by decide) (fun _ _ _ h => h) rfl ?hyb0 (fun _ => SB) ?restb0
 case hyb0 => (intro W; go_simp; (try with_reducible rfl))
 try simp only [zs.a, zs.b, zs.c]
 refine za (i := 1) (oi := _) ?vb1 rfl rfl (by kernel_rfl) (by decide) (fun _ _ _ h => h) rfl ?hyb1 (fun _ => SB) ?restb1
 case hyb1 => (intro W; go_simp; (try with_reducible rfl))
 try simp only [zs.a, zs.b, zs.c]
 refine zm (i := 2) (oi := _) ?vb2 rfl rfl (by kernel_rfl) (fun _ _ _ h => h) rfl ?hyb2 SB ?restb2
 case hyb2 => (intro W hW; obtain ⟨E0, E1, E2⟩ := HB.out W hW; go_simp; (try with_reducible rfl))
 try simp only [zs.a, zs.b, zs.c]
 refine za (i := 3) (oi := _) ?vb3 rfl rfl (by kernel_rfl) (by decide) (fun _ _ _ h => h) rfl ?hyb3 (fun _ => SB) ?restb3
 case hyb3 => (intro W; go_simp; (try with_reducible rfl))
 try simp only [zs.a, zs.b, zs.c]
 refine za (i := 4) (oi := _) ?vb4 rfl rfl (by kernel_rfl) (by decide) (fun _ _ _ h => h) rfl ?hyb4 (fun _ => SB) ?restb4
 case hyb4 => (intro W; go_simp; (try with_reducible rfl))
 try simp only [zs.a, zs.b, zs.c]
 refine zm (i := 5) (oi := _) ?vb5 rfl rfl (by kernel_rfl) (fun _ _ _ h => h) rfl ?hyb5 SB ?restb5
 case hyb5 => (intro W hW; obtain ⟨E0, E1, E2⟩ := HB.out W hW; go_simp; (try with_reducible rfl))
 try simp only [zs.a, zs.b, zs.c]
 refine za (i := 6) (oi := _) ?vb6 rfl rfl (by kernel_rfl) (by decide) (fun _ _ _ h => h) rfl ?hyb6 (fun _ => SB) ?restb6
 case hyb6 => (intro W; go_simp; (try with_reducible rfl))
 try simp only [zs.a, zs.b, zs.c]
 refine za (i := 7) (oi := _) ?vb7 rfl rfl (by kernel_rfl) (by decide) (fun _ _ _ h => h) rfl ?hyb7 (fun _ => SB) ?restb7
 case hyb7 => (intro W; go_simp; (try with_reducible rfl))
 try simp only [zs.a, zs.b, zs.c]
 refine za (i := 8) (oi := _) ?vb8 rfl rfl (by kernel_rfl) (by decide) (fun _ _ _ h => h) rfl ?hyb8 (fun _ => SB) ?restb8
 case hyb8 => (intro W; go_simp; (try with_reducible rfl))
 try simp only [zs.a, zs.b, zs.c]
 refine za (i := 9) (oi := _) ?vb9 rfl rfl (by kernel_rfl) (by decide) (fun _ _ _ h => h) rfl ?hyb9 (fun _ => SB) ?restb9
 case hyb9 => (intro W; go_simp; (try with_reducible rfl))
 try simp only [zs.a, zs.b, zs.c]
 refine za (i := 14) (oi := _) ?vb14 rfl rfl (by kernel_rfl) (by decide) (fun _ _ _ h => h) rfl ?hyb14 (fun _ => SB) ?restb14
 case hyb14 => (intro W; go_simp; (try with_reducible rfl))
 try simp only [zs.a, zs.b, zs.c]
 refine za (i := 15) (oi := _) ?vb15 rfl rfl (by kernel_rfl) (by decide) (fun _ _ _ h => h) rfl ?hyb15 (fun _ => SB) ?restb15
 case hyb15 => (intro W; go_simp; (try with_reducible rfl))
 try simp only [zs.a, zs.b, zs.c]
 refine zm (i := 10) (oi := _) ?vb10 rfl rfl (by kernel_rfl) (fun _ _ _ h => h) rfl ?hyb10 SB ?restb10
 case hyb10 => (intro W hW; obtain ⟨E0, E1, E2⟩ := HB.out W hW; go_simp; (try with_reducible rfl))
 try simp only [zs.a, zs.b, zs.c]
 refine zm (i := 11) (oi := _) ?vb11 rfl rfl (by kernel_rfl) (fun _ _ _ h => h) rfl ?hyb11 SB ?restb11
 case hyb11 => (intro W hW; obtain ⟨E0, E1, E2⟩ := HB.out W hW; go_simp; (try with_reducible rfl))
 try simp only [zs.a, zs.b, zs.c]
 refine zh (i := 12) (by kernel_rfl) rfl (fun K hK => ?_)
 try rw [if_pos (show Region.wanted _ _ = true from rfl)]
 go_simp
 have S6 : S2 _ := HS2.out (wz.alloc (Obj.cells #[Value.int IntKind.i64 (p : Int), Value.slice A3 xs.length c3] 39)) fun b hb _ => Below.heap_alloc _ _ _ hb
 refine hK.out _ _ (fun _ => S6) ?_
 clear hK K
 try simp only [zs.a, zs.b, zs.c, Act.put]
 refine zh (i := 13) (by kernel_rfl) rfl (fun K hK => ?_)
 refine step_append_lies _ rfl (.tmp 24) (.tmp 26) 27 rfl (g + 1) 39 i0 (.agg #[.int .i64 0, .slice none 0 0]) 2 32 Tryz.underlying27 hi0 hz0 hz1 hz2 rfl (by decide) (.slice A1 (XP p).length c1) (XP p).length (zcN (XP p)) rfl ?d1 ⟨wz.heap.size, 0, none⟩ 1 1 [.int .i64 p, .slice A3 xs.length c3] rfl rfl ?d4 ?d2 (by omega) (by unfold maxLen; omega) (by omega) ?d3 _ rfl ?d5
 case d1 => exact (HV1.out ▸ HG2.out.pred p hp).alloc _
 case d4 => exact zmS _ _ _ _
 case d2 => intro u hu; simp at hu; rcases hu with rfl | rfl <;> rfl
 case d3 => have := HG2.out.lt; simp; omega
 case d5 =>
 intro g3 cap3 w7 hown hgr hat _
 have HGW2 := Lib.hid (show zd1 wz g R1 (2 + p) (26 + p * 3) (.slice (some ⟨g3, 0, none⟩) ((XP p).length + 1) cap3) w7 from by
  have hgr' := zy hgr
  refine ⟨by rw [HV1.out]; exact hgr', fun b hb => ?_⟩
  have e : g3 = b := by simpa [Value.ownBlock] using hb
  subst e
  rw [HV1.out]
  rcases hat with hat | hat
  ·exact .inl hat
  ·exact .inr (by rw [hat]; simp))
 have HOW2 := Lib.hid hown
 have S7 : S2 w7 := HS2.out w7 fun b hb hne => HGW2.out.grown.block b hb fun e => hne e.symm
 have f7 : w7.frozen? ⟨g, 26 + p * 3, none⟩ = false := HFR2.out w7 fun b hb hne => HGW2.out.grown.block b hb fun e => hne e.symm
 have c7 : w7.cell? ⟨g, 26 + p * 3, none⟩ = some (.slice A1 (XP p).length c1) := (HB.out w7 S7).1
 clear hown hgr hat
 refine hK.out _ _ (fun _ => S7) ?_
 clear hK K
 try simp only [zs.a, zs.b, zs.c, Act.put]
 refine za (i := 16) (oi := _) ?vb16 rfl rfl (by kernel_rfl) (by decide) (fun _ _ _ h => h) rfl ?hyb16 (fun _ => S7) ?restb16
 case hyb16 => (intro W; go_simp; (try with_reducible rfl))
 try simp only [zs.a, zs.b, zs.c]
 refine za (i := 17) (oi := _) ?vb17 rfl rfl (by kernel_rfl) (by decide) (fun _ _ _ h => h) rfl ?hyb17 (fun _ => S7) ?restb17
 case hyb17 => (intro W; go_simp; (try with_reducible rfl))
 try simp only [zs.a, zs.b, zs.c]
 refine zh (i := 18) (by kernel_rfl) rfl (fun K hK => ?_)
 go_simp
 refine hK.out _ _ (fun hf => absurd hf (by decide)) ?_
 clear hK K
 refine zL (by kernel_rfl) ?_
 have HFIN := Lib.hid (HG2.out.growPred hp HGW2.out HOW2.out HA2.out)
 clear f7 c7 S7 SB S6
 go_wp2_with fail
 go_end0
 exact ⟨rfl, _, HFIN.out.1, HK2.out.trans HFIN.out.2⟩
open Go.RowKit
def zj (X : List FV) : List zd := X.map (·.1)
def ofX (X : List FV) (p : Nat) : List FV := X.filter fun x => decide (x.1.1 = (p : Int))
theorem zae (X : List FV) : (zj X).length = X.length := by simp [zj]
theorem zcn (X Y : List FV) : zj (X ++ Y) = zj X ++ zj Y := by simp [zj]
theorem zl8 (X Y : List FV) (p : Nat) : ofX (X ++ Y) p = ofX X p ++ ofX Y p := by simp [ofX]
theorem zjH (X : List FV) (p : Nat) : zj (ofX X p) = ofP (zj X) p := by
 induction X with
 | nil => rfl
 | cons x X ih =>
  unfold ofX zj ofP at ih ⊢
  by_cases e : x.1.1 = (p : Int)
  ·simp [List.filter_cons, e]
   simpa using ih
  ·simp [List.filter_cons, e]
   simpa using ih
theorem zmR (X : List FV) (p : Nat) : (ofX X p).length = (ofP (zj X) p).length := by rw [<- zjH, zae]
theorem zn7 (X : List FV) (p : Nat) : (ofX X p).length <= X.length := List.length_filter_le _ _
theorem zk3 (X : List FV) (p : Nat) (xs : List Int) (a : Value) : zcq (ofX X) p (ofX X p ++ [(((p : Int), xs), a)]) = ofX (X ++ [(((p : Int), xs), a)]) := by
 funext q
 rw [zl8]
 by_cases e : q = p
 ·subst e
  rw [zbg]
  simp [ofX]
 ·rw [zbn _ _ e]
  have : ¬ ((p : Int) = (q : Int)) := by omega
  simp [ofX, this]
def cntX (X : List FV) (n : Nat) (p : Nat) : Nat := (ofP ((zj X).take n) p).length
theorem zfO (X : List FV) (x : FV) {n : Nat} (h : n <= X.length) : cntX (X ++ [x]) n = cntX X n := by
 funext p
 unfold cntX
 rw [zcn, List.take_append_of_le_length (by rw [zae]; exact h)]
theorem zos (X : List FV) (p : Nat) : cntX X X.length p = (ofX X p).length := by
 unfold cntX
 rw [List.take_of_length_le (by rw [zae]; exact Nat.le_refl _), <- zmR]
structure zaR (w : World) (g : Nat) (X : List FV) (E : List Nat) (o e : Nat) (R : Nat -> Value) : Prop where
 raw : zP w g X E (ofX X) (cntX X o) (cntX X e) (zK zaa (zj X)) R
 oe : o <= e
 eL : e <= X.length
section
variable {w w' : World} {g o e : Nat} {X : List FV} {E : List Nat} {R : Nat -> Value}
theorem zaR.on (h : zaR w g X E o e R) (hb : Below w.heap.size w w') : zaR w' g X E o e R := ⟨h.raw.on hb, h.oe, h.eL⟩
theorem zaR.drew (h : zaR w g X E o e R) : zaR w.drew g X E o e R := h.on (Below.refl _ _).drew
theorem zaR.lt (h : zaR w g X E o e R) : g < w.heap.size := h.raw.lt
end
theorem zlI {ar : List Int} {L : List zd} {f : zd} (ha : zr ar = true) (hL : ∀ x ∈ L, zE ar x = true) (hf : zE ar f = true) : ((zK zaa L).getD f.1.toNat 0).testBit (numF f.2) = true <-> f ∈ L := by
 have hp : f.1.toNat < zaa.length := by
  have h1 := (zav hf).1
  have h2 : ar.length <= 24 := by simp only [zr, Bool.and_eq_true, decide_eq_true_eq] at ha; exact ha.1
  simp [zaa]
  omega
 rw [zfg _ _ hp, zkJ]
 constructor
 ·rintro (h | ⟨x, hx, h1, h2⟩)
  ·cases h
  ·rw [zlx ha hf (hL x hx) h1.symm h2.symm]
   exact hx
 ·intro h
  exact .inr ⟨f, h, rfl, rfl⟩
theorem zhF {T : List Nat} {p n : Nat} (hp : p < T.length) (h : (T.getD p 0).testBit n = true) : za9 T p n = T := by
 unfold za9
 have e : T.getD p 0 ||| 2 ^ n = T.getD p 0 := by
  apply Nat.eq_of_testBit_eq
  intro i
  rw [Nat.testBit_or, Nat.testBit_two_pow]
  by_cases e : n = i
  ·subst e; rw [h]; rfl
  ·simp [e]
 rw [e]
 have e2 : T.getD p 0 = T[p] := by simp [hp]
 rw [e2, List.set_getElem_self]
theorem zo8 {ar : List Int} {f : zd} (ha : zr ar = true) (hf : zE ar f = true) : 0 <= f.1 /\ f.1 < 24 /\ f.2.length <= 2 /\ numF f.2 < 64 := by
 have h1 := zav hf
 have h2 : ar.length <= 24 := by simp only [zr, Bool.and_eq_true, decide_eq_true_eq] at ha; exact ha.1
 have h3 := zbb ha hf
 exact ⟨h1.1.1, by omega, h3, zgv h1.2 h3⟩
theorem rdX {w : World} {g : Nat} {R : Nat -> Value} {v : Value} {X : List FV} (h : w.ownsRow (g + 1) 39 2 v X.length (zcN X)) (ha : ∀ x ∈ X, zbH w g R x) {n : Nat} (hn : n <= X.length) {A : Option Addr} {c : Nat} (hv : v = .slice A X.length c) {c' : Nat} (hc : n <= c') :
 zu w w.heap.size (.slice A n c') ((zj X).take n) := by
 subst hv
 have hl : ((zj X).take n).length = n := by simp [zj]; omega
 refine ⟨A, c', by rw [hl], by rw [hl]; exact hc, fun h0 => ?_⟩
 rw [hl] at h0
 have hcells := @World.ownsRow.cells w (g + 1) 39 2 _ X.length (zcN X) h
 rcases h.2 with ⟨e, e0⟩ | ⟨b, cap, cur, e, hb, hg, _⟩
 ·omega
 ·injection e with e1 _ _
  subst e1
  refine ⟨b, 0, rfl, Blk.lt hg, fun k hk => ?_⟩
  have hkX : k < X.length := by rw [hl] at hk; omega
  obtain ⟨c0, c1⟩ := ziW X k hkX
  have d0 := hcells (g := b) rfl (k * 2) _ c0
  have d1 := hcells (g := b) rfl (k * 2 + 1) _ c1
  rw [Go.WideShapes.add_plain] at d0 d1
  have e3 : ((zj X).take n)[k] = X[k].1 := by simp [zj]
  rw [e3]
  exact ⟨X[k].2, d0, d1, (ha _ (List.getElem_mem hkX)).1⟩
end Go.Proofs.YtofkcmihcgmmpaaGreatDoor
