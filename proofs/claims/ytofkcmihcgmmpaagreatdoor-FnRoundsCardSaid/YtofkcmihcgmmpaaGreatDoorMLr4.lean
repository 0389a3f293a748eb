/-
  Texts that the claim's last one imports, laid together: part 4 of 16. No condition of its own.
-/
import Derived.Test.YtofkcmihcgmmpaaGreatDoorMLr1
import Derived.Test.YtofkcmihcgmmpaaGreatDoorMLr2
import Derived.Test.YtofkcmihcgmmpaaGreatDoorMLr3
namespace Go.Proofs.YtofkcmihcgmmpaaGreatDoor
set_option maxRecDepth 100000
open Go.RowKit
section
variable {α : Type}
variable {t : TypeId} {z0 z1 z2 : Value} {O : World -> Nat -> Nat -> Value -> Value -> Value -> α -> Prop} {g : Nat} {w wr w4 : World} {xs : List α} {k : Nat} {f : Nat -> Nat}
end
open Go.RowKit
theorem Blk.last (w : World) (o : Obj) (t : TypeId) (cs : Array Value) : Blk ((w.alloc o).alloc (.cells cs t)).drew (w.heap.size + 1) t cs := by
 have := Blk.new (w.alloc o) t cs
 rw [World.size_alloc] at this
 exact this
theorem zl.setNew {lo hi : Nat} {w W : World} (h : zl lo hi w W) {p : Addr} (hp : w.heap.size <= p.block) (u : Value) : zl lo hi w (W.setCell p u) :=
 ⟨h.os, h.tape, h.output, by simpa using h.size, fun k hk ho => (Below.heap_setCell _ _ _ _ (by omega)).trans (h.block k hk ho)⟩
section
variable {w2 W3 : World} {g m la : Nat} {p : Int} {s0 : Ren} {xs : List Int} {A : Option Addr} {c : Nat}
end
theorem zfH.then_ {w wc wr : World} {g r : Nat} (hb : Below w.heap.size w wc) (h : zfH g r wc wr) (h1 : w.heap.size <= g) (h2 : w.heap.size <= r) : Below w.heap.size w wr :=
 hb.trans ⟨h.os, h.tape, h.output, h.size, fun k hk => h.block k (Nat.lt_of_lt_of_le hk hb.size) (by omega) (by omega)⟩
theorem zfH.trans {w wc wr : World} {g r : Nat} (h : zfH g r w wc) (k : zfH g r wc wr) : zfH g r w wr :=
 ⟨k.os.trans h.os, k.tape.trans h.tape, k.output.trans h.output, Nat.le_trans h.size k.size, fun b hb h1 h2 => (k.block b (Nat.lt_of_lt_of_le hb h.size) h1 h2).trans (h.block b hb h1 h2)⟩
theorem zfH.of_below {w w' : World} {g r : Nat} (h : Below w.heap.size w w') : zfH g r w w' := ⟨h.os, h.tape, h.output, h.size, fun k hk _ _ => h.block k hk⟩
open Go.RowKit
def zcO : List zC -> List Value -> List Value
 | l :: ls, u :: us => .int .i64 l.1 :: .int .i64 l.2.1 :: u :: zcO ls us
 | _, _ => []
theorem zls : ∀ (ls : List zC) (us : List Value) (_ : us.length = ls.length) (k : Nat) (hk : k < ls.length) (hk' : k < us.length),
 (zcO ls us)[k * 3]? = some (.int .i64 ls[k].1) /\ (zcO ls us)[k * 3 + 1]? = some (.int .i64 ls[k].2.1) /\ (zcO ls us)[k * 3 + 2]? = some us[k]
 | [], _, _, k, hk, _ => absurd hk (by simp)
 | l :: ls, [], h, _, _, _ => by simp at h
 | l :: ls, u :: us, h, 0, _, _ => by simp [zcO]
 | l :: ls, u :: us, h, k + 1, hk, hk' => by
  have := zls ls us (by simpa using h) k (by simpa using hk) (by simpa using hk')
  simpa [zcO, Nat.add_mul] using this
theorem zi0 : ∀ (ls : List zC) (us : List Value) (_ : us.length = ls.length) (l : zC) (u : Value), zcO (ls ++ [l]) (us ++ [u]) = zcO ls us ++ [.int .i64 l.1, .int .i64 l.2.1, u]
 | [], [], _, l, u => by simp [zcO]
 | [], u' :: us, h, _, _ => by simp at h
 | l :: ls, [], h, _, _ => by simp at h
 | l :: ls, u :: us, h, m, b => by simp [zcO, zi0 ls us (by simpa using h) m b]
structure zd2 (base : Nat) (wr : World) (ls : List zC) (A : Option Addr) (c : Nat) (us : List Value) : Prop where
 len : us.length = ls.length
 own : ∀ i (h : i < ls.length) (h' : i < us.length), zg wr base wr.heap.size us[i] ls[i].2.2
 row : wr.ownsRow base 68 3 (.slice A ls.length c) ls.length (zcO ls us)
section
variable {base : Nat} {wr w2 w4 : World} {ls : List zC} {A : Option Addr} {c : Nat} {us : List Value}
theorem zd2.nil (base : Nat) (w : World) : zd2 base w [] none 0 [] := ⟨rfl, fun i h => absurd h (by simp), by simpa [zcO] using World.ownsRow_nil w base 68 3⟩
theorem zd2.below (h : zd2 base wr ls A c us) (hb : Below wr.heap.size wr w2) : zd2 base w2 ls A c us :=
 ⟨h.len, fun i h1 h2 => ((h.own i h1 h2).below hb (Nat.le_refl _)).mono (Nat.le_refl _) hb.size, zw h.row fun g hg => hb.block g (h.row.lt g hg).2⟩
theorem zmr {n : Nat} {v a : Value} {zs : List Value} {xs : List Int} {lo hi g : Nat} (hr : wr.ownsRow base 68 3 v n zs) (hv : v.ownBlock = some g) (ha : zg wr lo hi a xs) : a.ownBlock ≠ some g := by
 rcases hr.2 with ⟨rfl, _⟩ | ⟨g1, c1, cur1, rfl, _, h1, _⟩
 ·cases hv
 ·have e : g1 = g := by simpa [Value.ownBlock] using hv
  subst e
  rcases ha.1.2 with ⟨rfl, _⟩ | ⟨g2, c2, cur2, rfl, _, h2, _⟩
  ·simp [Value.ownBlock]
  ·intro e
   have e : g2 = g1 := by simpa [Value.ownBlock] using e
   subst e
   rw [h1] at h2
   injection h2 with h2
   injection h2 with _ h2
   exact absurd h2 (by decide)
theorem zd2.push {l : zC} {u : Value} {g cap : Nat} {o : Obj} (h : zd2 base wr ls A c us) (hb : Below wr.heap.size wr w2) (hu : zg w2 base w2.heap.size u l.2.2)
 (hg : (w2.alloc o).grownBy w4 (Value.slice A ls.length c).ownBlock) (hown : w4.ownsRow base 68 3 (.slice (some ⟨g, 0, none⟩) (ls.length + 1) cap) (ls.length + 1) (zcO ls us ++ [.int .i64 l.1, .int .i64 l.2.1, u])) :
 zd2 base w4 (ls ++ [l]) (some ⟨g, 0, none⟩) cap (us ++ [u]) := by
 have h2 := h.below hb
 have hg2 := zy hg
 have hl : (ls ++ [l]).length = ls.length + 1 := by simp
 have keep : ∀ {v : Value} {xs : List Int}, zg w2 base w2.heap.size v xs -> zg w4 base w4.heap.size v xs := fun {v xs} hv =>
  (hv.kept (fun b hb' => hg2.block b (hv.lt hb').2.2 (fun e => zmr h2.row e.symm hv hb'))).mono (Nat.le_refl _) hg2.size
 refine ⟨by simp [h.len], fun i h1 h3 => ?_, ?_⟩
 ·by_cases e : i < ls.length
  ·have e' : i < us.length := by rw [h.len]; exact e
   rw [List.getElem_append_left e', List.getElem_append_left e]
   exact keep (h2.own i e e')
  ·have e2 : i = ls.length := by simp at h1; omega
   subst e2
   simp [<- h.len]
   simpa using keep hu
 ·rw [hl, zi0 ls us h.len]
  exact hown
theorem zd2.lits (h : zd2 base wr ls A c us) (hn : ls.length <= c) : zW wr base wr.heap.size (.slice A ls.length c) ls := by
 have hcells := @World.ownsRow.cells wr base 68 3 (.slice A ls.length c) ls.length (zcO ls us) h.row
 have hlt := h.row.lt
 have hl := h.len
 refine ⟨A, c, rfl, hn, fun hpos => ?_⟩
 rcases h.row.2 with ⟨e, h0⟩ | ⟨g, cap, cur, e, hb, hgg, _⟩
 ·omega
 ·injection e with e1 _ e3
  subst e1
  refine ⟨g, 0, rfl, hb, (hlt g rfl).2, fun k hk => ⟨⟨by simp [World.frozen?, hgg], by simp [World.frozen?, hgg]⟩, ?_⟩⟩
  obtain ⟨c0, c1, c2⟩ := zls ls us hl k hk (by omega)
  have d0 := hcells (g := g) rfl _ _ c0
  have d1 := hcells (g := g) rfl _ _ c1
  have d2 := hcells (g := g) rfl _ _ c2
  rw [Go.WideShapes.add_plain] at d0 d1 d2
  exact ⟨_, _, _, d0, d1, d2, rfl, rfl, h.own k hk (by omega)⟩
theorem zd2.set {p : Addr} (h : zd2 base wr ls A c us) (hp : p.block < base) (u : Value) : zd2 base (wr.setCell p u) ls A c us :=
 ⟨h.len, fun i h1 h2 => ((h.own i h1 h2).set (.inl hp) u).mono (Nat.le_refl _) (by simp), zw h.row fun g hg => Below.heap_setCell _ _ _ _ (by have := (h.row.lt g hg).1; omega)⟩
theorem zd2.cap (h : zd2 base wr ls A c us) : ls.length <= c := by
 rcases h.row.2 with ⟨e, h0⟩ | ⟨g, cap, cur, e, hb, hgg, hn, _⟩
 ·injection e with _ _ e
  omega
 ·injection e with _ _ e
  omega
end
open Go.RowKit
def zaL (ls : List zC) : Prop := ∀ l ∈ ls, 0 <= l.1 /\ l.1 <= 3 /\ ∀ t ∈ l.2.2, -4 <= t
theorem zaL.nil : zaL [] := fun l h => absurd h (by simp)
theorem zaL.snoc {ls : List zC} {l : zC} (h : zaL ls) (hl : 0 <= l.1 /\ l.1 <= 3 /\ ∀ t ∈ l.2.2, -4 <= t) : zaL (ls ++ [l]) := fun m hm => by
 rcases List.mem_append.1 hm with hm | hm
 ·exact h m hm
 ·rw [List.mem_singleton.1 hm]; exact hl
theorem zaL.one {l : zC} (hl : 0 <= l.1 /\ l.1 <= 3 /\ ∀ t ∈ l.2.2, -4 <= t) : zaL [l] := zaL.snoc zaL.nil hl
structure DrL (w wr : World) (g : Nat) (bs : List Nat) (q : Nat) (A : Option Addr) (c : Nat) (ls : List zC) (us : List Value) : Prop where
 col : zd2 w.heap.size wr ls A c us
 kinds : zaL ls
 rdr : Rdr wr g bs q
 only : zl g (g + 1) w wr
section
variable {w wr w' w4 : World} {g q : Nat} {bs : List Nat} {A : Option Addr} {c : Nat} {ls : List zC} {us : List Value}
theorem zd2.onlyG {base : Nat} (h : zd2 base wr ls A c us) (ho : zl g (g + 1) wr w') (hg : g < base) : zd2 base w' ls A c us :=
 ⟨h.len, fun i h1 h2 => ((h.own i h1 h2).only ho (.inr (by omega))).mono (Nat.le_refl _) ho.size, zw h.row fun b hb => ho.block b (h.row.lt b hb).2 (by have := (h.row.lt b hb).1; omega)⟩
theorem zd2.empty {w : World} : zd2 w.heap.size (w.alloc (.cells #[] 68)) [] (some ⟨w.heap.size, 0, none⟩) 0 [] :=
 ⟨rfl, fun i h => absurd h (by simp), World.ownsRow_made w #[] 0 (Nat.le_refl _) (by decide) rfl⟩
theorem DrL.empty (h : Rdr w g bs q) : DrL w (w.alloc (.cells #[] 68)) g bs q (some ⟨w.heap.size, 0, none⟩) 0 [] [] :=
 ⟨zd2.empty, zaL.nil, h.below (ze _ _) h.lt, zl.of_below (ze _ _)⟩
theorem DrL.go (h : DrL w wr g bs q A c ls us) (hg : g < w.heap.size) {q' : Nat} (hr : Rdr w' g bs q') (ho : zl g (g + 1) wr w') : DrL w w' g bs q' A c ls us :=
 ⟨h.col.onlyG ho hg, h.kinds, hr, h.only.trans ho⟩
theorem DrL.push {g2 cap : Nat} {l : zC} {u : Value} {o : Obj} (h : DrL w wr g bs q A c ls us) (hkd : 0 <= l.1 /\ l.1 <= 3 /\ ∀ t ∈ l.2.2, -4 <= t) (hgw : g < w.heap.size) (hu : zg wr w.heap.size wr.heap.size u l.2.2) (hg : (wr.alloc o).grownBy w4 (Value.slice A ls.length c).ownBlock)
 (hown : w4.ownsRow w.heap.size 68 3 (.slice (some ⟨g2, 0, none⟩) (ls.length + 1) cap) (ls.length + 1) (zcO ls us ++ [.int .i64 l.1, .int .i64 l.2.1, u])) : DrL w w4 g bs q (some ⟨g2, 0, none⟩) cap (ls ++ [l]) (us ++ [u]) := by
 have hg2 := zy hg
 have hlow : ∀ b, b < w.heap.size -> w4.heap[b]? = wr.heap[b]? := fun b hb => hg2.block b (by have := h.only.size; omega) (fun e => by have := (h.col.row.lt b e.symm).1; omega)
 exact ⟨h.col.push (Below.refl _ _) hu hg hown, h.kinds.snoc hkd, h.rdr.same fun k hk => hlow k (by omega), ⟨hg2.os.trans h.only.os, hg2.tape.trans h.only.tape, hg2.output.trans h.only.output, Nat.le_trans h.only.size hg2.size, fun b hb hn => (hlow b hb).trans (h.only.block b hb hn)⟩⟩
end
theorem zgs (w : World) (base : Nat) (x y : Int) (hb : base <= w.heap.size) : zg (w.alloc (.cells #[.int .i64 x, .int .i64 y] 3)) base (w.heap.size + 1) (.slice (some ⟨w.heap.size, 0, none⟩) 2 2) [x, y] :=
 zg.of_rowIs (xs := [x, y]) (World.rowIs_alloc w #[.int .i64 x, .int .i64 y] 3 (fun j => .int .i64 ([x, y].getD j 0)) (fun i hi => by
  match i, hi with
  | 0, _ => rfl
  | 1, _ => rfl)) hb (Nat.lt_succ_self _) (by show 2 <= maxLen; unfold maxLen; omega)
theorem zfI (ls : List zC) (l : zC) : zbB (ls ++ [l]) = zbB ls + l.2.2.length := by simp [zbB]
set_option maxHeartbeats 4000000 in
theorem zmk (g : Nat) (bs : List Nat) (p lo hi n : Nat) (no : Int) (v : Value) (ar : List Int) (w : World) (h : Rdr w g bs p) (hp : p <= 1048500) (ha : zg w lo hi v ar) (hg : g < lo) (hh : hi <= w.heap.size) (hr : ∀ x ∈ ar, 0 <= x /\ x <= 2) (h0 : 0 < ar.length) (hl : ar.length <= 1048576) (hn : n <= 3) :
 Calls Tryz.prog 177 #[.pointer (some ⟨g, 0, none⟩), v, .int .i64 n, .int .i64 no] w fun e w' => ∃ (A : Option Addr) (c : Nat) (ls : List zC) (us : List Value) (q : Nat), e = .returned (.slice A ls.length c) /\ ls.length <= 4 /\ zbB ls <= 8 /\ q <= p + 40 /\ DrL w w' g bs q A c ls us := by
 obtain ⟨i0, hi0, hz0, hz1, hz2⟩ := info_parts Tryz.infoLit
 have H := Lib.hid h
 have hgl := h.lt
 have HA := Lib.hid ha
 have HRG := Lib.hid hr
 obtain ⟨A0, c0, hv0⟩ := ha.form
 subst hv0
 clear h ha hr
 have CD := Lib.hid (fun (W : World) (q j : Nat) (hR : Rdr W g bs q) (hq : q <= 1048576) (hO : zl g (g + 1) w W) (hj : j < ar.length) => ziO g bs q lo hi j ar[j].toNat n (.slice A0 ar.length c0) ar W hR hq (HA.out.only hO (.inr (by omega))) hg (Nat.le_trans hh hO.size) hj (by have := HRG.out _ (List.getElem_mem hj); omega) (by have := HRG.out _ (List.getElem_mem hj); omega) hl hn)
 go_enter Tryz.func177, Tryz.ntmps177
 go_wp2_with (fail)
 have H1 := Lib.hid (DrL.empty H.out)
 refine (zak g bs p 2 _ H1.out.rdr (by omega) (by omega)).mono ?_
 rintro e w2 ⟨⟨x, rfl, hx⟩, hp2⟩
 have hxr : 0 <= x /\ x < 2 := hx.1 (by omega)
 have hw1 : IntKind.i64.wrap (1 + x) = 1 + x := by
  unfold IntKind.wrap
  simp [IntKind.bits, IntKind.signed] <;> omega
 obtain ⟨i, hi1⟩ : ∃ i : Nat, 1 + x = (i : Int) := ⟨(1 + x).toNat, by omega⟩
 have hi2 : i <= 2 := by omega
 have H2 := Lib.hid (H1.out.go hgl hp2.1 hp2.2)
 have HI := Lib.hid hi1
 clear hp2 hx
 go_wp2_with (fail)
 obtain ⟨b0, hb0⟩ : ∃ b0, b0 = w.heap.size := ⟨_, rfl⟩
 rw [<- hb0] at H2
 go_loopw [9, 10] (fun o i wr => ∃ (k : Nat) (A' : Option Addr) (c' : Nat) (ls : List zC) (us : List Value) (q : Nat), k <= 2 /\ i = .int .i64 k /\ ls.length + k <= 2 /\ zbB ls <= 2 * ls.length /\ q + 7 * k <= p + 15 /\ o = .slice A' ls.length c' /\ DrL w wr g bs q A' c' ls us) (fun _ i _ => (intOf i).toNat)
 case atStart => exact ⟨i, some ⟨b0, 0, none⟩, 0, [], [], p + 1, hi2, rfl, by simp; omega, by simp [zbB], by omega, by rw [hb0]; rfl, H2.out⟩
 case round =>
  obtain ⟨k, A', c', ls, us, q, hk, rfl, hll, htl, hq, rfl, hr⟩ := hrel
  have HR := Lib.hid hr
  have hszr0 := hr.only.size
  clear hr
  by_cases hlt : 0 < k
  ·obtain ⟨k, rfl⟩ : ∃ k', k = k' + 1 := ⟨k - 1, by omega⟩
   go_wp2_with (fail)
   refine (zak g bs q ar.length _ HR.out.rdr (by omega) (by omega)).mono ?_
   rintro e wpa ⟨⟨ja, rfl, hja⟩, hpa⟩
   have hjar : 0 <= ja /\ ja < ar.length := hja.1 (by omega)
   obtain ⟨ja, rfl⟩ : ∃ j : Nat, ja = (j : Int) := ⟨ja.toNat, by omega⟩
   have Hpa := Lib.hid (HR.out.go hgl hpa.1 hpa.2)
   clear hpa hja
   go_wp2_with (fail)
   refine (CD.out wpa (q + 1) ja Hpa.out.rdr (by omega) Hpa.out.only (by omega)).mono ?_
   rintro e wda ⟨Ada, cda, xsa, qda, rfl, ⟨hxsa, hxta⟩, hqda, hoda, hrda, hOda⟩
   have hszpa := Hpa.out.only.size
   have Hda := Lib.hid (And.intro (Hpa.out.go hgl hrda hOda) (hoda.mono (show w.heap.size <= wpa.heap.size by omega) (Nat.le_refl _)))
   have hszda := Hda.out.1.only.size
   have HXTa := Lib.hid hxta
   clear hoda hrda hOda hxta
   go_wp2_with (at_builtin; refine wpList_append_lies _ rfl (.tmp 20) (.tmp 30) 64 rfl w.heap.size 68 i0 (.agg #[.int .i64 0, .int .i64 0, .slice none 0 0]) 3 40 Tryz.underlying64 hi0 hz0 hz1 hz2 rfl (by decide) (.slice A' ls.length c') ls.length (zcO ls us) rfl ?c1 ⟨_, 0, none⟩ 1 1 [.int .i64 0, .int .i64 ja, .slice Ada xsa.length cda] rfl rfl (World.news_of_block (cs := #[.int .i64 0, .int .i64 ja, .slice Ada xsa.length cda]) (heap_alloc_new wda _)) ?c2 (by omega) (by unfold maxLen; omega) (by omega) ?c3 _ rfl ?_)
   case c1 => exact Hda.out.1.col.row.alloc _
   case c2 => intro u hu; simp at hu; rcases hu with rfl | rfl | rfl <;> rfl
   case c3 => simp; omega
   intro ga capa w9a howna hgra _ _
   have HCa := Lib.hid (Hda.out.1.push (l := (0, ((ja : Int), xsa))) ⟨Int.le_refl 0, (by decide : (0 : Int) <= 3), HXTa.out⟩ hgl Hda.out.2 hgra howna)
   obtain ⟨lsa, hlsa⟩ : ∃ ls2, ls2 = ls ++ [((0 : Int), ((ja : Int), xsa))] := ⟨_, rfl⟩
   obtain ⟨usa, husa⟩ : ∃ us2, us2 = us ++ [Value.slice Ada xsa.length cda] := ⟨_, rfl⟩
   have hlea : ls.length + 1 = lsa.length := by rw [hlsa]; simp
   have htla : zbB lsa <= zbB ls + 2 := by rw [hlsa, zfI]; show zbB ls + xsa.length <= _; omega
   have hlla : lsa.length <= ls.length + 1 := by omega
   have hlma : ls.length + 1 <= lsa.length := by omega
   rw [hlea]
   rw [<- hlsa, <- husa] at HCa
   clear howna hgra hlsa husa hlea
   go_wp2_with (fail)
   go_roundw
   case rel => exact ⟨k, _, _, lsa, usa, qda, by omega, by go_num, by omega, by omega, by omega, rfl, HCa.out⟩
   case measure => simp [intOf]
  ·have hk0 : k = 0 := by omega
   subst hk0
   go_wp2_with (fail)
   refine (zak g bs q 4 _ HR.out.rdr (by omega) (by omega)).mono ?_
   rintro e wf ⟨⟨y, rfl, _⟩, hpf⟩
   have HF := Lib.hid (HR.out.go hgl hpf.1 hpf.2)
   have hszf := HF.out.only.size
   clear hpf
   by_cases hy : y < no
   ·have hyb : decide (y < no) = true := by simpa using hy
    clear hy
    obtain ⟨q, hqq⟩ : ∃ q', q' = q + 1 := ⟨_, rfl⟩
    rw [<- hqq] at HF
    have hq1 : q <= p + 16 := by omega
    clear hqq
    go_wp2_with (fail)
    refine (zak g bs q ar.length _ HF.out.rdr (by omega) (by omega)).mono ?_
    rintro e wpb ⟨⟨jb, rfl, hjb⟩, hpb⟩
    have hjbr : 0 <= jb /\ jb < ar.length := hjb.1 (by omega)
    obtain ⟨jb, rfl⟩ : ∃ j : Nat, jb = (j : Int) := ⟨jb.toNat, by omega⟩
    have Hpb := Lib.hid (HF.out.go hgl hpb.1 hpb.2)
    clear hpb hjb
    go_wp2_with (fail)
    refine (CD.out wpb (q + 1) jb Hpb.out.rdr (by omega) Hpb.out.only (by omega)).mono ?_
    rintro e wdb ⟨Adb, cdb, xsb, qdb, rfl, ⟨hxsb, hxtb⟩, hqdb, hodb, hrdb, hOdb⟩
    have hszpb := Hpb.out.only.size
    have Hdb := Lib.hid (And.intro (Hpb.out.go hgl hrdb hOdb) (hodb.mono (show w.heap.size <= wpb.heap.size by omega) (Nat.le_refl _)))
    have hszdb := Hdb.out.1.only.size
    have HXTb := Lib.hid hxtb
    clear hodb hrdb hOdb hxtb
    go_wp2_with (at_builtin; refine wpList_append_lies _ rfl (.tmp 36) (.tmp 46) 64 rfl w.heap.size 68 i0 (.agg #[.int .i64 0, .int .i64 0, .slice none 0 0]) 3 40 Tryz.underlying64 hi0 hz0 hz1 hz2 rfl (by decide) (.slice A' ls.length c') ls.length (zcO ls us) rfl ?c1 ⟨_, 0, none⟩ 1 1 [.int .i64 1, .int .i64 jb, .slice Adb xsb.length cdb] rfl rfl (World.news_of_block (cs := #[.int .i64 1, .int .i64 jb, .slice Adb xsb.length cdb]) (heap_alloc_new wdb _)) ?c2 (by omega) (by unfold maxLen; omega) (by omega) ?c3 _ rfl ?_)
    case c1 => exact Hdb.out.1.col.row.alloc _
    case c2 => intro u hu; simp at hu; rcases hu with rfl | rfl | rfl <;> rfl
    case c3 => simp; omega
    intro gb capb w9b hownb hgrb _ _
    have HCb := Lib.hid (Hdb.out.1.push (l := (1, ((jb : Int), xsb))) ⟨(by decide : (0 : Int) <= 1), (by decide : (1 : Int) <= 3), HXTb.out⟩ hgl Hdb.out.2 hgrb hownb)
    obtain ⟨lsb, hlsb⟩ : ∃ ls2, ls2 = ls ++ [((1 : Int), ((jb : Int), xsb))] := ⟨_, rfl⟩
    obtain ⟨usb, husb⟩ : ∃ us2, us2 = us ++ [Value.slice Adb xsb.length cdb] := ⟨_, rfl⟩
    have hleb : ls.length + 1 = lsb.length := by rw [hlsb]; simp
    have htlb : zbB lsb <= zbB ls + 2 := by rw [hlsb, zfI]; show zbB ls + xsb.length <= _; omega
    have hllb : lsb.length <= ls.length + 1 := by omega
    have hlmb : ls.length + 1 <= lsb.length := by omega
    rw [hleb]
    rw [<- hlsb, <- husb] at HCb
    clear hownb hgrb hlsb husb hleb
    go_wp2_with (fail)
    refine (zak g bs qdb 6 _ HCb.out.rdr (by omega) (by omega)).mono ?_
    rintro e wtb ⟨⟨yb, rfl, _⟩, hptb⟩
    have Htb := Lib.hid (HCb.out.go hgl hptb.1 hptb.2)
    have hsztb := Htb.out.only.size
    clear hptb
    by_cases hyb : yb = 0
    ·have hyb : (yb == 0) = true := by simp [hyb]
     clear hyb
     go_wp2_with (fail)
     have Hu := Lib.hid (Htb.out.go hgl (Htb.out.rdr.below (ze wtb (.cells #[.int .i64 2, .int .i64 3] 3)) Htb.out.rdr.lt) (zl.of_below (ze wtb (.cells #[.int .i64 2, .int .i64 3] 3))))
     refine (zeP g bs (qdb + 1) _ _ [2, 3] 2 _ Hu.out.rdr (by omega) (Blk.new _ _ _) rfl (by omega) rfl (by simp) (by simp)).mono ?_
     rintro e wk ⟨⟨kd, rfl, hkd⟩, hpk⟩
     have HKD := Lib.hid (show 0 <= kd /\ kd <= 3 by simp only [List.mem_cons, List.not_mem_nil, or_false] at hkd; omega)
     clear hkd
     have Hk := Lib.hid (Hu.out.go hgl hpk.1 hpk.2)
     have hszk := Hk.out.only.size
     clear hpk
     go_wp2_with (fail)
     have Hv := Lib.hid (Hk.out.go hgl (Hk.out.rdr.below (ze wk (.cells #[.int .i64 1, .int .i64 (-2), .int .i64 2] 3)) Hk.out.rdr.lt) (zl.of_below (ze wk (.cells #[.int .i64 1, .int .i64 (-2), .int .i64 2] 3))))
     refine (zeP g bs (qdb + 1 + 1) _ _ [1, -2, 2] 3 _ Hv.out.rdr (by omega) (Blk.new _ _ _) rfl (by omega) rfl (by simp) (by simp)).mono ?_
     rintro e wn ⟨⟨z, rfl, hz⟩, hpn⟩
     have HZT := Lib.hid (show ∀ t ∈ [(-1 : Int), z], -4 <= t from fun t ht => by simp only [List.mem_cons, List.not_mem_nil, or_false] at ht hz; omega)
     clear hz
     have Hn := Lib.hid (Hv.out.go hgl hpn.1 hpn.2)
     have hszn := Hn.out.only.size
     clear hpn
     go_upto_region 10 with (fail)
     obtain ⟨wr, hwr⟩ : ∃ wr, wr = wn.alloc (.cells #[.int .i64 (-1), .int .i64 z] 3) := ⟨_, rfl⟩
     have ho2 : zg wr w.heap.size (wn.heap.size + 1) (.slice (some ⟨wn.heap.size, 0, none⟩) 2 2) [-1, z] := by rw [hwr]; exact zgs wn _ (-1) z hszn
     have br : Below wn.heap.size wn wr := by rw [hwr]; exact ze _ _
     have hsze : wr.heap.size = wn.heap.size + 1 := by rw [hwr]; simp
     rw [<- hwr]
     clear hwr
     obtain ⟨wx, hwx⟩ : ∃ wx, wx = wr.alloc (.cells #[.int .i64 kd, .int .i64 0, .slice (some ⟨wn.heap.size, 0, none⟩) 2 2] 68) := ⟨_, rfl⟩
     have hwrs : wr.heap.size = wn.heap.size + 1 := hsze
     have ox : Blk wx (wn.heap.size + 1) 68 #[.int .i64 kd, .int .i64 0, .slice (some ⟨wn.heap.size, 0, none⟩) 2 2] := by rw [hwx, <- hwrs]; exact Blk.new _ _ _
     have bx : Below wr.heap.size wr wx := by rw [hwx]; exact ze _ _
     have hszx : wr.heap.size <= wx.heap.size := bx.size
     have hszr : wn.heap.size <= wr.heap.size := br.size
     have bnx : Below wn.heap.size wn wx := zf br bx
     have HX := Lib.hid ((Hn.out.go hgl (Hn.out.rdr.below bnx Hn.out.rdr.lt) (zl.of_below bnx)))
     have HO2 := Lib.hid ((ho2.below bx (Nat.le_of_eq hwrs.symm)).mono (Nat.le_refl _) (show wn.heap.size + 1 <= wx.heap.size by omega))
     have x0 : wx.cell? ⟨wn.heap.size + 1, 0, none⟩ = some (.int .i64 kd) := ox.cell 0
     have x1 : wx.cell? ⟨wn.heap.size + 1, 1, none⟩ = some (.int .i64 0) := ox.cell 1
     have x2 : wx.cell? ⟨wn.heap.size + 1, 2, none⟩ = some (.slice (some ⟨wn.heap.size, 0, none⟩) 2 2) := ox.cell 2
     rw [<- hwx]
     clear hwx hwrs hsze ox bx bnx br ho2
     go_wp2_with (at_builtin; refine wpList_append_lies _ rfl (.tmp 60) (.tmp 62) 64 rfl w.heap.size 68 i0 (.agg #[.int .i64 0, .int .i64 0, .slice none 0 0]) 3 40 Tryz.underlying64 hi0 hz0 hz1 hz2 rfl (by decide) (.slice _ lsb.length _) lsb.length (zcO lsb usb) rfl ?d1 ⟨_, 0, none⟩ 1 1 [.int .i64 kd, .int .i64 0, .slice (some ⟨wn.heap.size, 0, none⟩) 2 2] rfl rfl (World.news_of_block (cs := #[.int .i64 kd, .int .i64 0, .slice (some ⟨wn.heap.size, 0, none⟩) 2 2]) (heap_alloc_new wx _)) ?d2 (by omega) (by unfold maxLen; omega) (by omega) ?d3 _ rfl ?_)
     case d1 => exact HX.out.col.row.alloc _
     case d2 => intro u hu; simp at hu; rcases hu with rfl | rfl | rfl <;> rfl
     case d3 => simp; omega
     intro gz capz wz hownz hgrz _ _
     have HZ := Lib.hid (HX.out.push (l := (kd, ((0 : Int), [(-1 : Int), z]))) ⟨HKD.out.1, HKD.out.2, HZT.out⟩ hgl HO2.out hgrz hownz)
     have htz := zfI lsb (kd, ((0 : Int), [(-1 : Int), z]))
     simp only [List.length_cons, List.length_nil] at htz
     have HT := Lib.hid htz
     clear htz hownz hgrz
     go_wp2_with (fail)
     go_ret
     exact ⟨_, _, _, _, _, (by rw [List.length_append]; rfl), (by rw [List.length_append]; show lsb.length + 1 <= 4; omega), (by have := HT.out; omega), by omega, HZ.out⟩
    ·have hyb : (yb == 0) = false := by simp [hyb]
     clear hyb
     go_wp2_with (fail)
     go_ret
     exact ⟨_, _, lsb, usb, _, rfl, by omega, by omega, by omega, Htb.out⟩
   ·have hyb : decide (y < no) = false := by simpa using hy
    clear hy
    obtain ⟨q, hqq⟩ : ∃ q', q' = q + 1 := ⟨_, rfl⟩
    rw [<- hqq] at HF
    have hq1 : q <= p + 16 := by omega
    clear hqq
    go_wp2_with (fail)
    refine (zak g bs q 6 _ HF.out.rdr (by omega) (by omega)).mono ?_
    rintro e wtc ⟨⟨yc, rfl, _⟩, hptc⟩
    have Htc := Lib.hid (HF.out.go hgl hptc.1 hptc.2)
    have hsztc := Htc.out.only.size
    clear hptc
    by_cases hyc : yc = 0
    ·have hyb : (yc == 0) = true := by simp [hyc]
     clear hyc
     go_wp2_with (fail)
     have Hu := Lib.hid (Htc.out.go hgl (Htc.out.rdr.below (ze wtc (.cells #[.int .i64 2, .int .i64 3] 3)) Htc.out.rdr.lt) (zl.of_below (ze wtc (.cells #[.int .i64 2, .int .i64 3] 3))))
     refine (zeP g bs (q + 1) _ _ [2, 3] 2 _ Hu.out.rdr (by omega) (Blk.new _ _ _) rfl (by omega) rfl (by simp) (by simp)).mono ?_
     rintro e wk ⟨⟨kd, rfl, hkd⟩, hpk⟩
     have HKD := Lib.hid (show 0 <= kd /\ kd <= 3 by simp only [List.mem_cons, List.not_mem_nil, or_false] at hkd; omega)
     clear hkd
     have Hk := Lib.hid (Hu.out.go hgl hpk.1 hpk.2)
     have hszk := Hk.out.only.size
     clear hpk
     go_wp2_with (fail)
     have Hv := Lib.hid (Hk.out.go hgl (Hk.out.rdr.below (ze wk (.cells #[.int .i64 1, .int .i64 (-2), .int .i64 2] 3)) Hk.out.rdr.lt) (zl.of_below (ze wk (.cells #[.int .i64 1, .int .i64 (-2), .int .i64 2] 3))))
     refine (zeP g bs (q + 1 + 1) _ _ [1, -2, 2] 3 _ Hv.out.rdr (by omega) (Blk.new _ _ _) rfl (by omega) rfl (by simp) (by simp)).mono ?_
     rintro e wn ⟨⟨z, rfl, hz⟩, hpn⟩
     have HZT := Lib.hid (show ∀ t ∈ [(-1 : Int), z], -4 <= t from fun t ht => by simp only [List.mem_cons, List.not_mem_nil, or_false] at ht hz; omega)
     clear hz
     have Hn := Lib.hid (Hv.out.go hgl hpn.1 hpn.2)
     have hszn := Hn.out.only.size
     clear hpn
     go_upto_region 10 with (fail)
     obtain ⟨wr, hwr⟩ : ∃ wr, wr = wn.alloc (.cells #[.int .i64 (-1), .int .i64 z] 3) := ⟨_, rfl⟩
     have ho2 : zg wr w.heap.size (wn.heap.size + 1) (.slice (some ⟨wn.heap.size, 0, none⟩) 2 2) [-1, z] := by rw [hwr]; exact zgs wn _ (-1) z hszn
     have br : Below wn.heap.size wn wr := by rw [hwr]; exact ze _ _
     have hsze : wr.heap.size = wn.heap.size + 1 := by rw [hwr]; simp
     rw [<- hwr]
     clear hwr
     obtain ⟨wx, hwx⟩ : ∃ wx, wx = wr.alloc (.cells #[.int .i64 kd, .int .i64 0, .slice (some ⟨wn.heap.size, 0, none⟩) 2 2] 68) := ⟨_, rfl⟩
     have hwrs : wr.heap.size = wn.heap.size + 1 := hsze
     have ox : Blk wx (wn.heap.size + 1) 68 #[.int .i64 kd, .int .i64 0, .slice (some ⟨wn.heap.size, 0, none⟩) 2 2] := by rw [hwx, <- hwrs]; exact Blk.new _ _ _
     have bx : Below wr.heap.size wr wx := by rw [hwx]; exact ze _ _
     have hszx : wr.heap.size <= wx.heap.size := bx.size
     have hszr : wn.heap.size <= wr.heap.size := br.size
     have bnx : Below wn.heap.size wn wx := zf br bx
     have HX := Lib.hid ((Hn.out.go hgl (Hn.out.rdr.below bnx Hn.out.rdr.lt) (zl.of_below bnx)))
     have HO2 := Lib.hid ((ho2.below bx (Nat.le_of_eq hwrs.symm)).mono (Nat.le_refl _) (show wn.heap.size + 1 <= wx.heap.size by omega))
     have x0 : wx.cell? ⟨wn.heap.size + 1, 0, none⟩ = some (.int .i64 kd) := ox.cell 0
     have x1 : wx.cell? ⟨wn.heap.size + 1, 1, none⟩ = some (.int .i64 0) := ox.cell 1
     have x2 : wx.cell? ⟨wn.heap.size + 1, 2, none⟩ = some (.slice (some ⟨wn.heap.size, 0, none⟩) 2 2) := ox.cell 2
     rw [<- hwx]
     clear hwx hwrs hsze ox bx bnx br ho2
     go_wp2_with (at_builtin; refine wpList_append_lies _ rfl (.tmp 60) (.tmp 62) 64 rfl w.heap.size 68 i0 (.agg #[.int .i64 0, .int .i64 0, .slice none 0 0]) 3 40 Tryz.underlying64 hi0 hz0 hz1 hz2 rfl (by decide) (.slice A' ls.length c') ls.length (zcO ls us) rfl ?d1 ⟨_, 0, none⟩ 1 1 [.int .i64 kd, .int .i64 0, .slice (some ⟨wn.heap.size, 0, none⟩) 2 2] rfl rfl (World.news_of_block (cs := #[.int .i64 kd, .int .i64 0, .slice (some ⟨wn.heap.size, 0, none⟩) 2 2]) (heap_alloc_new wx _)) ?d2 (by omega) (by unfold maxLen; omega) (by omega) ?d3 _ rfl ?_)
     case d1 => exact HX.out.col.row.alloc _
     case d2 => intro u hu; simp at hu; rcases hu with rfl | rfl | rfl <;> rfl
     case d3 => simp; omega
     intro gz capz wz hownz hgrz _ _
     have HZ := Lib.hid (HX.out.push (l := (kd, ((0 : Int), [(-1 : Int), z]))) ⟨HKD.out.1, HKD.out.2, HZT.out⟩ hgl HO2.out hgrz hownz)
     have htz := zfI ls (kd, ((0 : Int), [(-1 : Int), z]))
     simp only [List.length_cons, List.length_nil] at htz
     have HT := Lib.hid htz
     clear htz hownz hgrz
     go_wp2_with (fail)
     go_ret
     exact ⟨_, _, _, _, _, (by rw [List.length_append]; rfl), (by rw [List.length_append]; show ls.length + 1 <= 4; omega), (by have := HT.out; omega), by omega, HZ.out⟩
    ·have hyb : (yc == 0) = false := by simp [hyc]
     clear hyc
     go_wp2_with (fail)
     go_ret
     exact ⟨_, _, ls, us, _, rfl, by omega, by omega, by omega, Htc.out⟩
open Go.RowKit
theorem zmj (g : Nat) (bs : List Nat) (p lo hi n : Nat) (no : Int) (v : Value) (ar : List Int) (w : World) (h : Rdr w g bs p) (hp : p <= 1048500) (ha : zg w lo hi v ar) (hg : g < lo) (hh : hi <= w.heap.size) (hr : ∀ x ∈ ar, 0 <= x /\ x <= 2) (h0 : 0 < ar.length) (hl : ar.length <= 1048576) (hn : n <= 3) :
 Calls Tryz.prog 177 #[.pointer (some ⟨g, 0, none⟩), v, .int .i64 n, .int .i64 no] w fun e w' => ∃ (A : Option Addr) (c : Nat) (ls : List zC) (q : Nat), e = .returned (.slice A ls.length c) /\ ls.length <= 4 /\ zbB ls <= 8 /\ zaL ls /\ q <= p + 40 /\ zW w' w.heap.size w'.heap.size (.slice A ls.length c) ls /\ Rdr w' g bs q /\ zl g (g + 1) w w' :=
 (zmk g bs p lo hi n no v ar w h hp ha hg hh hr h0 hl hn).mono fun _ _ ⟨A, c, ls, _, q, e, h1, h2, h3, hd⟩ => ⟨A, c, ls, q, e, h1, h2, hd.kinds, h3, hd.col.lits hd.col.cap, hd.rdr, hd.only⟩
structure zkI (w wr : World) (g : Nat) (bs : List Nat) (q : Nat) : Prop where
 res : Blk wr w.heap.size 66 #[.int .i64 0, .slice none 0 0, .slice none 0 0]
 rdr : Rdr wr g bs q
 only : zl g (g + 1) w wr
section
variable {w wr w' : World} {g q : Nat} {bs : List Nat}
theorem zkI.start (h : Rdr w g bs q) : zkI w (w.alloc (.cells #[.int .i64 0, .slice none 0 0, .slice none 0 0] 66)) g bs q :=
 ⟨Blk.new _ _ _, h.below (ze _ _) h.lt, zl.of_below (ze _ _)⟩
theorem zkI.go (h : zkI w wr g bs q) (hg : g < w.heap.size) {q' : Nat} (hr : Rdr w' g bs q') (ho : zl g (g + 1) wr w') : zkI w w' g bs q' :=
 ⟨h.res.only ho (.inr (by omega)), hr, h.only.trans ho⟩
theorem zkI.done {m : Nat} {ls : List zC} {xs : List Int} {a b : Value} (h : zkI w wr g bs q) (hg : g < w.heap.size) (x : Value) (hm : w.heap.size + 1 <= m) (ha : zg wr (w.heap.size + 1) m a xs) (hb : zW wr m wr.heap.size b ls)
 (hw : w' = ((wr.setCell ⟨w.heap.size, 0, none⟩ x).setCell ⟨w.heap.size, 1, none⟩ a).setCell ⟨w.heap.size, 2, none⟩ b) :
 zg w' w.heap.size m a xs /\ zW w' m w'.heap.size b ls /\ Rdr w' g bs q /\ zl g (g + 1) w w' /\ Blk w' w.heap.size 66 #[x, a, b] /\ w.heap.size <= m /\ wr.heap.size = w'.heap.size := by
 subst hw
 obtain ⟨W, hW⟩ : ∃ W, W = ((wr.setCell ⟨w.heap.size, 0, none⟩ x).setCell ⟨w.heap.size, 1, none⟩ a).setCell ⟨w.heap.size, 2, none⟩ b := ⟨_, rfl⟩
 rw [<- hW]
 have hk : ∀ k, k ≠ w.heap.size -> W.heap[k]? = wr.heap[k]? := fun k hk => by
  rw [hW]
  exact ((Below.heap_setCell _ _ _ k hk).trans (Below.heap_setCell _ _ _ k hk)).trans (Below.heap_setCell _ _ _ k hk)
 have hsz : W.heap.size = wr.heap.size := by rw [hW]; simp
 have hblk : Blk W w.heap.size 66 #[x, a, b] := by
  have := ((h.res.set_ 0 x).set_ 1 a).set_ 2 b
  rw [hW]
  simpa using this
 refine ⟨?_, ?_, h.rdr.same fun k hk' => hk k (by omega), ⟨?_, ?_, ?_, by rw [hsz]; exact h.only.size, fun k hk' hn => (hk k (by omega)).trans (h.only.block k hk' hn)⟩, hblk, by omega, hsz.symm⟩
 ·exact (ha.keep fun k h1 h2 => hk k (by omega)).mono (Nat.le_succ _) (Nat.le_refl _)
 ·rw [hsz]
  exact hb.keep fun k h1 h2 => hk k (by omega)
 ·rw [hW]; exact h.only.os
 ·rw [hW]; exact h.only.tape
 ·rw [hW]; exact h.only.output
theorem zW.none0 (w : World) (lo hi : Nat) : zW w lo hi (.slice none 0 0) [] := ⟨none, 0, rfl, Nat.le_refl _, fun h => absurd h (by simp)⟩
end
set_option maxHeartbeats 4000000 in
theorem ziN (g : Nat) (bs : List Nat) (p lo hi fr : Nat) (no : Int) (v : Value) (ar : List Int) (w : World) (h : Rdr w g bs p) (hp : p <= 1048000) (ha : zg w lo hi v ar) (hg : g < lo) (hh : hi <= w.heap.size) (hr : ∀ x ∈ ar, 0 <= x /\ x <= 2) (hf : fr < ar.length) (hl : ar.length <= 1048576) :
 Calls Tryz.prog 157 #[.pointer (some ⟨g, 0, none⟩), v, .int .i64 fr, .int .i64 no] w fun e w' => ∃ (a b : Value) (r : zJ) (q m : Nat), e = .returned (.agg #[.int .i64 r.1.1, a, b]) /\ r.1.2.length <= 2 /\ r.2.length <= 4 /\ zbB r.2 <= 8 /\ zaL r.2 /\ q <= p + 300 /\ w.heap.size <= m /\ m <= w'.heap.size /\
  zg w' w.heap.size m a r.1.2 /\ zW w' m w'.heap.size b r.2 /\ Rdr w' g bs q /\ zl g (g + 1) w w' := by
 have H := Lib.hid h
 have hgl := h.lt
 have HA := Lib.hid ha
 have HRG := Lib.hid hr
 obtain ⟨A0, c0, hv0⟩ := ha.form
 subst hv0
 clear h ha hr
 obtain ⟨d, hd1, hd2, hd3⟩ : ∃ d : Nat, IntKind.i64.wrap ((ar.length : Int) - (fr : Int)) = (d : Int) /\ 0 < d /\ fr + d <= ar.length := ⟨ar.length - fr, by unfold IntKind.wrap; simp [IntKind.bits, IntKind.signed]; omega, by omega, by omega⟩
 have CD := Lib.hid (fun (W : World) (q j n : Nat) (hR : Rdr W g bs q) (hq : q <= 1048576) (hO : zl g (g + 1) w W) (hj : j < ar.length) (hn : n <= 3) => ziO g bs q lo hi j ar[j].toNat n (.slice A0 ar.length c0) ar W hR hq (HA.out.only hO (.inr (by omega))) hg (Nat.le_trans hh hO.size) hj (by have := HRG.out _ (List.getElem_mem hj); omega) (by have := HRG.out _ (List.getElem_mem hj); omega) hl hn)
 have CB := Lib.hid (fun (W : World) (q n : Nat) (hR : Rdr W g bs q) (hq : q <= 1048500) (hO : zl g (g + 1) w W) (hn : n <= 3) => zmj g bs q lo hi n no (.slice A0 ar.length c0) ar W hR hq (HA.out.only hO (.inr (by omega))) hg (Nat.le_trans hh hO.size) HRG.out (by omega) hl hn)
 have HS := Lib.hid (zkI.start H.out)
 go_enter Tryz.func157, Tryz.ntmps157
 go_wp2_with (fail)
 go_loopw [9] (fun i wr => ∃ (k q : Nat), k <= 6 /\ i = .int .i64 k /\ q <= p + 48 * k /\ zkI w wr g bs q) (fun i _ => 6 - (intOf i).toNat)
 case atStart => exact ⟨0, p, by omega, rfl, by omega, HS.out⟩
 case round =>
  obtain ⟨k, q, hk, rfl, hq, hr⟩ := hrel
  have HR := Lib.hid hr
  have hszr0 := hr.only.size
  clear hr
  by_cases hlt : k < 6
  ·have hkb : decide ((k : Int) < 6) = true := by simp; omega
   go_wp2_with (fail)
   refine (zak g bs q 3 _ HR.out.rdr (by omega) (by omega)).mono ?_
   rintro e w1 ⟨⟨x, rfl, hx⟩, hp1⟩
   have hxr : 0 <= x /\ x < 3 := hx.1 (by omega)
   obtain ⟨vs, hvs, hvs3⟩ : ∃ vs : Nat, IntKind.i64.wrap (1 + x) = (vs : Int) /\ vs <= 3 := ⟨(1 + x).toNat, by unfold IntKind.wrap; simp [IntKind.bits, IntKind.signed]; omega, by omega⟩
   have H1 := Lib.hid (HR.out.go hgl hp1.1 hp1.2)
   clear hp1 hx
   go_wp2_with (fail)
   refine (zak g bs (q + 1) d _ H1.out.rdr (by omega) (by omega)).mono ?_
   rintro e w2 ⟨⟨y, rfl, hy⟩, hp2⟩
   have hyr : 0 <= y /\ y < d := hy.1 (by omega)
   obtain ⟨j, hj1, hj2⟩ : ∃ j : Nat, IntKind.i64.wrap ((fr : Int) + y) = (j : Int) /\ j < ar.length := ⟨((fr : Int) + y).toNat, by unfold IntKind.wrap; simp [IntKind.bits, IntKind.signed]; omega, by omega⟩
   have H2 := Lib.hid (H1.out.go hgl hp2.1 hp2.2)
   have hsz2 : w.heap.size + 1 <= w2.heap.size := H2.out.res.lt
   clear hp2 hy
   go_wp2_with (fail)
   refine (CD.out w2 (q + 1 + 1) j vs H2.out.rdr (by omega) H2.out.only hj2 (by omega)).mono ?_
   rintro e w3 ⟨A, c, xs, q3, rfl, ⟨hxs, _⟩, hq3, ho3, hr3, hO3⟩
   have H3 := Lib.hid (H2.out.go hgl hr3 hO3)
   have HO3 := Lib.hid (ho3.mono hsz2 (Nat.le_refl _))
   have hsz3 : w.heap.size + 1 <= w3.heap.size := H3.out.res.lt
   clear ho3 hr3 hO3
   go_wp2_with (fail)
   refine (CB.out w3 q3 vs H3.out.rdr (by omega) H3.out.only (by omega)).mono ?_
   rintro e w4 ⟨Ab, cb, ls, q4, rfl, hls, htl, hkd, hq4, ho4, hr4, hO4⟩
   have HKD := Lib.hid hkd
   clear hkd
   have H4 := Lib.hid (H3.out.go hgl hr4 hO4)
   have HO4 := Lib.hid (And.intro (HO3.out.only hO4 (.inr (by omega))) (And.intro ho4 hO4.size))
   have hm3 : w.heap.size + 1 <= w3.heap.size := hsz3
   have hsz4 : w.heap.size + 1 <= w4.heap.size := H4.out.res.lt
   clear ho4 hr4 hO4
   go_wp2_with (fail)
   obtain ⟨wx, hwx⟩ : ∃ wx, wx = w4.alloc (.cells #[.int .i64 (j : Int), .slice A xs.length c, .slice Ab ls.length cb] 66) := ⟨_, rfl⟩
   have ox : Blk wx w4.heap.size 66 #[.int .i64 (j : Int), .slice A xs.length c, .slice Ab ls.length cb] := by rw [hwx]; exact Blk.new _ _ _
   have bx : Below w4.heap.size w4 wx := by rw [hwx]; exact ze _ _
   rw [<- hwx]
   have HRR := Lib.hid (show zdX wx wx.heap.size (.agg #[.int .i64 (j : Int), .slice A xs.length c, .slice Ab ls.length cb]) (((j : Int), xs), ls) from ⟨_, _, rfl, ((HO4.out.1.below bx HO4.out.2.2).mono (Nat.le_refl _) (Nat.le_trans HO4.out.2.2 bx.size)).rd, ((HO4.out.2.1.below bx (Nat.le_refl _)).mono (Nat.le_refl _) bx.size).rd⟩)
   clear hwx
   refine (zex _ (((j : Int), xs), ls) wx HRR.out (by show xs.length + (ls.length + zbB ls) <= 1048576; omega)).mono ?_
   rintro e w5 ⟨rfl, hb5⟩
   have b5 : Below w4.heap.size w4 w5 := zf bx hb5
   have H5 := Lib.hid (H4.out.go hgl (H4.out.rdr.below b5 H4.out.rdr.lt) (zl.of_below b5))
   have HO5 := Lib.hid (And.intro (HO4.out.1.below b5 HO4.out.2.2) (And.intro ((HO4.out.2.1.below b5 (Nat.le_refl _)).mono (Nat.le_refl _) b5.size) (Nat.le_trans HO4.out.2.2 b5.size)))
   have o5 := ox.below hb5 ox.lt
   have x0 : w5.cell? ⟨w4.heap.size, 0, none⟩ = some (.int .i64 (j : Int)) := o5.cell 0
   have x1 : w5.cell? ⟨w4.heap.size, 1, none⟩ = some (.slice A xs.length c) := o5.cell 1
   have x2 : w5.cell? ⟨w4.heap.size, 2, none⟩ = some (.slice Ab ls.length cb) := o5.cell 2
   have j0 : w5.cell? ⟨w.heap.size, 0, none⟩ = some (.int .i64 0) := H5.out.res.cell 0
   have j1 : w5.cell? ⟨w.heap.size, 1, none⟩ = some (.slice none 0 0) := H5.out.res.cell 1
   have j2 : w5.cell? ⟨w.heap.size, 2, none⟩ = some (.slice none 0 0) := H5.out.res.cell 2
   have l0 := H5.out.res.frozen 0
   have l1 := H5.out.res.frozen 1
   have l2 := H5.out.res.frozen 2
   obtain ⟨sb, hsb⟩ : ∃ sb, sb = zb0 (((j : Int), xs), ls) := ⟨_, rfl⟩
   rw [<- hsb]
   clear hsb b5 hb5 ox bx o5
   cases sb with
   | true =>
    go_wp2_with (fail)
    obtain ⟨W, hW⟩ : ∃ W, W = ((w5.setCell ⟨w.heap.size, 0, none⟩ (.int .i64 (j : Int))).setCell ⟨w.heap.size, 1, none⟩ (.slice A xs.length c)).setCell ⟨w.heap.size, 2, none⟩ (.slice Ab ls.length cb) := ⟨_, rfl⟩
    rw [<- hW]
    obtain ⟨e1, e2, e3, e4, e5, e6, e7⟩ := H5.out.done hgl (.int .i64 (j : Int)) hm3 HO5.out.1 HO5.out.2.1 hW
    have e8 : w3.heap.size <= W.heap.size := by rw [<- e7]; exact HO5.out.2.2
    have d0 := e5.cell 0
    have d1 := e5.cell 1
    have d2 := e5.cell 2
    refine bodyPost_ret (v := .agg #[.int .i64 (j : Int), .slice A xs.length c, .slice Ab ls.length cb]) (by simp [results, Tryz.results157, go_sem, d0, d1, d2]) rfl ?_
    exact ⟨_, _, (((j : Int), xs), ls), q4, _, rfl, hxs, hls, htl, HKD.out, by omega, e6, e8, e1, e2, e3, e4⟩
   | false =>
    go_wp2_with (fail)
    go_roundw
    case rel => exact ⟨k + 1, q4, by omega, by go_num, by omega, H5.out⟩
    case measure => simp [intOf]; omega
  ·have hk6 : k = 6 := by omega
   subst hk6
   go_wp2_with (fail)
   refine (CD.out wr q fr 0 HR.out.rdr (by omega) HR.out.only hf (by omega)).mono ?_
   rintro e w4 ⟨A, c, xs, q4, rfl, ⟨hxs, _⟩, hq4, ho4, hr4, hO4⟩
   have H4 := Lib.hid (HR.out.go hgl hr4 hO4)
   have HO4 := Lib.hid (ho4.mono HR.out.res.lt (Nat.le_refl _))
   have j0 : w4.cell? ⟨w.heap.size, 0, none⟩ = some (.int .i64 0) := H4.out.res.cell 0
   have j1 : w4.cell? ⟨w.heap.size, 1, none⟩ = some (.slice none 0 0) := H4.out.res.cell 1
   have j2 : w4.cell? ⟨w.heap.size, 2, none⟩ = some (.slice none 0 0) := H4.out.res.cell 2
   have l0 := H4.out.res.frozen 0
   have l1 := H4.out.res.frozen 1
   have l2 := H4.out.res.frozen 2
   clear ho4 hr4 hO4
   go_wp2_with (fail)
   obtain ⟨W, hW⟩ : ∃ W, W = ((w4.setCell ⟨w.heap.size, 0, none⟩ (.int .i64 (fr : Int))).setCell ⟨w.heap.size, 1, none⟩ (.slice A xs.length c)).setCell ⟨w.heap.size, 2, none⟩ (.slice none 0 0) := ⟨_, rfl⟩
   rw [<- hW]
   obtain ⟨e1, e2, e3, e4, e5, e6, e7⟩ := H4.out.done hgl (.int .i64 (fr : Int)) H4.out.res.lt HO4.out (zW.none0 _ _ _) hW
   have d0 := e5.cell 0
   have d1 := e5.cell 1
   have d2 := e5.cell 2
   refine bodyPost_ret (v := .agg #[.int .i64 (fr : Int), .slice A xs.length c, .slice none 0 0]) (by simp [results, Tryz.results157, go_sem, d0, d1, d2]) rfl ?_
   exact ⟨_, _, (((fr : Int), xs), []), q4, _, rfl, hxs, by simp, by simp [zbB], zaL.nil, by omega, e6, Nat.le_of_eq e7, e1, e2, e3, e4⟩
open Go.RowKit
abbrev Ent := zJ × Value × Value
def zaf : List Ent -> List Value
 | [] => []
 | e :: es => .int .i64 e.1.1.1 :: e.2.1 :: e.2.2 :: zaf es
theorem zcu : ∀ (es : List Ent) (k : Nat) (hk : k < es.length), (zaf es)[k * 3]? = some (.int .i64 es[k].1.1.1) /\ (zaf es)[k * 3 + 1]? = some es[k].2.1 /\ (zaf es)[k * 3 + 2]? = some es[k].2.2
 | [], k, hk => absurd hk (by simp)
 | e :: es, 0, _ => by simp [zaf]
 | e :: es, k + 1, hk => by
  have := zcu es k (by simpa using hk)
  simpa [zaf, Nat.add_mul] using this
theorem zgQ : ∀ (es : List Ent) (e : Ent), zaf (es ++ [e]) = zaf es ++ [.int .i64 e.1.1.1, e.2.1, e.2.2]
 | [], e => by simp [zaf]
 | x :: es, e => by simp [zaf, zgQ es e]
structure ze9 (base : Nat) (wr : World) (ob : Option Nat) (e : Ent) (lo mid hi : Nat) : Prop where
 low : base <= lo
 lm : lo <= mid
 mh : mid <= hi
 high : hi <= wr.heap.size
 off : ∀ b, ob = some b -> b < lo \/ hi <= b
 head : zg wr lo mid e.2.1 e.1.1.2
 body : zW wr mid hi e.2.2 e.1.2
theorem ze9.keep {base lo mid hi : Nat} {wr w2 : World} {ob ob2 : Option Nat} {e : Ent} (h : ze9 base wr ob e lo mid hi) (hs : hi <= w2.heap.size) (hk : ∀ k, lo <= k -> k < hi -> w2.heap[k]? = wr.heap[k]?) (ho : ∀ b, ob2 = some b -> b < lo \/ hi <= b) : ze9 base w2 ob2 e lo mid hi :=
 ⟨h.low, h.lm, h.mh, hs, ho, h.head.keep fun k k1 k2 => hk k k1 (by have := h.mh; omega), h.body.keep fun k k1 k2 => hk k (by have := h.lm; omega) k2⟩
structure zbF (base : Nat) (wr : World) (es : List Ent) (A : Option Addr) (c : Nat) : Prop where
 own : ∃ lo mid hi : Nat -> Nat, (∀ i (h : i < es.length), ze9 base wr (Value.slice A es.length c).ownBlock es[i] (lo i) (mid i) (hi i)) /\ ∀ i j, i < j -> j < es.length -> hi i <= lo j
 row : wr.ownsRow base 66 3 (.slice A es.length c) es.length (zaf es)
section
variable {base g g2 cp : Nat} {wr w2 w4 : World} {es : List Ent} {A : Option Addr} {c : Nat}
theorem zbF.nil (base : Nat) (w : World) : zbF base w [] none 0 := ⟨⟨fun _ => 0, fun _ => 0, fun _ => 0, fun i h => absurd h (by simp), fun i j _ h => absurd h (by simp)⟩, by simpa [zaf] using World.ownsRow_nil w base 66 3⟩
theorem zbF.keep (h : zbF base wr es A c) (hs : wr.heap.size <= w2.heap.size) (hk : ∀ k, base <= k -> k < wr.heap.size -> w2.heap[k]? = wr.heap[k]?) : zbF base w2 es A c := by
 obtain ⟨lo, mid, hi, h1, h2⟩ := h.own
 refine ⟨⟨lo, mid, hi, fun i hi => ?_, h2⟩, zw h.row fun b hb => hk b (h.row.lt b hb).1 (h.row.lt b hb).2⟩
 have e := h1 i hi
 exact e.keep (by have := e.high; omega) (fun k k1 k2 => hk k (by have := e.low; omega) (by have := e.high; omega)) e.off
theorem zbF.only (h : zbF base wr es A c) (ho : zl g (g + 1) wr w2) (hg : g < base) : zbF base w2 es A c :=
 h.keep ho.size fun k k1 k2 => ho.block k k2 (by omega)
theorem zbF.below (h : zbF base wr es A c) (hb : Below wr.heap.size wr w2) : zbF base w2 es A c :=
 h.keep hb.size fun k _ k2 => hb.block k k2
theorem zbF.push {e : Ent} {o : Obj} {m : Nat} (h : zbF base wr es A c) (hb : base <= wr.heap.size) (ho : zl g (g + 1) wr w2) (hg : g < base) (hm1 : wr.heap.size <= m) (hm2 : m <= w2.heap.size) (hu : zg w2 wr.heap.size m e.2.1 e.1.1.2) (hv : zW w2 m w2.heap.size e.2.2 e.1.2)
 (hgr : (w2.alloc o).grownBy w4 (Value.slice A es.length c).ownBlock) (hat : (Value.slice A es.length c).ownBlock = some g2 \/ g2 = (w2.alloc o).heap.size)
 (hown : w4.ownsRow base 66 3 (.slice (some ⟨g2, 0, none⟩) (es.length + 1) cp) (es.length + 1) (zaf es ++ [.int .i64 e.1.1.1, e.2.1, e.2.2])) :
 zbF base w4 (es ++ [e]) (some ⟨g2, 0, none⟩) cp := by
 have hg2 := zy hgr
 have h2 := h.only ho hg
 have hl : (es ++ [e]).length = es.length + 1 := by simp
 have hs : (w2.alloc o).heap.size = w2.heap.size + 1 := by simp
 have hsz := ho.size
 have hsz4 := hg2.size
 have hnew : ∀ lo hi, hi <= w2.heap.size -> (∀ b, (Value.slice A es.length c).ownBlock = some b -> b < lo \/ hi <= b) -> ∀ b, (Value.slice (some ⟨g2, 0, none⟩) (es.length + 1) cp).ownBlock = some b -> b < lo \/ hi <= b := fun lo hi h1 h3 b hb' => by
  have e1 : g2 = b := by simpa [Value.ownBlock] using hb'
  subst e1
  rcases hat with hat | hat
  ·exact h3 _ hat
  ·right; omega
 have hkp : ∀ lo hi, hi <= w2.heap.size -> (∀ b, (Value.slice A es.length c).ownBlock = some b -> b < lo \/ hi <= b) -> ∀ k, lo <= k -> k < hi -> w4.heap[k]? = w2.heap[k]? := fun lo hi h1 h3 k k1 k2 =>
  hg2.block k (by omega) (fun e => by have := h3 k e.symm; omega)
 obtain ⟨lo, mid, hi, q1, q2⟩ := h.own
 have q3 : ∀ i (h : i < es.length), ze9 base w2 (Value.slice A es.length c).ownBlock es[i] (lo i) (mid i) (hi i) := fun i hi => by
  have e := q1 i hi
  exact e.keep (by have := e.high; omega) (fun k k1 k2 => ho.block k (by have := e.high; omega) (by have := e.low; omega)) e.off
 refine ⟨⟨fun i => if i < es.length then lo i else wr.heap.size, fun i => if i < es.length then mid i else m, fun i => if i < es.length then hi i else w2.heap.size, fun i hi => ?_, fun i j hij hj => ?_⟩, ?_⟩
 ·rw [hl]
  by_cases e' : i < es.length
  ·rw [List.getElem_append_left e']
   simp only [if_pos e']
   have x := q3 i e'
   exact x.keep (by have := x.high; omega) (hkp _ _ x.high x.off) (hnew _ _ x.high x.off)
  ·have e2 : i = es.length := by rw [hl] at hi; omega
   subst e2
   simp only [if_neg e']
   have h5 : ∀ b, (Value.slice A es.length c).ownBlock = some b -> b < wr.heap.size \/ w2.heap.size <= b := fun b hb' => .inl (h.row.lt b hb').2
   have e3 : (es ++ [e])[es.length] = e := by simp
   rw [e3]
   have x : ze9 base w2 (Value.slice A es.length c).ownBlock e wr.heap.size m w2.heap.size := ⟨hb, hm1, hm2, Nat.le_refl _, h5, hu, hv⟩
   exact x.keep (by omega) (hkp _ _ x.high x.off) (hnew _ _ x.high x.off)
 ·rw [hl] at hj
  by_cases e' : j < es.length
  ·simp only [if_pos e', if_pos (show i < es.length by omega)]
   exact q2 i j hij e'
  ·simp only [if_neg e', if_pos (show i < es.length by omega)]
   exact (q1 i (by omega)).high
 ·rw [hl, zgQ es e]
  exact hown
theorem zbF.capOk (h : zbF base wr es A c) : es.length <= c := by
 rcases h.row.2 with ⟨e, h0⟩ | ⟨g, cq, cur, e, hb, hgg, hn, _⟩
 ·injection e with _ _ e
  omega
 ·injection e with _ _ e
  omega
theorem zbF.rules (h : zbF base wr es A c) : zaY wr base wr.heap.size (.slice A es.length c) (es.map (·.1)) := by
 have hcells := @World.ownsRow.cells wr base 66 3 (.slice A es.length c) es.length (zaf es) h.row
 have hlt := h.row.lt
 have hn := h.capOk
 have hml : (es.map (·.1)).length = es.length := by simp
 refine ⟨A, c, by rw [hml], by rw [hml]; exact hn, fun hpos => ?_⟩
 rcases h.row.2 with ⟨e, h0⟩ | ⟨g, cq, cur, e, hb, hgg, _⟩
 ·omega
 ·injection e with e1 _ e3
  subst e1
  refine ⟨g, 0, rfl, hb, (hlt g rfl).2, fun k hk => ⟨⟨by simp [World.frozen?, hgg], by simp [World.frozen?, hgg]⟩, ?_⟩⟩
  rw [hml] at hk
  obtain ⟨c0, c1, c2⟩ := zcu es k hk
  have d0 := hcells (g := g) rfl _ _ c0
  have d1 := hcells (g := g) rfl _ _ c1
  have d2 := hcells (g := g) rfl _ _ c2
  rw [Go.WideShapes.add_plain] at d0 d1 d2
  obtain ⟨lo, mid, hi, q1, _⟩ := h.own
  have x := q1 k hk
  refine ⟨_, _, _, d0, d1, d2, ?_⟩
  simp only [List.getElem_map]
  exact ⟨rfl, x.head.mono x.low (by have := x.mh; have := x.high; omega), x.body.mono (by have := x.low; have := x.lm; omega) x.high⟩
end
open Go.RowKit
structure Pg1 (w wr : World) (g : Nat) (bs : List Nat) (q : Nat) (A : Option Addr) (c : Nat) (ar : List Int) : Prop where
 res : Blk wr w.heap.size 26 #[.slice none 0 0, .slice none 0 0]
 prg : Blk wr (w.heap.size + 2) 26 #[.slice A ar.length c, .slice none 0 0]
 own : wr.ownsRow (w.heap.size + 1) 3 1 (.slice A ar.length c) ar.length (ar.map (Value.int .i64))
 rdr : Rdr wr g bs q
 only : zl g (g + 1) w wr
section
variable {w wr w' w4 : World} {g q : Nat} {bs : List Nat} {A : Option Addr} {c : Nat} {ar : List Int}
theorem Pg1.start (h : Rdr w g bs q) : Pg1 w (((w.alloc (.cells #[.slice none 0 0, .slice none 0 0] 26)).alloc (.cells #[.int .i64 2, .int .i64 1] 3)).alloc (.cells #[.slice (some ⟨w.heap.size + 1, 0, none⟩) 2 2, .slice none 0 0] 26)) g bs q (some ⟨w.heap.size + 1, 0, none⟩) 2 [2, 1] := by
 have hb : Below w.heap.size w (((w.alloc (.cells #[.slice none 0 0, .slice none 0 0] 26)).alloc (.cells #[.int .i64 2, .int .i64 1] 3)).alloc (.cells #[.slice (some ⟨w.heap.size + 1, 0, none⟩) 2 2, .slice none 0 0] 26)) := zf (zf (ze _ _) (ze _ _)) (ze _ _)
 refine ⟨((Blk.new _ _ _).alloc _).alloc _, ?_, ?_, h.below hb h.lt, zl.of_below hb⟩
 ·have := Blk.new ((w.alloc (.cells #[.slice none 0 0, .slice none 0 0] 26)).alloc (.cells #[.int .i64 2, .int .i64 1] 3)) 26 #[.slice (some ⟨w.heap.size + 1, 0, none⟩) 2 2, .slice none 0 0]
  simpa using this
 ·have := (zgs (w.alloc (.cells #[.slice none 0 0, .slice none 0 0] 26)) (w.heap.size + 1) 2 1 (by simp)).1
  simp only [World.size_alloc] at this
  exact this.alloc _
theorem Pg1.go (h : Pg1 w wr g bs q A c ar) (hg : g < w.heap.size) {q' : Nat} (hr : Rdr w' g bs q') (ho : zl g (g + 1) wr w') : Pg1 w w' g bs q' A c ar :=
 ⟨h.res.only ho (.inr (by omega)), h.prg.only ho (.inr (by omega)), zw h.own fun b hb => ho.block b (h.own.lt b hb).2 (by have := (h.own.lt b hb).1; omega), hr, h.only.trans ho⟩
theorem Pg1.below (h : Pg1 w wr g bs q A c ar) (hg : g < w.heap.size) (hb : Below wr.heap.size wr w') : Pg1 w w' g bs q A c ar :=
 h.go hg (h.rdr.below hb (by have := h.only.size; omega)) (zl.of_below hb)
theorem Pg1.kept {o : Obj} (h : Pg1 w wr g bs q A c ar) (hgr : (wr.alloc o).grownBy w4 (Value.slice A ar.length c).ownBlock) : Blk w4 (w.heap.size + 2) 26 #[.slice A ar.length c, .slice none 0 0] :=
 ((zy hgr).block _ h.prg.lt (fun e => zbL h.own h.prg (by decide) e.symm)).trans h.prg
theorem Pg1.push {g2 cap : Nat} {x : Int} {o : Obj} (h : Pg1 w wr g bs q A c ar) (hgw : g < w.heap.size) (hgr : (wr.alloc o).grownBy w4 (Value.slice A ar.length c).ownBlock)
 (hown : w4.ownsRow (w.heap.size + 1) 3 1 (.slice (some ⟨g2, 0, none⟩) (ar.length + 1) cap) (ar.length + 1) (ar.map (Value.int .i64) ++ [.int .i64 x])) :
 Pg1 w (w4.setCell ⟨w.heap.size + 2, 0, none⟩ (.slice (some ⟨g2, 0, none⟩) (ar.length + 1) cap)) g bs q (some ⟨g2, 0, none⟩) cap (ar ++ [x]) := by
 have hg2 := zy hgr
 have hp := h.kept hgr
 have hl : (ar ++ [x]).length = ar.length + 1 := by simp
 have hne : g2 ≠ w.heap.size + 2 := fun e => zbL hown hp (by decide) (by simp [Value.ownBlock, e])
 have hlow : ∀ b, b < w.heap.size + 1 -> w4.heap[b]? = wr.heap[b]? := fun b hb => hg2.block b (by have := h.res.lt; omega) (fun e => by have := (h.own.lt b e.symm).1; omega)
 have hset : ∀ k, k ≠ w.heap.size + 2 -> (w4.setCell ⟨w.heap.size + 2, 0, none⟩ (.slice (some ⟨g2, 0, none⟩) (ar.length + 1) cap)).heap[k]? = w4.heap[k]? := fun k hk => Below.heap_setCell _ _ _ k hk
 refine ⟨(hset _ (by omega)).trans ((hlow _ (by omega)).trans h.res), ?_, ?_, h.rdr.same fun k hk => (hset k (by omega)).trans (hlow k (by omega)), ⟨hg2.os.trans h.only.os, hg2.tape.trans h.only.tape, hg2.output.trans h.only.output, by have := h.only.size; have := hg2.size; simp; omega, fun b hb hn => (hset b (by omega)).trans ((hlow b (by omega)).trans (h.only.block b hb hn))⟩⟩
 ·rw [hl]
  simpa using hp.set_ 0 (.slice (some ⟨g2, 0, none⟩) (ar.length + 1) cap)
 ·rw [hl, List.map_append]
  exact zw hown fun b hb => hset b (by have e1 : g2 = b := by simpa [Value.ownBlock] using hb
                                       omega)
end
structure Pg2 (w wr : World) (B g : Nat) (bs : List Nat) (q : Nat) (A : Option Addr) (c : Nat) (ar : List Int) (Ar : Option Addr) (cr : Nat) (es : List Ent) : Prop where
 res : Blk wr w.heap.size 26 #[.slice none 0 0, .slice none 0 0]
 prg : Blk wr (w.heap.size + 2) 26 #[.slice A ar.length c, .slice Ar es.length cr]
 own : zg wr (w.heap.size + 1) B (.slice A ar.length c) ar
 rules : zbF B wr es Ar cr
 low : w.heap.size + 2 < B
 high : B <= wr.heap.size
 rdr : Rdr wr g bs q
 only : zl g (g + 1) w wr
section
variable {w wr w' w2 w4 : World} {g q B : Nat} {bs : List Nat} {A Ar : Option Addr} {c cr : Nat} {ar : List Int} {es : List Ent}
theorem Pg1.two (h : Pg1 w wr g bs q A c ar) : Pg2 w wr wr.heap.size g bs q A c ar none 0 [] :=
 ⟨h.res, h.prg, ⟨h.own, fun b hb => (h.own.lt b hb).2⟩, zbF.nil _ _, h.prg.lt, Nat.le_refl _, h.rdr, h.only⟩
theorem Pg2.go (h : Pg2 w wr B g bs q A c ar Ar cr es) (hg : g < w.heap.size) {q' : Nat} (hr : Rdr w' g bs q') (ho : zl g (g + 1) wr w') : Pg2 w w' B g bs q' A c ar Ar cr es :=
 ⟨h.res.only ho (.inr (by omega)), h.prg.only ho (.inr (by omega)), h.own.only ho (.inr (by omega)), h.rules.only ho (by have := h.low; omega), h.low, Nat.le_trans h.high ho.size, hr, h.only.trans ho⟩
theorem Pg2.kept {o : Obj} (h : Pg2 w wr B g bs q A c ar Ar cr es) (hgr : (wr.alloc o).grownBy w4 (Value.slice Ar es.length cr).ownBlock) : ∀ b, b < B -> w4.heap[b]? = wr.heap[b]? :=
 fun b hb => (zy hgr).block b (by have := h.high; omega) (fun e => by have := (h.rules.row.lt b e.symm).1; omega)
theorem Pg2.push {g2 cap q2 m : Nat} {e : Ent} {o : Obj} (h : Pg2 w wr B g bs q A c ar Ar cr es) (hgw : g < w.heap.size) (hr : Rdr w2 g bs q2) (ho : zl g (g + 1) wr w2)
 (hm1 : wr.heap.size <= m) (hm2 : m <= w2.heap.size) (hu : zg w2 wr.heap.size m e.2.1 e.1.1.2) (hv : zW w2 m w2.heap.size e.2.2 e.1.2)
 (hgr : (w2.alloc o).grownBy w4 (Value.slice Ar es.length cr).ownBlock) (hat : (Value.slice Ar es.length cr).ownBlock = some g2 \/ g2 = (w2.alloc o).heap.size)
 (hown : w4.ownsRow B 66 3 (.slice (some ⟨g2, 0, none⟩) (es.length + 1) cap) (es.length + 1) (zaf es ++ [.int .i64 e.1.1.1, e.2.1, e.2.2])) :
 Pg2 w (w4.setCell ⟨w.heap.size + 2, 1, none⟩ (.slice (some ⟨g2, 0, none⟩) (es.length + 1) cap)) B g bs q2 A c ar (some ⟨g2, 0, none⟩) cap (es ++ [e]) := by
 have h2 := h.go hgw hr ho
 have hlow := h2.kept hgr
 have hB := h.low
 have hg2 := zy hgr
 have hl : (es ++ [e]).length = es.length + 1 := by simp
 have hset : ∀ k, k ≠ w.heap.size + 2 -> (w4.setCell ⟨w.heap.size + 2, 1, none⟩ (.slice (some ⟨g2, 0, none⟩) (es.length + 1) cap)).heap[k]? = w4.heap[k]? := fun k hk => Below.heap_setCell _ _ _ k hk
 have hp : Blk w4 (w.heap.size + 2) 26 #[.slice A ar.length c, .slice Ar es.length cr] := (hlow _ hB).trans h2.prg
 have hown4 : zg w4 (w.heap.size + 1) B (.slice A ar.length c) ar := h2.own.keep fun k _ k2 => hlow k k2
 have hcol := h.rules.push h.high ho (by omega) hm1 hm2 hu hv hgr hat hown
 have hsz : (w4.setCell ⟨w.heap.size + 2, 1, none⟩ (.slice (some ⟨g2, 0, none⟩) (es.length + 1) cap)).heap.size = w4.heap.size := by simp
 have hsz4 := hg2.size
 have hh2 := h2.high
 have hos := h2.only.size
 refine ⟨(hset _ (by omega)).trans ((hlow _ (by omega)).trans h2.res), ?_, hown4.kept fun b hb => hset b (fun e' => zbL hown4.1 hp (by decide) (by rw [<- e']; exact hb)), hcol.keep (by rw [hsz]; exact Nat.le_refl _) (fun k k1 _ => hset k (by omega)), hB, by rw [hsz]; omega,
  hr.same fun k hk => (hset k (by omega)).trans (hlow k (by omega)), ⟨hg2.os.trans h2.only.os, hg2.tape.trans h2.only.tape, hg2.output.trans h2.only.output, by rw [hsz]; omega, fun b hb hn => (hset b (by omega)).trans ((hlow b (by omega)).trans (h2.only.block b hb hn))⟩⟩
 rw [hl]
 simpa using hp.set_ 1 (.slice (some ⟨g2, 0, none⟩) (es.length + 1) cap)
theorem Pg2.set2 {ga : Nat} (h : Pg2 w wr B g bs q (some ⟨ga, 0, none⟩) c ar Ar cr es) (hg : g < w.heap.size) (hj : 2 < ar.length) (x : Int) : Pg2 w (wr.setCell ⟨ga, 2, none⟩ (.int .i64 x)) B g bs q (some ⟨ga, 0, none⟩) c (ar.set 2 x) Ar cr es := by
 have hb1 := (h.own.lt (g := ga) rfl).1
 have hb2 := (h.own.lt (g := ga) rfl).2.1
 have hne : ga ≠ w.heap.size + 2 := fun e => zbL h.own.1 h.prg (by decide) (by simp [Value.ownBlock, e])
 have hk : ∀ k, k ≠ ga -> (wr.setCell ⟨ga, 2, none⟩ (.int .i64 x)).heap[k]? = wr.heap[k]? := fun k hk => Below.heap_setCell _ _ _ k hk
 have hsz : (wr.setCell ⟨ga, 2, none⟩ (.int .i64 x)).heap.size = wr.heap.size := by simp
 have hl : (ar.set 2 x).length = ar.length := by simp
 refine ⟨(hk _ (by omega)).trans h.res, ?_, ?_, h.rules.keep (by rw [hsz]; exact Nat.le_refl _) (fun k k1 _ => hk k (by omega)), h.low, by rw [hsz]; exact h.high, h.rdr.same fun k hk' => hk k (by omega), ⟨h.only.os, h.only.tape, h.only.output, by rw [hsz]; exact h.only.size, fun k hk' hn => (hk k (by omega)).trans (h.only.block k hk' hn)⟩⟩
 ·rw [hl]
  exact (hk _ (by omega)).trans h.prg
 ·rw [hl]
  exact h.own.store rfl hj x
theorem Pg2.done (h : Pg2 w wr B g bs q A c ar Ar cr es) (hg : g < w.heap.size) (hw : w' = (wr.setCell ⟨w.heap.size, 0, none⟩ (.slice A ar.length c)).setCell ⟨w.heap.size, 1, none⟩ (.slice Ar es.length cr)) :
 w.heap.size <= B /\ B <= w'.heap.size /\ zg w' w.heap.size B (.slice A ar.length c) ar /\ zbF B w' es Ar cr /\ Rdr w' g bs q /\ zl g (g + 1) w w' /\ Blk w' w.heap.size 26 #[.slice A ar.length c, .slice Ar es.length cr] := by
 have hk : ∀ k, k ≠ w.heap.size -> w'.heap[k]? = wr.heap[k]? := fun k hk => by
  rw [hw]
  exact (Below.heap_setCell _ _ _ k hk).trans (Below.heap_setCell _ _ _ k hk)
 have hsz : w'.heap.size = wr.heap.size := by rw [hw]; simp
 have hB := h.low
 refine ⟨by omega, by rw [hsz]; exact h.high, (h.own.keep fun k k1 _ => hk k (by omega)).mono (Nat.le_succ _) (Nat.le_refl _), h.rules.keep (by rw [hsz]; exact Nat.le_refl _) (fun k k1 _ => hk k (by omega)), h.rdr.same fun k hk' => hk k (by omega), ⟨?_, ?_, ?_, by rw [hsz]; exact h.only.size, fun k hk' hn => (hk k (by omega)).trans (h.only.block k hk' hn)⟩, ?_⟩
 ·rw [hw]; exact h.only.os
 ·rw [hw]; exact h.only.tape
 ·rw [hw]; exact h.only.output
 ·have := (h.res.set_ 0 (.slice A ar.length c)).set_ 1 (.slice Ar es.length cr)
  rw [hw]
  simpa using this
end
theorem zil {w w1 w7 : World} {lo : Nat} {x y : Int} (h1 : w1 = w.alloc (.cells #[.int .i64 x, .int .i64 y] 3)) (hlo : lo <= w.heap.size) (hb : Below w1.heap.size w1 w7) : zg w7 lo (w.heap.size + 1) (.slice (some ⟨w.heap.size, 0, none⟩) 2 2) [x, y] := by
 have hs : w1.heap.size = w.heap.size + 1 := by rw [h1]; simp
 have h := zgs w lo x y hlo
 rw [<- h1] at h
 exact h.below hb (Nat.le_of_eq hs.symm)
theorem znh {w : World} {b lo hi : Nat} {l : zC} {u : Value} (hB : Blk w b 68 #[.int .i64 l.1, .int .i64 l.2.1, u]) (h1 : lo <= b) (h2 : b < hi) (hu : zg w lo hi u l.2.2) : zW w lo hi (.slice (some ⟨b, 0, none⟩) 1 1) [l] :=
 ⟨some ⟨b, 0, none⟩, 1, rfl, Nat.le_refl _, fun _ => ⟨b, 0, rfl, h1, h2, fun k hk => ⟨⟨hB.frozen _, hB.frozen _⟩, by
   match k, hk with
   | 0, _ => exact ⟨_, _, _, hB.cell 0, hB.cell 1, hB.cell 2, rfl, rfl, hu⟩⟩⟩⟩
theorem zng {w : World} {b lo hi : Nat} {l m : zC} {u v : Value} (hB : Blk w b 68 #[.int .i64 l.1, .int .i64 l.2.1, u, .int .i64 m.1, .int .i64 m.2.1, v]) (h1 : lo <= b) (h2 : b < hi) (hu : zg w lo hi u l.2.2) (hv : zg w lo hi v m.2.2) : zW w lo hi (.slice (some ⟨b, 0, none⟩) 2 2) [l, m] :=
 ⟨some ⟨b, 0, none⟩, 2, rfl, Nat.le_refl _, fun _ => ⟨b, 0, rfl, h1, h2, fun k hk => ⟨⟨hB.frozen _, hB.frozen _⟩, by
   match k, hk with
   | 0, _ => exact ⟨_, _, _, hB.cell 0, hB.cell 1, hB.cell 2, rfl, rfl, hu⟩
   | 1, _ => exact ⟨_, _, _, hB.cell 3, hB.cell 4, hB.cell 5, rfl, rfl, hv⟩⟩⟩⟩
theorem zpt {W wX : World} (hX : wX = (((((((W.alloc (.cells #[.int .i64 (-1), .int .i64 (-2)] 3)).alloc (.cells #[.int .i64 (-1), .int .i64 (-2)] 3)).alloc (.cells #[.int .i64 0, .int .i64 0, .slice (some ⟨W.heap.size + 1, 0, none⟩) 2 2] 68)).alloc (.cells #[.int .i64 (-1), .int .i64 (-2)] 3)).alloc (.cells #[.int .i64 (-1), .int .i64 (-3)] 3)).alloc (.cells #[.int .i64 (-3), .int .i64 (-2)] 3)).alloc (.cells #[.int .i64 0, .int .i64 0, .slice (some ⟨W.heap.size + 1 + 1 + 1 + 1, 0, none⟩) 2 2, .int .i64 0, .int .i64 2, .slice (some ⟨W.heap.size + 1 + 1 + 1 + 1 + 1, 0, none⟩) 2 2] 68))) : Below W.heap.size W wX /\ zg wX W.heap.size (W.heap.size + 1) (.slice (some ⟨W.heap.size, 0, none⟩) 2 2) [-1, -2] /\ zW wX (W.heap.size + 1) (W.heap.size + 3) (.slice (some ⟨W.heap.size + 1 + 1, 0, none⟩) 1 1) [((0 : Int), ((0 : Int), [(-1 : Int), -2]))] /\
 wX.heap.size = W.heap.size + 7 /\ zg wX (W.heap.size + 3) (W.heap.size + 4) (.slice (some ⟨W.heap.size + 1 + 1 + 1, 0, none⟩) 2 2) [-1, -2] /\ zW wX (W.heap.size + 4) (W.heap.size + 7) (.slice (some ⟨W.heap.size + 1 + 1 + 1 + 1 + 1 + 1, 0, none⟩) 2 2) [((0 : Int), ((0 : Int), [(-1 : Int), -3])), ((0 : Int), ((2 : Int), [(-3 : Int), -2]))] := by
 obtain ⟨x1, h1⟩ : ∃ x, x = W.alloc (.cells #[.int .i64 (-1), .int .i64 (-2)] 3) := ⟨_, rfl⟩
 rw [<- h1] at hX
 obtain ⟨x2, h2⟩ : ∃ x, x = x1.alloc (.cells #[.int .i64 (-1), .int .i64 (-2)] 3) := ⟨_, rfl⟩
 rw [<- h2] at hX
 obtain ⟨x3, h3⟩ : ∃ x, x = x2.alloc (.cells #[.int .i64 0, .int .i64 0, .slice (some ⟨W.heap.size + 1, 0, none⟩) 2 2] 68) := ⟨_, rfl⟩
 rw [<- h3] at hX
 obtain ⟨x4, h4⟩ : ∃ x, x = x3.alloc (.cells #[.int .i64 (-1), .int .i64 (-2)] 3) := ⟨_, rfl⟩
 rw [<- h4] at hX
 obtain ⟨x5, h5⟩ : ∃ x, x = x4.alloc (.cells #[.int .i64 (-1), .int .i64 (-3)] 3) := ⟨_, rfl⟩
 rw [<- h5] at hX
 obtain ⟨x6, h6⟩ : ∃ x, x = x5.alloc (.cells #[.int .i64 (-3), .int .i64 (-2)] 3) := ⟨_, rfl⟩
 rw [<- h6] at hX
 have e1 : x1.heap.size = W.heap.size + 1 := by rw [h1]; simp
 have e2 : x2.heap.size = W.heap.size + 1 + 1 := by rw [h2]; simp [e1]
 have e3 : x3.heap.size = W.heap.size + 1 + 1 + 1 := by rw [h3]; simp [e2]
 have e4 : x4.heap.size = W.heap.size + 1 + 1 + 1 + 1 := by rw [h4]; simp [e3]
 have e5 : x5.heap.size = W.heap.size + 1 + 1 + 1 + 1 + 1 := by rw [h5]; simp [e4]
 have e6 : x6.heap.size = W.heap.size + 1 + 1 + 1 + 1 + 1 + 1 := by rw [h6]; simp [e5]
 have e7 : wX.heap.size = W.heap.size + 1 + 1 + 1 + 1 + 1 + 1 + 1 := by rw [hX]; simp [e6]
 have b6 : Below x6.heap.size x6 wX := by rw [hX]; exact ze _ _
 have b5 : Below x5.heap.size x5 wX := zf (by rw [h6]; exact ze _ _) b6
 have b4 : Below x4.heap.size x4 wX := zf (by rw [h5]; exact ze _ _) b5
 have b3 : Below x3.heap.size x3 wX := zf (by rw [h4]; exact ze _ _) b4
 have b2 : Below x2.heap.size x2 wX := zf (by rw [h3]; exact ze _ _) b3
 have b1 : Below x1.heap.size x1 wX := zf (by rw [h2]; exact ze _ _) b2
 have b0 : Below W.heap.size W wX := zf (by rw [h1]; exact ze _ _) b1
 have c2 : Blk wX x2.heap.size 68 #[.int .i64 0, .int .i64 0, .slice (some ⟨W.heap.size + 1, 0, none⟩) 2 2] := Blk.below (by rw [h3]; exact Blk.new _ _ _) b3 (by omega)
 have c6 : Blk wX x6.heap.size 68 #[.int .i64 0, .int .i64 0, .slice (some ⟨W.heap.size + 1 + 1 + 1 + 1, 0, none⟩) 2 2, .int .i64 0, .int .i64 2, .slice (some ⟨W.heap.size + 1 + 1 + 1 + 1 + 1, 0, none⟩) 2 2] := by rw [hX]; exact Blk.new _ _ _
 have d0 := zil h1 (Nat.le_refl W.heap.size) b1
 have d1 := zil (lo := W.heap.size + 1) h2 (by omega) b2
 have d3 := zil (lo := W.heap.size + 3) h4 (by omega) b4
 have d4 := zil (lo := W.heap.size + 4) h5 (by omega) b5
 have d5 := zil (lo := W.heap.size + 4) h6 (by omega) b6
 rw [e1] at d1
 rw [e3] at d3
 rw [e4] at d4
 rw [e5] at d5
 rw [e2] at c2
 rw [e6] at c6
 exact ⟨b0, d0, znh c2 (by omega) (by omega) (d1.mono (Nat.le_refl _) (by omega)), e7, d3, zng c6 (by omega) (by omega) (d4.mono (Nat.le_refl _) (by omega)) (d5.mono (Nat.le_refl _) (by omega))⟩
theorem zmD {wn : World} {o : Obj} {a b : Nat} {x y z : Value} (ha : a < wn.heap.size) (hb : b < wn.heap.size) : (((wn.setCell ⟨a, 1, none⟩ x).setCell ⟨b, 0, none⟩ y).setCell ⟨b, 1, none⟩ z).alloc o = (((wn.alloc o).setCell ⟨a, 1, none⟩ x).setCell ⟨b, 0, none⟩ y).setCell ⟨b, 1, none⟩ z := by
 rw [World.setCell_alloc_past o a 1 x ha, World.setCell_alloc_past o b 0 y (by simpa using hb), World.setCell_alloc_past o b 1 z (by simpa using hb)]
theorem Pg2.three {w w' wn : World} {g q B : Nat} {bs : List Nat} {A Ar : Option Addr} {c cr : Nat} {ar : List Int} {es : List Ent} {e1 e2 e3 : Ent} (h : Pg2 w wn B g bs q A c ar Ar cr es) (hg : g < w.heap.size)
 (ho : ∃ lo mid hi : Nat -> Nat, (∀ i (h : i < [e1, e2, e3].length), ze9 B wn none [e1, e2, e3][i] (lo i) (mid i) (hi i)) /\ ∀ i j, i < j -> j < 3 -> hi i <= lo j)
 (hw : w' = (wn.alloc (.cells #[.int .i64 e1.1.1.1, e1.2.1, e1.2.2, .int .i64 e2.1.1.1, e2.2.1, e2.2.2, .int .i64 e3.1.1.1, e3.2.1, e3.2.2] 66)).setCell ⟨w.heap.size + 2, 1, none⟩ (.slice (some ⟨wn.heap.size, 0, none⟩) 3 3)) :
 Pg2 w w' B g bs q A c ar (some ⟨wn.heap.size, 0, none⟩) 3 [e1, e2, e3] := by
 have hB := h.low
 have hH := h.high
 have hk : ∀ k, k < wn.heap.size -> k ≠ w.heap.size + 2 -> w'.heap[k]? = wn.heap[k]? := fun k h1 h2 => by
  rw [hw]
  exact (Below.heap_setCell _ _ _ k h2).trans (Below.heap_alloc _ _ k h1)
 have hsz : w'.heap.size = wn.heap.size + 1 := by rw [hw]; simp
 have hos := h.only.size
 have hrow : w'.heap[wn.heap.size]? = some (.cells #[.int .i64 e1.1.1.1, e1.2.1, e1.2.2, .int .i64 e2.1.1.1, e2.2.1, e2.2.2, .int .i64 e3.1.1.1, e3.2.1, e3.2.2] 66 (0, 0)) := by
  rw [hw]
  exact (Below.heap_setCell _ _ _ wn.heap.size (by show wn.heap.size ≠ w.heap.size + 2; omega)).trans (heap_alloc_new wn _)
 refine ⟨(hk _ (by omega) (by omega)).trans h.res, ?_, h.own.kept fun b hb => hk b (h.own.lt hb).2.2 (fun e' => zbL h.own.1 h.prg (by decide) (by rw [<- e']; exact hb)), ⟨?_, ?_⟩, hB, by omega,
  h.rdr.same fun k hk' => hk k (by omega) (by omega), ⟨?_, ?_, ?_, by omega, fun k hk' hn => (hk k (by omega) (by omega)).trans (h.only.block k hk' hn)⟩⟩
 ·have := (h.prg.alloc (.cells #[.int .i64 e1.1.1.1, e1.2.1, e1.2.2, .int .i64 e2.1.1.1, e2.2.1, e2.2.2, .int .i64 e3.1.1.1, e3.2.1, e3.2.2] 66)).set_ 1 (.slice (some ⟨wn.heap.size, 0, none⟩) 3 3)
  rw [hw]
  simpa using this
 ·obtain ⟨lo, mid, hi, q1, q2⟩ := ho
  refine ⟨lo, mid, hi, fun i hi' => ?_, q2⟩
  have x := q1 i hi'
  have y1 := x.low
  have y4 := x.high
  exact x.keep (by omega) (fun k k1 k2 => hk k (by omega) (by omega)) fun b hb => by
   have e' : wn.heap.size = b := by simpa [Value.ownBlock] using hb
   omega
 ·exact ⟨rfl, .inr ⟨wn.heap.size, 3, _, rfl, hH, hrow, Nat.le_refl _, by unfold maxLen; omega, rfl, rfl⟩⟩
 ·rw [hw]; exact h.only.os
 ·rw [hw]; exact h.only.tape
 ·rw [hw]; exact h.only.output
set_option maxHeartbeats 4000000 in
theorem zjs (g : Nat) (bs : List Nat) (p : Nat) (no : Int) (w : World) (h : Rdr w g bs p) (hp : p <= 1000000) :
 Calls Tryz.prog 123 #[.pointer (some ⟨g, 0, none⟩), .int .i64 no] w fun e w' => ∃ (A Ar : Option Addr) (c cr B q : Nat) (ar : List Int) (es : List Ent), e = .returned (.agg #[.slice A ar.length c, .slice Ar es.length cr]) /\ 4 <= ar.length /\ ar.length <= 5 /\ (∀ x ∈ ar, 0 <= x /\ x <= 2) /\ 1 <= es.length /\ es.length <= 4 /\ (∀ e ∈ es, e.1.1.2.length <= 2 /\ e.1.2.length <= 4 /\ zbB e.1.2 <= 8 /\ zaL e.1.2) /\ q <= p + 1600 /\
  w.heap.size <= B /\ B <= w'.heap.size /\ zg w' w.heap.size B (.slice A ar.length c) ar /\ zbF B w' es Ar cr /\ Rdr w' g bs q /\ zl g (g + 1) w w' := by
 obtain ⟨i0, hi0, hz0, hz1, hz2⟩ := info_parts Tryz.infoInt
 obtain ⟨i2, hj0, hy0, hy1, hy2⟩ := info_parts Tryz.infoRule
 have hgl := h.lt
 have HS := Lib.hid (Pg1.start h)
 clear h
 go_enter Tryz.func123, Tryz.ntmps123
 go_upto_region 2 with (fail)
 obtain ⟨wS, hwS⟩ : ∃ wS, wS = (((w.alloc (.cells #[.slice none 0 0, .slice none 0 0] 26)).alloc (.cells #[.int .i64 2, .int .i64 1] 3)).alloc (.cells #[.slice (some ⟨w.heap.size + 1, 0, none⟩) 2 2, .slice none 0 0] 26)) := ⟨_, rfl⟩
 rw [<- hwS] at HS ⊢
 clear hwS
 go_wp2_with (fail)
 refine (zak g bs p 2 _ HS.out.rdr (by omega) (by omega)).mono ?_
 rintro e w1 ⟨⟨x, rfl, hx⟩, hp1⟩
 have hxr : 0 <= x /\ x < 2 := hx.1 (by omega)
 obtain ⟨i, hi1, hi2, hi3⟩ : ∃ i : Nat, IntKind.i64.wrap (2 + x) = (i : Int) /\ i <= 3 /\ 2 <= i := ⟨(2 + x).toNat, by unfold IntKind.wrap; simp [IntKind.bits, IntKind.signed]; omega, by omega, by omega⟩
 have H1 := Lib.hid (HS.out.go hgl hp1.1 hp1.2)
 clear hp1 hx
 go_wp2_with (fail)
 go_loopw [6] (fun i wr => ∃ (k q : Nat) (A : Option Addr) (c : Nat) (ar : List Int), k <= 3 /\ i = .int .i64 k /\ ar.length + k <= 5 /\ 4 <= ar.length + k /\ (∀ x ∈ ar, 0 <= x /\ x <= 2) /\ q + k <= p + 4 /\ Pg1 w wr g bs q A c ar) (fun i _ => (intOf i).toNat)
 case atStart => exact ⟨i, p + 1, _, _, _, hi2, rfl, by simp; omega, by simp; omega, by simp, by omega, H1.out⟩
 case round =>
  obtain ⟨k, q, A, c, ar, hk, rfl, hal, ham, har, hq, hr⟩ := hrel
  have HR := Lib.hid hr
  have HAR := Lib.hid har
  clear hr har
  by_cases hlt : 0 < k
  ·have hkb : decide (0 < (k : Int)) = true := by simp; omega
   obtain ⟨SS, hSS⟩ : ∃ SS : World -> Prop, SS = (fun W => W.cell? ⟨w.heap.size + 2, 0, none⟩ = some (.slice A ar.length c)) := ⟨_, rfl⟩
   have HB := Lib.hid (show ∀ W, SS W -> W.cell? ⟨w.heap.size + 2, 0, none⟩ = some (.slice A ar.length c) from by rw [hSS]; exact fun W hW => hW)
   have HC := Lib.hid (show ∀ W (q : Nat), Pg1 w W g bs q A c ar -> SS W from by rw [hSS]; exact fun W q hW => hW.prg.cell 0)
   have HC1 := Lib.hid (show ∀ W, W.cell? ⟨w.heap.size + 2, 0, none⟩ = some (.slice A ar.length c) -> SS W from by rw [hSS]; exact fun W hW => hW)
   clear hSS
   go_upto_region 5 with (fail)
   have HRd := Lib.hid (HR.out.below hgl (Below.refl _ _).drew)
   have SB := HC.out _ _ HRd.out
   refine zB SS 8 9 (by kernel_rfl) rfl ?_
   refine za (i := 0) (oi := _) ?v0 rfl rfl (by kernel_rfl) (by decide) (fun _ _ _ h => h) rfl ?hy0 (fun _ => SB) ?rest0
   case hy0 => (intro W; go_simp; (try with_reducible rfl))
   try simp only [zs.a, zs.b, zs.c]
   refine za (i := 2) (oi := _) ?v2 rfl rfl (by kernel_rfl) (by decide) (fun _ _ _ h => h) rfl ?hy2 (fun _ => SB) ?rest2
   case hy2 => (intro W; go_simp; (try with_reducible rfl))
   try simp only [zs.a, zs.b, zs.c]
   refine zm (i := 1) (oi := _) ?v1 rfl rfl (by kernel_rfl) (fun _ _ _ h => h) rfl ?hy1 SB ?rest1
   case hy1 => (intro W hW; obtain E0 := HB.out W hW; go_simp; (try with_reducible rfl))
   try simp only [zs.a, zs.b, zs.c]
   refine zh (i := 3) (by kernel_rfl) rfl (fun K hK => ?_)
   try rw [if_pos (show Region.wanted _ _ = true from rfl)]
   go_simp
   refine hK.out _ _ (fun _ => HC.out _ _ (HRd.out.below hgl (ze _ _))) ?_
   clear hK K
   try simp only [zs.a, zs.b, zs.c, Act.put]
   refine zh (i := 4) (by kernel_rfl) rfl (fun K hK => ?_)
   try rw [if_pos (show Region.wanted _ _ = true from rfl)]
   go_simp
   have HX3 := Lib.hid (HRd.out.below hgl (ze wr.drew (.cells #[.int .i64 2, .int .i64 1, .int .i64 2, .int .i64 0] 3)))
   refine (zeP g bs q _ _ [2, 1, 2, 0] 4 _ HX3.out.rdr (by omega) (Blk.new _ _ _) rfl (by have := HX3.out.rdr.lt; have := HR.out.only.size; show wr.heap.size ≠ g; omega) rfl (by simp) (by simp)).mono ?_
   rintro e wn ⟨⟨z, rfl, hz⟩, hpn⟩
   have hzr : 0 <= z /\ z <= 2 := by simp at hz; omega
   have Hn := Lib.hid (HX3.out.go hgl hpn.1 hpn.2)
   clear hpn hz
   refine hK.out _ _ (fun _ => HC.out _ _ Hn.out) ?_
   clear hK K
   try simp only [zs.a, zs.b, zs.c, Act.put]
   refine zh (i := 5) (by kernel_rfl) rfl (fun K hK => ?_)
   try rw [if_pos (show Region.wanted _ _ = true from rfl)]
   go_simp
   refine hK.out _ _ (fun _ => HC.out _ _ (Hn.out.below hgl (ze _ _))) ?_
   clear hK K
   try simp only [zs.a, zs.b, zs.c, Act.put]
   refine zh (i := 6) (by kernel_rfl) rfl (fun K hK => ?_)
   refine step_append_lies _ rfl (.tmp 18) (.tmp 22) 23 rfl (w.heap.size + 1) 3 i0 (.int .i64 0) 1 8 Tryz.underlying23 hi0 hz0 hz1 hz2 rfl (by decide) (.slice A ar.length c) ar.length (ar.map (Value.int .i64)) rfl ?c1 ⟨wn.heap.size, 0, none⟩ 1 1 [.int .i64 z] rfl rfl ?c4 ?c2 (by omega) (by unfold maxLen; omega) (by omega) ?c3 _ rfl ?c5
   case c1 => exact Hn.out.own.alloc _
   case c4 => exact cell_one_new _ _ _
   case c2 => intro u hu; simp at hu; subst hu; rfl
   case c3 => have := Hn.out.prg.lt; simp; omega
   case c5 =>
    intro g2 cap w5 hown hgr _ _
    have HST := Lib.hid (Hn.out.push hgl hgr hown)
    have hkf := Hn.out.kept hgr
    have e1 : w5.cell? ⟨w.heap.size + 2, 0, none⟩ = some (.slice A ar.length c) := hkf.cell 0
    have e2 := hkf.frozen 0
    clear hkf hown hgr
    refine hK.out _ _ (fun _ => HC1.out _ e1) ?_
    clear hK K
    try simp only [zs.a, zs.b, zs.c, Act.put]
    refine za (i := 7) (oi := _) ?v7 rfl rfl (by kernel_rfl) (by decide) (fun _ _ _ h => h) rfl ?hy7 (fun _ => HC1.out _ e1) ?rest7
    case hy7 => (intro W; go_simp; (try with_reducible rfl))
    try simp only [zs.a, zs.b, zs.c]
    refine zh (i := 8) (by kernel_rfl) rfl (fun K hK => ?_)
    go_simp
    refine hK.out _ _ (fun hf => absurd hf (by decide)) ?_
    clear hK K
    refine zL (by kernel_rfl) ?_
    obtain ⟨ar2, har2⟩ : ∃ ar2, ar2 = ar ++ [z] := ⟨_, rfl⟩
    have hl2 : ar.length + 1 = ar2.length := by rw [har2]; simp
    have HA2 := Lib.hid (show ∀ x ∈ ar2, 0 <= x /\ x <= 2 from by rw [har2]; intro x hx; rcases List.mem_append.1 hx with hx | hx; exact HAR.out x hx; (simp at hx; subst hx; exact hzr))
    rw [<- har2] at HST
    rw [hl2] at HST ⊢
    have hl3 := Lib.hid hl2
    clear har2 hl2 e1 e2
    go_wp2_with (fail)
    go_roundw
    case rel => exact ⟨k - 1, q + 1, _, _, ar2, by omega, by go_num, by have := hl3.out; omega, by have := hl3.out; omega, HA2.out, by omega, HST.out⟩
    case measure => simp [intOf]; omega
  ·have hk0 : k = 0 := by omega
   subst hk0
   have hkb : decide (0 < ((0 : Nat) : Int)) = false := rfl
   obtain ⟨wL, hwL⟩ : ∃ wL, wL = wr := ⟨_, rfl⟩
   subst hwL
   have HL := Lib.hid HR.out.two
   obtain ⟨B, hBe⟩ : ∃ B, B = wL.heap.size := ⟨_, rfl⟩
   rw [<- hBe] at HL
   have hal5 : ar.length <= 5 := by omega
   have hal4 : 4 <= ar.length := by omega
   have hq4 : q <= p + 4 := by omega
   clear hBe hal ham hq hk hlt HR
   go_wp2_with (fail)
   refine (zak g bs q 4 _ HL.out.rdr (by omega) (by omega)).mono ?_
   rintro e w2 ⟨⟨y, rfl, hy⟩, hp2⟩
   have hyr : 0 <= y /\ y < 4 := hy.1 (by omega)
   obtain ⟨n, hn1, hn2, hn3⟩ : ∃ n : Nat, IntKind.i64.wrap (1 + y) = (n : Int) /\ n <= 4 /\ 1 <= n := ⟨(1 + y).toNat, by unfold IntKind.wrap; simp [IntKind.bits, IntKind.signed]; omega, by omega, by omega⟩
   have H2 := Lib.hid (HL.out.go hgl hp2.1 hp2.2)
   clear hp2 hy
   go_wp2_with (fail)
   clear HL
   rename World => wL0
   go_loopw [7] (fun i wr => ∃ (k q : Nat) (Ar : Option Addr) (cr : Nat) (es : List Ent), k <= 4 /\ i = .int .i64 k /\ es.length + k <= 4 /\ 1 <= es.length + k /\ (∀ e ∈ es, e.1.1.2.length <= 2 /\ e.1.2.length <= 4 /\ zbB e.1.2 <= 8 /\ zaL e.1.2) /\ q + 300 * k <= p + 1205 /\ Pg2 w wr B g bs q A c ar Ar cr es) (fun i _ => (intOf i).toNat)
   case atStart => exact ⟨n, q + 1, none, 0, [], hn2, rfl, by simp; omega, by simp; omega, by simp, by omega, H2.out⟩
   case round =>
    obtain ⟨k, q, Ar, cr, es, hk, rfl, hal, ham, har, hq, hr⟩ := hrel
    have HR := Lib.hid hr
    have HES := Lib.hid har
    clear hr har
    by_cases hlt : 0 < k
    ·have hkb : decide (0 < (k : Int)) = true := by simp; omega
     obtain ⟨SS, hSS⟩ : ∃ SS : World -> Prop, SS = (fun W => W.cell? ⟨w.heap.size + 2, 0, none⟩ = some (.slice A ar.length c) /\ W.cell? ⟨w.heap.size + 2, 1, none⟩ = some (.slice Ar es.length cr)) := ⟨_, rfl⟩
     have HB := Lib.hid (show ∀ W, SS W -> W.cell? ⟨w.heap.size + 2, 0, none⟩ = some (.slice A ar.length c) /\ W.cell? ⟨w.heap.size + 2, 1, none⟩ = some (.slice Ar es.length cr) from by rw [hSS]; exact fun W hW => hW)
     have HC := Lib.hid (show ∀ W (q : Nat), Pg2 w W B g bs q A c ar Ar cr es -> SS W from by rw [hSS]; exact fun W q hW => ⟨hW.prg.cell 0, hW.prg.cell 1⟩)
     have HC1 := Lib.hid (show ∀ W, W.cell? ⟨w.heap.size + 2, 0, none⟩ = some (.slice A ar.length c) -> W.cell? ⟨w.heap.size + 2, 1, none⟩ = some (.slice Ar es.length cr) -> SS W from by rw [hSS]; exact fun W hW hW' => ⟨hW, hW'⟩)
     clear hSS
     go_upto_region 9 with (fail)
     have HRd := Lib.hid (HR.out.go hgl (HR.out.rdr.below (Below.refl _ _).drew HR.out.rdr.lt) (zl.of_below (Below.refl _ _).drew))
     have SB := HC.out _ _ HRd.out
     have hlowB := HR.out.low
     refine zB SS 10 11 (by kernel_rfl) rfl ?_
     refine za (i := 0) (oi := _) ?x0 rfl rfl (by kernel_rfl) (by decide) (fun _ _ _ h => h) rfl ?gy0 (fun _ => SB) ?rust0
     case gy0 => (intro W; go_simp; (try with_reducible rfl))
     try simp only [zs.a, zs.b, zs.c]
     refine za (i := 2) (oi := _) ?x2 rfl rfl (by kernel_rfl) (by decide) (fun _ _ _ h => h) rfl ?gy2 (fun _ => SB) ?rust2
     case gy2 => (intro W; go_simp; (try with_reducible rfl))
     try simp only [zs.a, zs.b, zs.c]
     refine za (i := 3) (oi := _) ?x3 rfl rfl (by kernel_rfl) (by decide) (fun _ _ _ h => h) rfl ?gy3 (fun _ => SB) ?rust3
     case gy3 => (intro W; go_simp; (try with_reducible rfl))
     try simp only [zs.a, zs.b, zs.c]
     refine za (i := 5) (oi := _) ?x5 rfl rfl (by kernel_rfl) (by decide) (fun _ _ _ h => h) rfl ?gy5 (fun _ => SB) ?rust5
     case gy5 => (intro W; go_simp; (try with_reducible rfl))
     try simp only [zs.a, zs.b, zs.c]
     refine zm (i := 1) (oi := _) ?x1 rfl rfl (by kernel_rfl) (fun _ _ _ h => h) rfl ?gy1 SB ?rust1
     case gy1 => (intro W hW; obtain ⟨E0, E1⟩ := HB.out W hW; go_simp; (try with_reducible rfl))
     try simp only [zs.a, zs.b, zs.c]
     refine zm (i := 4) (oi := _) ?x4 rfl rfl (by kernel_rfl) (fun _ _ _ h => h) rfl ?gy4 SB ?rust4
     case gy4 => (intro W hW; obtain ⟨E0, E1⟩ := HB.out W hW; go_simp; (try with_reducible rfl))
     try simp only [zs.a, zs.b, zs.c]
     refine zh (i := 6) (by kernel_rfl) rfl (fun K hK => ?_)
     try rw [if_pos (show Region.wanted _ _ = true from rfl)]
     go_simp
     refine (ziN g bs q (w.heap.size + 1) B 2 no (.slice A ar.length c) ar wr.drew HRd.out.rdr (by omega) HRd.out.own (by omega) HRd.out.high HAR.out (by omega) (by omega)).mono ?_
     rintro e wn ⟨ua, ub, rr, qn, mm, rfl, hr1, hr2, hr3, hr4, hqn, hm1, hm2, hoa, hob, hrn, hOn⟩
     have Hn := Lib.hid (HRd.out.go hgl hrn hOn)
     have HX := Lib.hid (And.intro hoa (And.intro hob (And.intro hrn (And.intro hOn (And.intro hm1 hm2)))))
     clear hoa hob hrn hOn hm1 hm2
     refine hK.out _ _ (fun _ => HC.out _ _ Hn.out) ?_
     clear hK K
     try simp only [zs.a, zs.b, zs.c, Act.put]
     refine zh (i := 7) (by kernel_rfl) rfl (fun K hK => ?_)
     try rw [if_pos (show Region.wanted _ _ = true from rfl)]
     go_simp
     refine hK.out _ _ (fun _ => HC.out _ _ (Hn.out.go hgl (Hn.out.rdr.below (ze _ _) Hn.out.rdr.lt) (zl.of_below (ze _ _)))) ?_
     clear hK K
     try simp only [zs.a, zs.b, zs.c, Act.put]
     refine zh (i := 8) (by kernel_rfl) rfl (fun K hK => ?_)
     refine step_append_lies _ rfl (.tmp 33) (.tmp 39) 24 rfl B 66 i2 (.agg #[.int .i64 0, .slice none 0 0, .slice none 0 0]) 3 56 Tryz.underlying24 hj0 hy0 hy1 hy2 rfl (by decide) (.slice Ar es.length cr) es.length (zaf es) rfl ?d1 ⟨wn.heap.size, 0, none⟩ 1 1 [.int .i64 rr.1.1, ua, ub] rfl rfl ?d4 ?d2 (by omega) (by unfold maxLen; omega) (by omega) ?d3 _ rfl ?d5
     case d1 => exact Hn.out.rules.row.alloc _
     case d4 => exact World.news_of_block (cs := #[.int .i64 rr.1.1, ua, ub]) (heap_alloc_new wn _)
     case d2 =>
      intro u hu
      simp only [List.mem_cons, List.not_mem_nil, or_false] at hu
      rcases hu with rfl | rfl | rfl
      ·rfl
      ·obtain ⟨_, _, e⟩ := HX.out.1.form
       rw [e]
       rfl
      ·obtain ⟨_, _, e, _⟩ := HX.out.2.1
       rw [e]
       rfl
     case d3 => have := Hn.out.high; simp; omega
     case d5 =>
      intro g2 cap w5 hown hgr hat _
      have HST := Lib.hid (HRd.out.push (e := (rr, ua, ub)) hgl HX.out.2.2.1 HX.out.2.2.2.1 HX.out.2.2.2.2.1 HX.out.2.2.2.2.2 HX.out.1 HX.out.2.1 hgr hat hown)
      have hkf := (Hn.out.kept hgr _ hlowB).trans Hn.out.prg
      have e0 : w5.cell? ⟨w.heap.size + 2, 0, none⟩ = some (.slice A ar.length c) := Blk.cell hkf 0
      have e1 : w5.cell? ⟨w.heap.size + 2, 1, none⟩ = some (.slice Ar es.length cr) := Blk.cell hkf 1
      have e2 := Blk.frozen hkf 1
      clear hkf hown hgr hat
      refine hK.out _ _ (fun _ => HC1.out _ e0 e1) ?_
      clear hK K
      try simp only [zs.a, zs.b, zs.c, Act.put]
      refine za (i := 9) (oi := _) ?x9 rfl rfl (by kernel_rfl) (by decide) (fun _ _ _ h => h) rfl ?gy9 (fun _ => HC1.out _ e0 e1) ?rust9
      case gy9 => (intro W; go_simp; (try with_reducible rfl))
      try simp only [zs.a, zs.b, zs.c]
      refine zh (i := 10) (by kernel_rfl) rfl (fun K hK => ?_)
      go_simp
      refine hK.out _ _ (fun hf => absurd hf (by decide)) ?_
      clear hK K
      refine zL (by kernel_rfl) ?_
      obtain ⟨es2, hes2⟩ : ∃ es2, es2 = es ++ [((rr, ua, ub) : Ent)] := ⟨_, rfl⟩
      have hl2 : es.length + 1 = es2.length := by rw [hes2]; simp
      have HE2 := Lib.hid (show ∀ e ∈ es2, e.1.1.2.length <= 2 /\ e.1.2.length <= 4 /\ zbB e.1.2 <= 8 /\ zaL e.1.2 from by rw [hes2]; intro x hx; rcases List.mem_append.1 hx with hx | hx; exact HES.out x hx; (simp at hx; subst hx; exact ⟨hr1, hr2, hr3, hr4⟩))
      rw [<- hes2] at HST
      rw [hl2] at HST ⊢
      have hl3 := Lib.hid hl2
      clear hes2 hl2 e0 e1 e2
      go_wp2_with (fail)
      go_roundw
      case rel => exact ⟨k - 1, qn, _, _, es2, by omega, by go_num, by have := hl3.out; omega, by have := hl3.out; omega, HE2.out, by omega, HST.out⟩
      case measure => simp [intOf]; omega
    ·have hk0 : k = 0 := by omega
     subst hk0
     have hkb : decide (0 < ((0 : Nat) : Int)) = false := rfl
     have hes4 : es.length <= 4 := by omega
     have hes1 : 1 <= es.length := by omega
     have hq5 : q <= p + 1205 := by omega
     clear hal ham hq hlt
     go_wp2_with (fail)
     refine (zak g bs q 3 _ HR.out.rdr (by omega) (by omega)).mono ?_
     rintro e w3 ⟨⟨z, rfl, _⟩, hp3⟩
     have H3 := Lib.hid (HR.out.go hgl hp3.1 hp3.2)
     clear hp3
     by_cases hz : z = 0
     ·have hzb : (z == 0) = true := by simp [hz]
      clear hz
      obtain ⟨ga, rfl⟩ : ∃ ga, A = some ⟨ga, 0, none⟩ := by
       obtain ⟨g2, cap, e, _⟩ := H3.out.own.1.form (by omega)
       injection e with e1 _ _
       exact ⟨g2, e1⟩
      have k0 : w3.cell? ⟨w.heap.size + 2, 0, none⟩ = some (.slice (some ⟨ga, 0, none⟩) ar.length c) := H3.out.prg.cell 0
      have a0 : w3.cell? ⟨ga, 2, none⟩ = some (.int .i64 (ar[2]'(by omega))) := by rw [H3.out.own.1.cellAt 2 (by omega)]; simp [show 2 < ar.length by omega]
      have a1 := H3.out.own.1.frozenAt 2
      have hix : decide ((2 : Int) < (ar.length : Int)) = true := by simp; omega
      have H4 := Lib.hid (H3.out.set2 hgl (by omega) 2)
      have HA2 := Lib.hid (show ∀ x ∈ ar.set 2 2, 0 <= x /\ x <= 2 from fun x hx => by
       rcases List.mem_or_eq_of_mem_set hx with hx | hx
       ·exact HAR.out x hx
       ·omega)
      have hl2 := Lib.hid (show (ar.set 2 2).length = ar.length by simp)
      go_upto_region 12 with (fail)
      obtain ⟨ar2, har2⟩ : ∃ ar2, ar2 = ar.set 2 (2 : Int) := ⟨_, rfl⟩
      obtain ⟨wA, hwA⟩ : ∃ wA, wA = w3.setCell ⟨ga, 2, none⟩ (.int .i64 2) := ⟨_, rfl⟩
      rw [<- hwA]
      rw [<- har2] at H4 HA2 hl2
      rw [<- hwA] at H4
      have hl4 : 4 <= ar2.length := by have := hl2.out; omega
      have hl5 : ar2.length <= 5 := by have := hl2.out; omega
      have k0 : wA.cell? ⟨w.heap.size + 2, 0, none⟩ = some (.slice (some ⟨ga, 0, none⟩) ar2.length c) := H4.out.prg.cell 0
      have f1 := H4.out.prg.frozen 1
      have k1 : wA.cell? ⟨w.heap.size + 2, 1, none⟩ = some (.slice Ar es.length cr) := H4.out.prg.cell 1
      have hA2 := H4.out.prg.lt
      clear har2 hwA a0 a1 hix H3
      obtain ⟨wX, hwX⟩ : ∃ wX, wX = (((((((wA.alloc (.cells #[.int .i64 (-1), .int .i64 (-2)] 3)).alloc (.cells #[.int .i64 (-1), .int .i64 (-2)] 3)).alloc (.cells #[.int .i64 0, .int .i64 0, .slice (some ⟨wA.heap.size + 1, 0, none⟩) 2 2] 68)).alloc (.cells #[.int .i64 (-1), .int .i64 (-2)] 3)).alloc (.cells #[.int .i64 (-1), .int .i64 (-3)] 3)).alloc (.cells #[.int .i64 (-3), .int .i64 (-2)] 3)).alloc (.cells #[.int .i64 0, .int .i64 0, .slice (some ⟨wA.heap.size + 1 + 1 + 1 + 1, 0, none⟩) 2 2, .int .i64 0, .int .i64 2, .slice (some ⟨wA.heap.size + 1 + 1 + 1 + 1 + 1, 0, none⟩) 2 2] 68)) := ⟨_, rfl⟩
      have hbX : Below wA.heap.size wA wX := by
       rw [hwX]
       exact zf (zf (zf (zf (zf (zf (ze _ _) (ze _ _)) (ze _ _)) (ze _ _)) (ze _ _)) (ze _ _)) (ze _ _)
      have HXX := Lib.hid (H4.out.go hgl (H4.out.rdr.below hbX H4.out.rdr.lt) (zl.of_below hbX))
      have kx := HXX.out.prg.cell 0
      rw [hwX] at kx
      simp only [List.getElem?_toArray, List.getElem?_cons_zero] at kx
      go_wp2_with (fail)
      rw [<- hwX]
      refine (ziN g bs (q + 1) (w.heap.size + 1) B 3 no (.slice (some ⟨ga, 0, none⟩) ar2.length c) ar2 wX HXX.out.rdr (by omega) HXX.out.own (by omega) HXX.out.high HA2.out (by omega) (by omega)).mono ?_
      rintro e wn ⟨ua, ub, rr, qn, mm, rfl, hr1, hr2, hr3, hr4, hqn, hm1, hm2, hoa, hob, hrn, hOn⟩
      have Hn := Lib.hid (HXX.out.go hgl hrn hOn)
      have H7 := Lib.hid (zpt hwX)
      have hXs := HXX.out.high
      have hXn := hOn.size
      have hBl := H4.out.low
      have hBh := H4.out.high
      have HO := Lib.hid (show ∃ lo mid hi : Nat -> Nat, (∀ i (h : i < ([((((2 : Int), [(-1 : Int), -2]), [((0 : Int), ((0 : Int), [(-1 : Int), -2]))]), .slice (some ⟨wA.heap.size, 0, none⟩) 2 2, .slice (some ⟨wA.heap.size + 1 + 1, 0, none⟩) 1 1), ((((2 : Int), [(-1 : Int), -2]), [((0 : Int), ((0 : Int), [(-1 : Int), -3])), ((0 : Int), ((2 : Int), [(-3 : Int), -2]))]), .slice (some ⟨wA.heap.size + 1 + 1 + 1, 0, none⟩) 2 2, .slice (some ⟨wA.heap.size + 1 + 1 + 1 + 1 + 1 + 1, 0, none⟩) 2 2), (rr, ua, ub)] : List Ent).length), ze9 B wn none ([((((2 : Int), [(-1 : Int), -2]), [((0 : Int), ((0 : Int), [(-1 : Int), -2]))]), .slice (some ⟨wA.heap.size, 0, none⟩) 2 2, .slice (some ⟨wA.heap.size + 1 + 1, 0, none⟩) 1 1), ((((2 : Int), [(-1 : Int), -2]), [((0 : Int), ((0 : Int), [(-1 : Int), -3])), ((0 : Int), ((2 : Int), [(-3 : Int), -2]))]), .slice (some ⟨wA.heap.size + 1 + 1 + 1, 0, none⟩) 2 2, .slice (some ⟨wA.heap.size + 1 + 1 + 1 + 1 + 1 + 1, 0, none⟩) 2 2), (rr, ua, ub)] : List Ent)[i] (lo i) (mid i) (hi i)) /\ ∀ i j, i < j -> j < 3 -> hi i <= lo j from by
       obtain ⟨_, s1, s2, s0, s3, s4⟩ := H7.out
       have hkk : ∀ k, wA.heap.size <= k -> k < wX.heap.size -> wn.heap[k]? = wX.heap[k]? := fun k k1 k2 => hOn.block k k2 (by omega)
       refine ⟨fun i => match i with | 0 => wA.heap.size | 1 => wA.heap.size + 3 | _ => wX.heap.size, fun i => match i with | 0 => wA.heap.size + 1 | 1 => wA.heap.size + 4 | _ => mm, fun i => match i with | 0 => wA.heap.size + 3 | 1 => wA.heap.size + 7 | _ => wn.heap.size, fun i hi => ?_, fun i j hij hj => ?_⟩
       ·match i, hi with
        | 0, _ => exact ⟨hBh, Nat.le_succ _, by show wA.heap.size + 1 <= wA.heap.size + 3; omega, by show wA.heap.size + 3 <= wn.heap.size; omega, fun b hb => (by cases hb), s1.keep fun k k1 k2 => hkk k k1 (by omega), s2.keep fun k k1 k2 => hkk k (by omega) (by omega)⟩
        | 1, _ => exact ⟨by show B <= wA.heap.size + 3; omega, Nat.le_succ _, by show wA.heap.size + 4 <= wA.heap.size + 7; omega, by show wA.heap.size + 7 <= wn.heap.size; omega, fun b hb => (by cases hb), s3.keep fun k k1 k2 => hkk k (by omega) (by omega), s4.keep fun k k1 k2 => hkk k (by omega) (by omega)⟩
        | 2, _ => exact ⟨hXs, hm1, hm2, Nat.le_refl _, fun b hb => (by cases hb), hoa, hob⟩
       ·have hij3 : (i = 0 /\ j = 1) \/ (i = 0 /\ j = 2) \/ (i = 1 /\ j = 2) := by omega
        rcases hij3 with ⟨rfl, rfl⟩ | ⟨rfl, rfl⟩ | ⟨rfl, rfl⟩
        ·exact Nat.le_refl _
        ·show wA.heap.size + 3 <= wX.heap.size; omega
        ·show wA.heap.size + 7 <= wX.heap.size; omega)
      have m0 : wn.cell? ⟨w.heap.size + 2, 0, none⟩ = some (.slice (some ⟨ga, 0, none⟩) ar2.length c) := Hn.out.prg.cell 0
      have m1 : wn.cell? ⟨w.heap.size + 2, 1, none⟩ = some (.slice Ar es.length cr) := Hn.out.prg.cell 1
      have m2 := Hn.out.prg.frozen 1
      have m3 := Hn.out.prg.lt
      have j0 : wn.cell? ⟨w.heap.size, 0, none⟩ = some (.slice none 0 0) := Hn.out.res.cell 0
      have j1 : wn.cell? ⟨w.heap.size, 1, none⟩ = some (.slice none 0 0) := Hn.out.res.cell 1
      have l0 := Hn.out.res.frozen 0
      have l1 := Hn.out.res.frozen 1
      have m4 := Hn.out.res.lt
      clear hoa hob hrn hOn kx k0 f1 k1 hwX hbX
      go_wp2_with (fail)
      obtain ⟨W, hW⟩ : ∃ W, W = (((wn.setCell ⟨w.heap.size + 1 + 1, 1, none⟩ (.slice (some ⟨wn.heap.size, 0, none⟩) 3 3)).setCell ⟨w.heap.size, 0, none⟩ (.slice (some ⟨ga, 0, none⟩) ar2.length c)).setCell ⟨w.heap.size, 1, none⟩ (.slice (some ⟨wn.heap.size, 0, none⟩) 3 3)).alloc (.cells #[.int .i64 2, .slice (some ⟨wA.heap.size, 0, none⟩) 2 2, .slice (some ⟨wA.heap.size + 1 + 1, 0, none⟩) 1 1, .int .i64 2, .slice (some ⟨wA.heap.size + 1 + 1 + 1, 0, none⟩) 2 2, .slice (some ⟨wA.heap.size + 1 + 1 + 1 + 1 + 1 + 1, 0, none⟩) 2 2, .int .i64 rr.1.1, ua, ub] 66) := ⟨_, rfl⟩
      rw [<- hW]
      rw [zmD (a := w.heap.size + 1 + 1) m3 m4] at hW
      obtain ⟨wZ, hZ⟩ : ∃ wZ, wZ = (wn.alloc (.cells #[.int .i64 2, .slice (some ⟨wA.heap.size, 0, none⟩) 2 2, .slice (some ⟨wA.heap.size + 1 + 1, 0, none⟩) 1 1, .int .i64 2, .slice (some ⟨wA.heap.size + 1 + 1 + 1, 0, none⟩) 2 2, .slice (some ⟨wA.heap.size + 1 + 1 + 1 + 1 + 1 + 1, 0, none⟩) 2 2, .int .i64 rr.1.1, ua, ub] 66)).setCell ⟨w.heap.size + 1 + 1, 1, none⟩ (.slice (some ⟨wn.heap.size, 0, none⟩) 3 3) := ⟨_, rfl⟩
      rw [<- hZ] at hW
      have HP := Hn.out.three hgl HO.out hZ
      obtain ⟨f1, f2, f3, f4, f5, f6, f7⟩ := HP.done hgl hW
      have d0 : W.cell? ⟨w.heap.size, 0, none⟩ = some (.slice (some ⟨ga, 0, none⟩) ar2.length c) := f7.cell 0
      have d1 : W.cell? ⟨w.heap.size, 1, none⟩ = some (.slice (some ⟨wn.heap.size, 0, none⟩) 3 3) := f7.cell 1
      refine bodyPost_ret (v := .agg #[.slice (some ⟨ga, 0, none⟩) ar2.length c, .slice (some ⟨wn.heap.size, 0, none⟩) 3 3]) (by simp [results, Tryz.results123, go_sem, d0, d1]) rfl ?_
      exact ⟨some ⟨ga, 0, none⟩, some ⟨wn.heap.size, 0, none⟩, c, 3, B, qn, ar2, [((((2 : Int), [(-1 : Int), -2]), [((0 : Int), ((0 : Int), [(-1 : Int), -2]))]), .slice (some ⟨wA.heap.size, 0, none⟩) 2 2, .slice (some ⟨wA.heap.size + 1 + 1, 0, none⟩) 1 1), ((((2 : Int), [(-1 : Int), -2]), [((0 : Int), ((0 : Int), [(-1 : Int), -3])), ((0 : Int), ((2 : Int), [(-3 : Int), -2]))]), .slice (some ⟨wA.heap.size + 1 + 1 + 1, 0, none⟩) 2 2, .slice (some ⟨wA.heap.size + 1 + 1 + 1 + 1 + 1 + 1, 0, none⟩) 2 2), (rr, ua, ub)], rfl, hl4, hl5, HA2.out, by show 1 <= 3; omega, by show 3 <= 4; omega, fun e he => by
       simp only [List.mem_cons, List.not_mem_nil, or_false] at he
       rcases he with rfl | rfl | rfl
       ·exact ⟨by show 2 <= 2; omega, by show 1 <= 4; omega, by show 2 <= 8; omega, zaL.one ⟨by decide, by decide, by decide⟩⟩
       ·exact ⟨by show 2 <= 2; omega, by show 2 <= 4; omega, by show 4 <= 8; omega, (zaL.one ⟨by decide, by decide, by decide⟩ : zaL [((0 : Int), ((0 : Int), [(-1 : Int), -3]))]).snoc ⟨by decide, by decide, by decide⟩⟩
       ·exact ⟨hr1, hr2, hr3, hr4⟩, by omega, f1, f2, f3, f4, f5, f6⟩
     ·have hzb : (z == 0) = false := by simp [hz]
      clear hz
      have k0 : w3.cell? ⟨w.heap.size + 2, 0, none⟩ = some (.slice A ar.length c) := H3.out.prg.cell 0
      have k1 : w3.cell? ⟨w.heap.size + 2, 1, none⟩ = some (.slice Ar es.length cr) := H3.out.prg.cell 1
      have j0 : w3.cell? ⟨w.heap.size, 0, none⟩ = some (.slice none 0 0) := H3.out.res.cell 0
      have j1 : w3.cell? ⟨w.heap.size, 1, none⟩ = some (.slice none 0 0) := H3.out.res.cell 1
      have l0 := H3.out.res.frozen 0
      have l1 := H3.out.res.frozen 1
      go_wp2_with (fail)
      obtain ⟨W, hW⟩ : ∃ W, W = (w3.setCell ⟨w.heap.size, 0, none⟩ (.slice A ar.length c)).setCell ⟨w.heap.size, 1, none⟩ (.slice Ar es.length cr) := ⟨_, rfl⟩
      rw [<- hW]
      obtain ⟨f1, f2, f3, f4, f5, f6, f7⟩ := H3.out.done hgl hW
      have d0 := f7.cell 0
      have d1 := f7.cell 1
      refine bodyPost_ret (v := .agg #[.slice A ar.length c, .slice Ar es.length cr]) (by simp [results, Tryz.results123, go_sem, d0, d1]) rfl ?_
      exact ⟨A, Ar, c, cr, B, q + 1, ar, es, rfl, hal4, hal5, HAR.out, hes1, hes4, HES.out, by omega, f1, f2, f3, f4, f5, f6⟩
end Go.Proofs.YtofkcmihcgmmpaaGreatDoor
