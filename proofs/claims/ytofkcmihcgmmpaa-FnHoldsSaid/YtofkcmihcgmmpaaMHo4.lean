/-
  Texts that the claim's last one imports, laid together: part 4 of 8. No condition of its own.
-/
import Derived.StillTailTactics
import Derived.Deep.QuietTactic
import Derived.BigQuiet
import Derived.Test.YtofkcmihcgmmpaaMHo1
import Derived.Test.YtofkcmihcgmmpaaMHo3
/-
  A row of rules of the call's own that grows: the words.
-/
namespace Go.Proofs.Ytofkcmihcgmmpaa
open Go.RowKit

/-- A rule and its two rows. -/
abbrev Ent := LRule × Value × Value
def flatEnt : List Ent → List Value
  | [] => []
  | e :: es => .int .i64 e.1.1.1 :: e.2.1 :: e.2.2 :: flatEnt es
theorem flatEnt_length : ∀ es : List Ent, (flatEnt es).length = es.length * 3
  | [] => by simp [flatEnt]
  | e :: es => by
    have := flatEnt_length es
    simp only [flatEnt, List.length_cons, this]
    omega
theorem flatEnt_at : ∀ (es : List Ent) (k : Nat) (hk : k < es.length), (flatEnt es)[k * 3]? = some (.int .i64 es[k].1.1.1) ∧ (flatEnt es)[k * 3 + 1]? = some es[k].2.1 ∧ (flatEnt es)[k * 3 + 2]? = some es[k].2.2
  | [], k, hk => absurd hk (by simp)
  | e :: es, 0, _ => by simp [flatEnt]
  | e :: es, k + 1, hk => by
    have := flatEnt_at es k (by simpa using hk)
    simpa [flatEnt, Nat.add_mul] using this
theorem flatEnt_snoc : ∀ (es : List Ent) (e : Ent), flatEnt (es ++ [e]) = flatEnt es ++ [.int .i64 e.1.1.1, e.2.1, e.2.2]
  | [], e => by simp [flatEnt]
  | x :: es, e => by simp [flatEnt, flatEnt_snoc es e]

/-- The rows of an entry: the head's in [lo, mid), the body's in [mid, hi). -/
structure EntAt (base : Nat) (wr : World) (ob : Option Nat) (e : Ent) (lo mid hi : Nat) : Prop where
  low : base ≤ lo
  lm : lo ≤ mid
  mh : mid ≤ hi
  high : hi ≤ wr.heap.size
  off : ∀ b, ob = some b → b < lo ∨ hi ≤ b
  head : OwnInts wr lo mid e.2.1 e.1.1.2
  body : OwnLits wr mid hi e.2.2 e.1.2
theorem EntAt.keep {base lo mid hi : Nat} {wr w2 : World} {ob ob2 : Option Nat} {e : Ent} (h : EntAt base wr ob e lo mid hi) (hs : hi ≤ w2.heap.size) (hk : ∀ k, lo ≤ k → k < hi → w2.heap[k]? = wr.heap[k]?) (ho : ∀ b, ob2 = some b → b < lo ∨ hi ≤ b) : EntAt base w2 ob2 e lo mid hi :=
  ⟨h.low, h.lm, h.mh, hs, ho, h.head.keep fun k k1 k2 => hk k k1 (by have := h.mh; omega), h.body.keep fun k k1 k2 => hk k (by have := h.lm; omega) k2⟩
/-- A row of rules of the call's own that grows: what a rule holds lies apart from the row, and behind what the rules ahead of it hold. -/
structure ColR (base : Nat) (wr : World) (es : List Ent) (A : Option Addr) (c : Nat) : Prop where
  own : ∃ lo mid hi : Nat → Nat, (∀ i (h : i < es.length), EntAt base wr (Value.slice A es.length c).ownBlock es[i] (lo i) (mid i) (hi i)) ∧ ∀ i j, i < j → j < es.length → hi i ≤ lo j
  row : wr.ownsRow base 49 3 (.slice A es.length c) es.length (flatEnt es)
section
variable {base g g2 cp : Nat} {wr w2 w4 : World} {es : List Ent} {A : Option Addr} {c : Nat}
theorem ColR.nil (base : Nat) (w : World) : ColR base w [] none 0 := ⟨⟨fun _ => 0, fun _ => 0, fun _ => 0, fun i h => absurd h (by simp), fun i j _ h => absurd h (by simp)⟩, by simpa [flatEnt] using World.ownsRow_nil w base 49 3⟩
theorem ColR.keep (h : ColR base wr es A c) (hs : wr.heap.size ≤ w2.heap.size) (hk : ∀ k, base ≤ k → k < wr.heap.size → w2.heap[k]? = wr.heap[k]?) : ColR base w2 es A c := by
  obtain ⟨lo, mid, hi, h1, h2⟩ := h.own
  refine ⟨⟨lo, mid, hi, fun i hi => ?_, h2⟩, ownsRow_only h.row fun b hb => hk b (h.row.lt b hb).1 (h.row.lt b hb).2⟩
  have e := h1 i hi
  exact e.keep (by have := e.high; omega) (fun k k1 k2 => hk k (by have := e.low; omega) (by have := e.high; omega)) e.off
theorem ColR.only (h : ColR base wr es A c) (ho : Only g (g + 1) wr w2) (hg : g < base) : ColR base w2 es A c :=
  h.keep ho.size fun k k1 k2 => ho.block k k2 (by omega)
theorem ColR.below (h : ColR base wr es A c) (hb : Below wr.heap.size wr w2) : ColR base w2 es A c :=
  h.keep hb.size fun k _ k2 => hb.block k k2
/-- One more rule, which a call made from wr to w2. -/
theorem ColR.push {e : Ent} {o : Obj} {m : Nat} (h : ColR base wr es A c) (hb : base ≤ wr.heap.size) (ho : Only g (g + 1) wr w2) (hg : g < base) (hm1 : wr.heap.size ≤ m) (hm2 : m ≤ w2.heap.size) (hu : OwnInts w2 wr.heap.size m e.2.1 e.1.1.2) (hv : OwnLits w2 m w2.heap.size e.2.2 e.1.2)
    (hgr : (w2.alloc o).grownBy w4 (Value.slice A es.length c).ownBlock) (hat : (Value.slice A es.length c).ownBlock = some g2 ∨ g2 = (w2.alloc o).heap.size)
    (hown : w4.ownsRow base 49 3 (.slice (some ⟨g2, 0, none⟩) (es.length + 1) cp) (es.length + 1) (flatEnt es ++ [.int .i64 e.1.1.1, e.2.1, e.2.2])) :
    ColR base w4 (es ++ [e]) (some ⟨g2, 0, none⟩) cp := by
  have hg2 := grown_from_alloc hgr
  have h2 := h.only ho hg
  have hl : (es ++ [e]).length = es.length + 1 := by simp
  have hs : (w2.alloc o).heap.size = w2.heap.size + 1 := by simp
  have hsz := ho.size
  have hsz4 := hg2.size
  have hnew : ∀ lo hi, hi ≤ w2.heap.size → (∀ b, (Value.slice A es.length c).ownBlock = some b → b < lo ∨ hi ≤ b) → ∀ b, (Value.slice (some ⟨g2, 0, none⟩) (es.length + 1) cp).ownBlock = some b → b < lo ∨ hi ≤ b := fun lo hi h1 h3 b hb' => by
    have e1 : g2 = b := by simpa [Value.ownBlock] using hb'
    subst e1
    rcases hat with hat | hat
    · exact h3 _ hat
    · right; omega
  have hkp : ∀ lo hi, hi ≤ w2.heap.size → (∀ b, (Value.slice A es.length c).ownBlock = some b → b < lo ∨ hi ≤ b) → ∀ k, lo ≤ k → k < hi → w4.heap[k]? = w2.heap[k]? := fun lo hi h1 h3 k k1 k2 =>
    hg2.block k (by omega) (fun e => by have := h3 k e.symm; omega)
  obtain ⟨lo, mid, hi, q1, q2⟩ := h.own
  have q3 : ∀ i (h : i < es.length), EntAt base w2 (Value.slice A es.length c).ownBlock es[i] (lo i) (mid i) (hi i) := fun i hi => by
    have e := q1 i hi
    exact e.keep (by have := e.high; omega) (fun k k1 k2 => ho.block k (by have := e.high; omega) (by have := e.low; omega)) e.off
  refine ⟨⟨fun i => if i < es.length then lo i else wr.heap.size, fun i => if i < es.length then mid i else m, fun i => if i < es.length then hi i else w2.heap.size, fun i hi => ?_, fun i j hij hj => ?_⟩, ?_⟩
  · rw [hl]
    by_cases e' : i < es.length
    · rw [List.getElem_append_left e']
      simp only [if_pos e']
      have x := q3 i e'
      exact x.keep (by have := x.high; omega) (hkp _ _ x.high x.off) (hnew _ _ x.high x.off)
    · have e2 : i = es.length := by rw [hl] at hi; omega
      subst e2
      simp only [if_neg e']
      have h5 : ∀ b, (Value.slice A es.length c).ownBlock = some b → b < wr.heap.size ∨ w2.heap.size ≤ b := fun b hb' => .inl (h.row.lt b hb').2
      have e3 : (es ++ [e])[es.length] = e := by simp
      rw [e3]
      have x : EntAt base w2 (Value.slice A es.length c).ownBlock e wr.heap.size m w2.heap.size := ⟨hb, hm1, hm2, Nat.le_refl _, h5, hu, hv⟩
      exact x.keep (by omega) (hkp _ _ x.high x.off) (hnew _ _ x.high x.off)
  · rw [hl] at hj
    by_cases e' : j < es.length
    · simp only [if_pos e', if_pos (show i < es.length by omega)]
      exact q2 i j hij e'
    · simp only [if_neg e', if_pos (show i < es.length by omega)]
      exact (q1 i (by omega)).high
  · rw [hl, flatEnt_snoc es e]
    exact hown
theorem ColR.capOk (h : ColR base wr es A c) : es.length ≤ c := by
  rcases h.row.2 with ⟨e, h0⟩ | ⟨g, cq, cur, e, hb, hgg, hn, _⟩
  · injection e with _ _ e
    omega
  · injection e with _ _ e
    omega
theorem ColR.rules (h : ColR base wr es A c) : OwnRules wr base wr.heap.size (.slice A es.length c) (es.map (·.1)) := by
  have hcells := @World.ownsRow.cells wr base 49 3 (.slice A es.length c) es.length (flatEnt es) h.row
  have hlt := h.row.lt
  have hn := h.capOk
  have hml : (es.map (·.1)).length = es.length := by simp
  refine ⟨A, c, by rw [hml], by rw [hml]; exact hn, fun hpos => ?_⟩
  rcases h.row.2 with ⟨e, h0⟩ | ⟨g, cq, cur, e, hb, hgg, _⟩
  · omega
  · injection e with e1 _ e3
    subst e1
    refine ⟨g, 0, rfl, hb, (hlt g rfl).2, fun k hk => ⟨⟨by simp [World.frozen?, hgg], by simp [World.frozen?, hgg]⟩, ?_⟩⟩
    rw [hml] at hk
    obtain ⟨c0, c1, c2⟩ := flatEnt_at es k hk
    have d0 := hcells (g := g) rfl _ _ c0
    have d1 := hcells (g := g) rfl _ _ c1
    have d2 := hcells (g := g) rfl _ _ c2
    rw [Go.WideShapes.add_plain] at d0 d1 d2
    obtain ⟨lo, mid, hi, q1, _⟩ := h.own
    have x := q1 k hk
    refine ⟨_, _, _, d0, d1, d2, ?_⟩
    simp only [List.getElem_map]
    exact ⟨rfl, x.head.mono x.low (by have := x.mh; have := x.high; omega), x.body.mono (by have := x.low; have := x.lm; omega) x.high⟩
end

end Go.Proofs.Ytofkcmihcgmmpaa
/-
  A program drawn: the walk of l2Program.
-/
namespace Go.Proofs.Ytofkcmihcgmmpaa
open Go.RowKit

/-- l2Program while its arity grows. -/
structure Pg1 (w wr : World) (g : Nat) (bs : List Nat) (q : Nat) (A : Option Addr) (c : Nat) (ar : List Int) : Prop where
  res : Blk wr w.heap.size 44 #[.slice none 0 0, .slice none 0 0]
  prg : Blk wr (w.heap.size + 2) 44 #[.slice A ar.length c, .slice none 0 0]
  own : wr.ownsRow (w.heap.size + 1) 3 1 (.slice A ar.length c) ar.length (ar.map (Value.int .i64))
  rdr : Rdr wr g bs q
  only : Only g (g + 1) w wr
section
variable {w wr w' w4 : World} {g q : Nat} {bs : List Nat} {A : Option Addr} {c : Nat} {ar : List Int}
theorem Pg1.start (h : Rdr w g bs q) : Pg1 w (((w.alloc (.cells #[.slice none 0 0, .slice none 0 0] 44)).alloc (.cells #[.int .i64 2, .int .i64 1] 3)).alloc (.cells #[.slice (some ⟨w.heap.size + 1, 0, none⟩) 2 2, .slice none 0 0] 44)) g bs q (some ⟨w.heap.size + 1, 0, none⟩) 2 [2, 1] := by
  have hb : Below w.heap.size w (((w.alloc (.cells #[.slice none 0 0, .slice none 0 0] 44)).alloc (.cells #[.int .i64 2, .int .i64 1] 3)).alloc (.cells #[.slice (some ⟨w.heap.size + 1, 0, none⟩) 2 2, .slice none 0 0] 44)) := bthen (bthen (below1 _ _) (below1 _ _)) (below1 _ _)
  refine ⟨((Blk.new _ _ _).alloc _).alloc _, ?_, ?_, h.below hb h.lt, Only.of_below hb⟩
  · have := Blk.new ((w.alloc (.cells #[.slice none 0 0, .slice none 0 0] 44)).alloc (.cells #[.int .i64 2, .int .i64 1] 3)) 44 #[.slice (some ⟨w.heap.size + 1, 0, none⟩) 2 2, .slice none 0 0]
    simpa using this
  · have := (own_two (w.alloc (.cells #[.slice none 0 0, .slice none 0 0] 44)) (w.heap.size + 1) 2 1 (by simp)).1
    simp only [World.size_alloc] at this
    exact this.alloc _
theorem Pg1.go (h : Pg1 w wr g bs q A c ar) (hg : g < w.heap.size) {q' : Nat} (hr : Rdr w' g bs q') (ho : Only g (g + 1) wr w') : Pg1 w w' g bs q' A c ar :=
  ⟨h.res.only ho (.inr (by omega)), h.prg.only ho (.inr (by omega)), ownsRow_only h.own fun b hb => ho.block b (h.own.lt b hb).2 (by have := (h.own.lt b hb).1; omega), hr, h.only.trans ho⟩
theorem Pg1.below (h : Pg1 w wr g bs q A c ar) (hg : g < w.heap.size) (hb : Below wr.heap.size wr w') : Pg1 w w' g bs q A c ar :=
  h.go hg (h.rdr.below hb (by have := h.only.size; omega)) (Only.of_below hb)
/-- What an append keeps ahead of the store. -/
theorem Pg1.kept {o : Obj} (h : Pg1 w wr g bs q A c ar) (hgr : (wr.alloc o).grownBy w4 (Value.slice A ar.length c).ownBlock) : Blk w4 (w.heap.size + 2) 44 #[.slice A ar.length c, .slice none 0 0] :=
  ((grown_from_alloc hgr).block _ h.prg.lt (fun e => blk_ne_own h.own h.prg (by decide) e.symm)).trans h.prg
theorem Pg1.push {g2 cap : Nat} {x : Int} {o : Obj} (h : Pg1 w wr g bs q A c ar) (hgw : g < w.heap.size) (hgr : (wr.alloc o).grownBy w4 (Value.slice A ar.length c).ownBlock)
    (hown : w4.ownsRow (w.heap.size + 1) 3 1 (.slice (some ⟨g2, 0, none⟩) (ar.length + 1) cap) (ar.length + 1) (ar.map (Value.int .i64) ++ [.int .i64 x])) :
    Pg1 w (w4.setCell ⟨w.heap.size + 2, 0, none⟩ (.slice (some ⟨g2, 0, none⟩) (ar.length + 1) cap)) g bs q (some ⟨g2, 0, none⟩) cap (ar ++ [x]) := by
  have hg2 := grown_from_alloc hgr
  have hp := h.kept hgr
  have hl : (ar ++ [x]).length = ar.length + 1 := by simp
  have hne : g2 ≠ w.heap.size + 2 := fun e => blk_ne_own hown hp (by decide) (by simp [Value.ownBlock, e])
  have hlow : ∀ b, b < w.heap.size + 1 → w4.heap[b]? = wr.heap[b]? := fun b hb => hg2.block b (by have := h.res.lt; omega) (fun e => by have := (h.own.lt b e.symm).1; omega)
  have hset : ∀ k, k ≠ w.heap.size + 2 → (w4.setCell ⟨w.heap.size + 2, 0, none⟩ (.slice (some ⟨g2, 0, none⟩) (ar.length + 1) cap)).heap[k]? = w4.heap[k]? := fun k hk => Below.heap_setCell _ _ _ k hk
  refine ⟨(hset _ (by omega)).trans ((hlow _ (by omega)).trans h.res), ?_, ?_, h.rdr.same fun k hk => (hset k (by omega)).trans (hlow k (by omega)), ⟨hg2.os.trans h.only.os, hg2.tape.trans h.only.tape, hg2.output.trans h.only.output, by have := h.only.size; have := hg2.size; simp; omega, fun b hb hn => (hset b (by omega)).trans ((hlow b (by omega)).trans (h.only.block b hb hn))⟩⟩
  · rw [hl]
    simpa using hp.set_ 0 (.slice (some ⟨g2, 0, none⟩) (ar.length + 1) cap)
  · rw [hl, List.map_append]
    exact ownsRow_only hown fun b hb => hset b (by have e1 : g2 = b := by simpa [Value.ownBlock] using hb
                                                   omega)
end

/-- l2Program while its rules grow: what the arity holds lies below B, what the rules hold from B on. -/
structure Pg2 (w wr : World) (B g : Nat) (bs : List Nat) (q : Nat) (A : Option Addr) (c : Nat) (ar : List Int) (Ar : Option Addr) (cr : Nat) (es : List Ent) : Prop where
  res : Blk wr w.heap.size 44 #[.slice none 0 0, .slice none 0 0]
  prg : Blk wr (w.heap.size + 2) 44 #[.slice A ar.length c, .slice Ar es.length cr]
  own : OwnInts wr (w.heap.size + 1) B (.slice A ar.length c) ar
  rules : ColR B wr es Ar cr
  low : w.heap.size + 2 < B
  high : B ≤ wr.heap.size
  rdr : Rdr wr g bs q
  only : Only g (g + 1) w wr
section
variable {w wr w' w2 w4 : World} {g q B : Nat} {bs : List Nat} {A Ar : Option Addr} {c cr : Nat} {ar : List Int} {es : List Ent}
theorem Pg1.two (h : Pg1 w wr g bs q A c ar) : Pg2 w wr wr.heap.size g bs q A c ar none 0 [] :=
  ⟨h.res, h.prg, ⟨h.own, fun b hb => (h.own.lt b hb).2⟩, ColR.nil _ _, h.prg.lt, Nat.le_refl _, h.rdr, h.only⟩
theorem Pg2.go (h : Pg2 w wr B g bs q A c ar Ar cr es) (hg : g < w.heap.size) {q' : Nat} (hr : Rdr w' g bs q') (ho : Only g (g + 1) wr w') : Pg2 w w' B g bs q' A c ar Ar cr es :=
  ⟨h.res.only ho (.inr (by omega)), h.prg.only ho (.inr (by omega)), h.own.only ho (.inr (by omega)), h.rules.only ho (by have := h.low; omega), h.low, Nat.le_trans h.high ho.size, hr, h.only.trans ho⟩
theorem Pg2.kept {o : Obj} (h : Pg2 w wr B g bs q A c ar Ar cr es) (hgr : (wr.alloc o).grownBy w4 (Value.slice Ar es.length cr).ownBlock) : ∀ b, b < B → w4.heap[b]? = wr.heap[b]? :=
  fun b hb => (grown_from_alloc hgr).block b (by have := h.high; omega) (fun e => by have := (h.rules.row.lt b e.symm).1; omega)
theorem Pg2.push {g2 cap q2 m : Nat} {e : Ent} {o : Obj} (h : Pg2 w wr B g bs q A c ar Ar cr es) (hgw : g < w.heap.size) (hr : Rdr w2 g bs q2) (ho : Only g (g + 1) wr w2)
    (hm1 : wr.heap.size ≤ m) (hm2 : m ≤ w2.heap.size) (hu : OwnInts w2 wr.heap.size m e.2.1 e.1.1.2) (hv : OwnLits w2 m w2.heap.size e.2.2 e.1.2)
    (hgr : (w2.alloc o).grownBy w4 (Value.slice Ar es.length cr).ownBlock) (hat : (Value.slice Ar es.length cr).ownBlock = some g2 ∨ g2 = (w2.alloc o).heap.size)
    (hown : w4.ownsRow B 49 3 (.slice (some ⟨g2, 0, none⟩) (es.length + 1) cap) (es.length + 1) (flatEnt es ++ [.int .i64 e.1.1.1, e.2.1, e.2.2])) :
    Pg2 w (w4.setCell ⟨w.heap.size + 2, 1, none⟩ (.slice (some ⟨g2, 0, none⟩) (es.length + 1) cap)) B g bs q2 A c ar (some ⟨g2, 0, none⟩) cap (es ++ [e]) := by
  have h2 := h.go hgw hr ho
  have hlow := h2.kept hgr
  have hB := h.low
  have hg2 := grown_from_alloc hgr
  have hl : (es ++ [e]).length = es.length + 1 := by simp
  have hset : ∀ k, k ≠ w.heap.size + 2 → (w4.setCell ⟨w.heap.size + 2, 1, none⟩ (.slice (some ⟨g2, 0, none⟩) (es.length + 1) cap)).heap[k]? = w4.heap[k]? := fun k hk => Below.heap_setCell _ _ _ k hk
  have hp : Blk w4 (w.heap.size + 2) 44 #[.slice A ar.length c, .slice Ar es.length cr] := (hlow _ hB).trans h2.prg
  have hown4 : OwnInts w4 (w.heap.size + 1) B (.slice A ar.length c) ar := h2.own.keep fun k _ k2 => hlow k k2
  have hcol := h.rules.push h.high ho (by omega) hm1 hm2 hu hv hgr hat hown
  have hsz : (w4.setCell ⟨w.heap.size + 2, 1, none⟩ (.slice (some ⟨g2, 0, none⟩) (es.length + 1) cap)).heap.size = w4.heap.size := by simp
  have hsz4 := hg2.size
  have hh2 := h2.high
  have hos := h2.only.size
  refine ⟨(hset _ (by omega)).trans ((hlow _ (by omega)).trans h2.res), ?_, hown4.kept fun b hb => hset b (fun e' => blk_ne_own hown4.1 hp (by decide) (by rw [← e']; exact hb)), hcol.keep (by rw [hsz]; exact Nat.le_refl _) (fun k k1 _ => hset k (by omega)), hB, by rw [hsz]; omega,
    hr.same fun k hk => (hset k (by omega)).trans (hlow k (by omega)), ⟨hg2.os.trans h2.only.os, hg2.tape.trans h2.only.tape, hg2.output.trans h2.only.output, by rw [hsz]; omega, fun b hb hn => (hset b (by omega)).trans ((hlow b (by omega)).trans (h2.only.block b hb hn))⟩⟩
  rw [hl]
  simpa using hp.set_ 1 (.slice (some ⟨g2, 0, none⟩) (es.length + 1) cap)
/-- A place of the arity is set anew. -/
theorem Pg2.set2 {ga : Nat} (h : Pg2 w wr B g bs q (some ⟨ga, 0, none⟩) c ar Ar cr es) (hg : g < w.heap.size) (hj : 2 < ar.length) (x : Int) : Pg2 w (wr.setCell ⟨ga, 2, none⟩ (.int .i64 x)) B g bs q (some ⟨ga, 0, none⟩) c (ar.set 2 x) Ar cr es := by
  have hb1 := (h.own.lt (g := ga) rfl).1
  have hb2 := (h.own.lt (g := ga) rfl).2.1
  have hne : ga ≠ w.heap.size + 2 := fun e => blk_ne_own h.own.1 h.prg (by decide) (by simp [Value.ownBlock, e])
  have hk : ∀ k, k ≠ ga → (wr.setCell ⟨ga, 2, none⟩ (.int .i64 x)).heap[k]? = wr.heap[k]? := fun k hk => Below.heap_setCell _ _ _ k hk
  have hsz : (wr.setCell ⟨ga, 2, none⟩ (.int .i64 x)).heap.size = wr.heap.size := by simp
  have hl : (ar.set 2 x).length = ar.length := by simp
  refine ⟨(hk _ (by omega)).trans h.res, ?_, ?_, h.rules.keep (by rw [hsz]; exact Nat.le_refl _) (fun k k1 _ => hk k (by omega)), h.low, by rw [hsz]; exact h.high, h.rdr.same fun k hk' => hk k (by omega), ⟨h.only.os, h.only.tape, h.only.output, by rw [hsz]; exact h.only.size, fun k hk' hn => (hk k (by omega)).trans (h.only.block k hk' hn)⟩⟩
  · rw [hl]
    exact (hk _ (by omega)).trans h.prg
  · rw [hl]
    exact h.own.store rfl hj x
/-- The result is laid. -/
theorem Pg2.done (h : Pg2 w wr B g bs q A c ar Ar cr es) (hg : g < w.heap.size) (hw : w' = (wr.setCell ⟨w.heap.size, 0, none⟩ (.slice A ar.length c)).setCell ⟨w.heap.size, 1, none⟩ (.slice Ar es.length cr)) :
    w.heap.size ≤ B ∧ B ≤ w'.heap.size ∧ OwnInts w' w.heap.size B (.slice A ar.length c) ar ∧ ColR B w' es Ar cr ∧ Rdr w' g bs q ∧ Only g (g + 1) w w' ∧ Blk w' w.heap.size 44 #[.slice A ar.length c, .slice Ar es.length cr] := by
  have hk : ∀ k, k ≠ w.heap.size → w'.heap[k]? = wr.heap[k]? := fun k hk => by
    rw [hw]
    exact (Below.heap_setCell _ _ _ k hk).trans (Below.heap_setCell _ _ _ k hk)
  have hsz : w'.heap.size = wr.heap.size := by rw [hw]; simp
  have hB := h.low
  refine ⟨by omega, by rw [hsz]; exact h.high, (h.own.keep fun k k1 _ => hk k (by omega)).mono (Nat.le_succ _) (Nat.le_refl _), h.rules.keep (by rw [hsz]; exact Nat.le_refl _) (fun k k1 _ => hk k (by omega)), h.rdr.same fun k hk' => hk k (by omega), ⟨?_, ?_, ?_, by rw [hsz]; exact h.only.size, fun k hk' hn => (hk k (by omega)).trans (h.only.block k hk' hn)⟩, ?_⟩
  · rw [hw]; exact h.only.os
  · rw [hw]; exact h.only.tape
  · rw [hw]; exact h.only.output
  · have := (h.res.set_ 0 (.slice A ar.length c)).set_ 1 (.slice Ar es.length cr)
    rw [hw]
    simpa using this
end

theorem two_at {w w1 w7 : World} {lo : Nat} {x y : Int} (h1 : w1 = w.alloc (.cells #[.int .i64 x, .int .i64 y] 3)) (hlo : lo ≤ w.heap.size) (hb : Below w1.heap.size w1 w7) : OwnInts w7 lo (w.heap.size + 1) (.slice (some ⟨w.heap.size, 0, none⟩) 2 2) [x, y] := by
  have hs : w1.heap.size = w.heap.size + 1 := by rw [h1]; simp
  have h := own_two w lo x y hlo
  rw [← h1] at h
  exact h.below hb (Nat.le_of_eq hs.symm)
theorem own_lits1 {w : World} {b lo hi : Nat} {l : LLit} {u : Value} (hB : Blk w b 28 #[.int .i64 l.1, .int .i64 l.2.1, u]) (h1 : lo ≤ b) (h2 : b < hi) (hu : OwnInts w lo hi u l.2.2) : OwnLits w lo hi (.slice (some ⟨b, 0, none⟩) 1 1) [l] :=
  ⟨some ⟨b, 0, none⟩, 1, rfl, Nat.le_refl _, fun _ => ⟨b, 0, rfl, h1, h2, fun k hk => ⟨⟨hB.frozen _, hB.frozen _⟩, by
    match k, hk with
    | 0, _ => exact ⟨_, _, _, hB.cell 0, hB.cell 1, hB.cell 2, rfl, rfl, hu⟩⟩⟩⟩
theorem own_lits2 {w : World} {b lo hi : Nat} {l m : LLit} {u v : Value} (hB : Blk w b 28 #[.int .i64 l.1, .int .i64 l.2.1, u, .int .i64 m.1, .int .i64 m.2.1, v]) (h1 : lo ≤ b) (h2 : b < hi) (hu : OwnInts w lo hi u l.2.2) (hv : OwnInts w lo hi v m.2.2) : OwnLits w lo hi (.slice (some ⟨b, 0, none⟩) 2 2) [l, m] :=
  ⟨some ⟨b, 0, none⟩, 2, rfl, Nat.le_refl _, fun _ => ⟨b, 0, rfl, h1, h2, fun k hk => ⟨⟨hB.frozen _, hB.frozen _⟩, by
    match k, hk with
    | 0, _ => exact ⟨_, _, _, hB.cell 0, hB.cell 1, hB.cell 2, rfl, rfl, hu⟩
    | 1, _ => exact ⟨_, _, _, hB.cell 3, hB.cell 4, hB.cell 5, rfl, rfl, hv⟩⟩⟩⟩
theorem seven {W wX : World} (hX : wX = (((((((W.alloc (.cells #[.int .i64 (-1), .int .i64 (-2)] 3)).alloc (.cells #[.int .i64 (-1), .int .i64 (-2)] 3)).alloc (.cells #[.int .i64 0, .int .i64 0, .slice (some ⟨W.heap.size + 1, 0, none⟩) 2 2] 28)).alloc (.cells #[.int .i64 (-1), .int .i64 (-2)] 3)).alloc (.cells #[.int .i64 (-1), .int .i64 (-3)] 3)).alloc (.cells #[.int .i64 (-3), .int .i64 (-2)] 3)).alloc (.cells #[.int .i64 0, .int .i64 0, .slice (some ⟨W.heap.size + 1 + 1 + 1 + 1, 0, none⟩) 2 2, .int .i64 0, .int .i64 2, .slice (some ⟨W.heap.size + 1 + 1 + 1 + 1 + 1, 0, none⟩) 2 2] 28))) : Below W.heap.size W wX ∧ OwnInts wX W.heap.size (W.heap.size + 1) (.slice (some ⟨W.heap.size, 0, none⟩) 2 2) [-1, -2] ∧ OwnLits wX (W.heap.size + 1) (W.heap.size + 3) (.slice (some ⟨W.heap.size + 1 + 1, 0, none⟩) 1 1) [((0 : Int), ((0 : Int), [(-1 : Int), -2]))] ∧
    wX.heap.size = W.heap.size + 7 ∧ OwnInts wX (W.heap.size + 3) (W.heap.size + 4) (.slice (some ⟨W.heap.size + 1 + 1 + 1, 0, none⟩) 2 2) [-1, -2] ∧ OwnLits wX (W.heap.size + 4) (W.heap.size + 7) (.slice (some ⟨W.heap.size + 1 + 1 + 1 + 1 + 1 + 1, 0, none⟩) 2 2) [((0 : Int), ((0 : Int), [(-1 : Int), -3])), ((0 : Int), ((2 : Int), [(-3 : Int), -2]))] := by
  obtain ⟨x1, h1⟩ : ∃ x, x = W.alloc (.cells #[.int .i64 (-1), .int .i64 (-2)] 3) := ⟨_, rfl⟩
  rw [← h1] at hX
  obtain ⟨x2, h2⟩ : ∃ x, x = x1.alloc (.cells #[.int .i64 (-1), .int .i64 (-2)] 3) := ⟨_, rfl⟩
  rw [← h2] at hX
  obtain ⟨x3, h3⟩ : ∃ x, x = x2.alloc (.cells #[.int .i64 0, .int .i64 0, .slice (some ⟨W.heap.size + 1, 0, none⟩) 2 2] 28) := ⟨_, rfl⟩
  rw [← h3] at hX
  obtain ⟨x4, h4⟩ : ∃ x, x = x3.alloc (.cells #[.int .i64 (-1), .int .i64 (-2)] 3) := ⟨_, rfl⟩
  rw [← h4] at hX
  obtain ⟨x5, h5⟩ : ∃ x, x = x4.alloc (.cells #[.int .i64 (-1), .int .i64 (-3)] 3) := ⟨_, rfl⟩
  rw [← h5] at hX
  obtain ⟨x6, h6⟩ : ∃ x, x = x5.alloc (.cells #[.int .i64 (-3), .int .i64 (-2)] 3) := ⟨_, rfl⟩
  rw [← h6] at hX
  have e1 : x1.heap.size = W.heap.size + 1 := by rw [h1]; simp
  have e2 : x2.heap.size = W.heap.size + 1 + 1 := by rw [h2]; simp [e1]
  have e3 : x3.heap.size = W.heap.size + 1 + 1 + 1 := by rw [h3]; simp [e2]
  have e4 : x4.heap.size = W.heap.size + 1 + 1 + 1 + 1 := by rw [h4]; simp [e3]
  have e5 : x5.heap.size = W.heap.size + 1 + 1 + 1 + 1 + 1 := by rw [h5]; simp [e4]
  have e6 : x6.heap.size = W.heap.size + 1 + 1 + 1 + 1 + 1 + 1 := by rw [h6]; simp [e5]
  have e7 : wX.heap.size = W.heap.size + 1 + 1 + 1 + 1 + 1 + 1 + 1 := by rw [hX]; simp [e6]
  have b6 : Below x6.heap.size x6 wX := by rw [hX]; exact below1 _ _
  have b5 : Below x5.heap.size x5 wX := bthen (by rw [h6]; exact below1 _ _) b6
  have b4 : Below x4.heap.size x4 wX := bthen (by rw [h5]; exact below1 _ _) b5
  have b3 : Below x3.heap.size x3 wX := bthen (by rw [h4]; exact below1 _ _) b4
  have b2 : Below x2.heap.size x2 wX := bthen (by rw [h3]; exact below1 _ _) b3
  have b1 : Below x1.heap.size x1 wX := bthen (by rw [h2]; exact below1 _ _) b2
  have b0 : Below W.heap.size W wX := bthen (by rw [h1]; exact below1 _ _) b1
  have c2 : Blk wX x2.heap.size 28 #[.int .i64 0, .int .i64 0, .slice (some ⟨W.heap.size + 1, 0, none⟩) 2 2] := Blk.below (by rw [h3]; exact Blk.new _ _ _) b3 (by omega)
  have c6 : Blk wX x6.heap.size 28 #[.int .i64 0, .int .i64 0, .slice (some ⟨W.heap.size + 1 + 1 + 1 + 1, 0, none⟩) 2 2, .int .i64 0, .int .i64 2, .slice (some ⟨W.heap.size + 1 + 1 + 1 + 1 + 1, 0, none⟩) 2 2] := by rw [hX]; exact Blk.new _ _ _
  have d0 := two_at h1 (Nat.le_refl W.heap.size) b1
  have d1 := two_at (lo := W.heap.size + 1) h2 (by omega) b2
  have d3 := two_at (lo := W.heap.size + 3) h4 (by omega) b4
  have d4 := two_at (lo := W.heap.size + 4) h5 (by omega) b5
  have d5 := two_at (lo := W.heap.size + 4) h6 (by omega) b6
  rw [e1] at d1
  rw [e3] at d3
  rw [e4] at d4
  rw [e5] at d5
  rw [e2] at c2
  rw [e6] at c6
  exact ⟨b0, d0, own_lits1 c2 (by omega) (by omega) (d1.mono (Nat.le_refl _) (by omega)), e7, d3, own_lits2 c6 (by omega) (by omega) (d4.mono (Nat.le_refl _) (by omega)) (d5.mono (Nat.le_refl _) (by omega))⟩
theorem alloc_late {wn : World} {o : Obj} {a b : Nat} {x y z : Value} (ha : a < wn.heap.size) (hb : b < wn.heap.size) : (((wn.setCell ⟨a, 1, none⟩ x).setCell ⟨b, 0, none⟩ y).setCell ⟨b, 1, none⟩ z).alloc o = (((wn.alloc o).setCell ⟨a, 1, none⟩ x).setCell ⟨b, 0, none⟩ y).setCell ⟨b, 1, none⟩ z := by
  rw [World.setCell_alloc_past o a 1 x ha, World.setCell_alloc_past o b 0 y (by simpa using hb), World.setCell_alloc_past o b 1 z (by simpa using hb)]
/-- Three rules in a row that is laid anew. -/
theorem Pg2.three {w w' wn : World} {g q B : Nat} {bs : List Nat} {A Ar : Option Addr} {c cr : Nat} {ar : List Int} {es : List Ent} {e1 e2 e3 : Ent} (h : Pg2 w wn B g bs q A c ar Ar cr es) (hg : g < w.heap.size)
    (ho : ∃ lo mid hi : Nat → Nat, (∀ i (h : i < [e1, e2, e3].length), EntAt B wn none [e1, e2, e3][i] (lo i) (mid i) (hi i)) ∧ ∀ i j, i < j → j < 3 → hi i ≤ lo j)
    (hw : w' = (wn.alloc (.cells #[.int .i64 e1.1.1.1, e1.2.1, e1.2.2, .int .i64 e2.1.1.1, e2.2.1, e2.2.2, .int .i64 e3.1.1.1, e3.2.1, e3.2.2] 49)).setCell ⟨w.heap.size + 2, 1, none⟩ (.slice (some ⟨wn.heap.size, 0, none⟩) 3 3)) :
    Pg2 w w' B g bs q A c ar (some ⟨wn.heap.size, 0, none⟩) 3 [e1, e2, e3] := by
  have hB := h.low
  have hH := h.high
  have hk : ∀ k, k < wn.heap.size → k ≠ w.heap.size + 2 → w'.heap[k]? = wn.heap[k]? := fun k h1 h2 => by
    rw [hw]
    exact (Below.heap_setCell _ _ _ k h2).trans (Below.heap_alloc _ _ k h1)
  have hsz : w'.heap.size = wn.heap.size + 1 := by rw [hw]; simp
  have hos := h.only.size
  have hrow : w'.heap[wn.heap.size]? = some (.cells #[.int .i64 e1.1.1.1, e1.2.1, e1.2.2, .int .i64 e2.1.1.1, e2.2.1, e2.2.2, .int .i64 e3.1.1.1, e3.2.1, e3.2.2] 49 (0, 0)) := by
    rw [hw]
    exact (Below.heap_setCell _ _ _ wn.heap.size (by show wn.heap.size ≠ w.heap.size + 2; omega)).trans (heap_alloc_new wn _)
  refine ⟨(hk _ (by omega) (by omega)).trans h.res, ?_, h.own.kept fun b hb => hk b (h.own.lt hb).2.2 (fun e' => blk_ne_own h.own.1 h.prg (by decide) (by rw [← e']; exact hb)), ⟨?_, ?_⟩, hB, by omega,
    h.rdr.same fun k hk' => hk k (by omega) (by omega), ⟨?_, ?_, ?_, by omega, fun k hk' hn => (hk k (by omega) (by omega)).trans (h.only.block k hk' hn)⟩⟩
  · have := (h.prg.alloc (.cells #[.int .i64 e1.1.1.1, e1.2.1, e1.2.2, .int .i64 e2.1.1.1, e2.2.1, e2.2.2, .int .i64 e3.1.1.1, e3.2.1, e3.2.2] 49)).set_ 1 (.slice (some ⟨wn.heap.size, 0, none⟩) 3 3)
    rw [hw]
    simpa using this
  · obtain ⟨lo, mid, hi, q1, q2⟩ := ho
    refine ⟨lo, mid, hi, fun i hi' => ?_, q2⟩
    have x := q1 i hi'
    have y1 := x.low
    have y4 := x.high
    exact x.keep (by omega) (fun k k1 k2 => hk k (by omega) (by omega)) fun b hb => by
      have e' : wn.heap.size = b := by simpa [Value.ownBlock] using hb
      omega
  · exact ⟨rfl, .inr ⟨wn.heap.size, 3, _, rfl, hH, hrow, Nat.le_refl _, by unfold maxLen; omega, rfl, rfl⟩⟩
  · rw [hw]; exact h.only.os
  · rw [hw]; exact h.only.tape
  · rw [hw]; exact h.only.output

set_option maxHeartbeats 4000000 in
set_option maxRecDepth 100000 in
theorem l2Program_any (g : Nat) (bs : List Nat) (p : Nat) (no : Int) (w : World) (h : Rdr w g bs p) (hp : p ≤ 1000000) :
    Calls Try.prog 46 #[.pointer (some ⟨g, 0, none⟩), .int .i64 no] w fun e w' => ∃ (A Ar : Option Addr) (c cr B q : Nat) (ar : List Int) (es : List Ent), e = .returned (.agg #[.slice A ar.length c, .slice Ar es.length cr]) ∧ 4 ≤ ar.length ∧ ar.length ≤ 5 ∧ (∀ x ∈ ar, 0 ≤ x ∧ x ≤ 2) ∧ 1 ≤ es.length ∧ es.length ≤ 4 ∧ (∀ e ∈ es, e.1.1.2.length ≤ 2 ∧ e.1.2.length ≤ 4 ∧ totL e.1.2 ≤ 8 ∧ KindsOk e.1.2) ∧ q ≤ p + 1600 ∧
      w.heap.size ≤ B ∧ B ≤ w'.heap.size ∧ OwnInts w' w.heap.size B (.slice A ar.length c) ar ∧ ColR B w' es Ar cr ∧ Rdr w' g bs q ∧ Only g (g + 1) w w' := by
  obtain ⟨i0, hi0, hz0, hz1, hz2⟩ := info_parts Try.infoInt
  obtain ⟨i2, hj0, hy0, hy1, hy2⟩ := info_parts Try.infoRule
  have hgl := h.lt
  have HS := Lib.hid (Pg1.start h)
  clear h
  go_enter Try.func46, Try.ntmps46
  go_upto_region 2 with (fail)
  obtain ⟨wS, hwS⟩ : ∃ wS, wS = (((w.alloc (.cells #[.slice none 0 0, .slice none 0 0] 44)).alloc (.cells #[.int .i64 2, .int .i64 1] 3)).alloc (.cells #[.slice (some ⟨w.heap.size + 1, 0, none⟩) 2 2, .slice none 0 0] 44)) := ⟨_, rfl⟩
  rw [← hwS] at HS ⊢
  clear hwS
  go_wp2_with (fail)
  refine (pick_any g bs p 2 _ HS.out.rdr (by omega) (by omega)).mono ?_
  rintro e w1 ⟨⟨x, rfl, hx⟩, hp1⟩
  have hxr : 0 ≤ x ∧ x < 2 := hx.1 (by omega)
  obtain ⟨i, hi1, hi2, hi3⟩ : ∃ i : Nat, IntKind.i64.wrap (2 + x) = (i : Int) ∧ i ≤ 3 ∧ 2 ≤ i := ⟨(2 + x).toNat, by unfold IntKind.wrap; simp [IntKind.bits, IntKind.signed]; omega, by omega, by omega⟩
  have H1 := Lib.hid (HS.out.go hgl hp1.1 hp1.2)
  clear hp1 hx
  go_wp2_with (fail)
  go_loopw [6] (fun i wr => ∃ (k q : Nat) (A : Option Addr) (c : Nat) (ar : List Int), k ≤ 3 ∧ i = .int .i64 k ∧ ar.length + k ≤ 5 ∧ 4 ≤ ar.length + k ∧ (∀ x ∈ ar, 0 ≤ x ∧ x ≤ 2) ∧ q + k ≤ p + 4 ∧ Pg1 w wr g bs q A c ar) (fun i _ => (intOf i).toNat)
  case atStart => exact ⟨i, p + 1, _, _, _, hi2, rfl, by simp; omega, by simp; omega, by simp, by omega, H1.out⟩
  case round =>
    obtain ⟨k, q, A, c, ar, hk, rfl, hal, ham, har, hq, hr⟩ := hrel
    have HR := Lib.hid hr
    have HAR := Lib.hid har
    clear hr har
    by_cases hlt : 0 < k
    · have hkb : decide (0 < (k : Int)) = true := by simp; omega
      obtain ⟨SS, hSS⟩ : ∃ SS : World → Prop, SS = (fun W => W.cell? ⟨w.heap.size + 2, 0, none⟩ = some (.slice A ar.length c)) := ⟨_, rfl⟩
      have HB := Lib.hid (show ∀ W, SS W → W.cell? ⟨w.heap.size + 2, 0, none⟩ = some (.slice A ar.length c) from by rw [hSS]; exact fun W hW => hW)
      have HC := Lib.hid (show ∀ W (q : Nat), Pg1 w W g bs q A c ar → SS W from by rw [hSS]; exact fun W q hW => hW.prg.cell 0)
      have HC1 := Lib.hid (show ∀ W, W.cell? ⟨w.heap.size + 2, 0, none⟩ = some (.slice A ar.length c) → SS W from by rw [hSS]; exact fun W hW => hW)
      clear hSS
      go_upto_region 5 with (fail)
      have HRd := Lib.hid (HR.out.below hgl (Below.refl _ _).drew)
      have SB := HC.out _ _ HRd.out
      refine wp_region_rel SS 8 9 (by kernel_rfl) rfl ?_
      refine wpAnyR_pure (i := 0) (oi := _) ?v0 rfl rfl (by kernel_rfl) (by decide) (fun _ _ _ h => h) rfl ?hy0 (fun _ => SB) ?rest0
      case hy0 => (intro W; go_simp; (try with_reducible rfl))
      try simp only [List.setIfInBounds_toArray, List.set_cons_zero, List.set_cons_succ]
      refine wpAnyR_pure (i := 2) (oi := _) ?v2 rfl rfl (by kernel_rfl) (by decide) (fun _ _ _ h => h) rfl ?hy2 (fun _ => SB) ?rest2
      case hy2 => (intro W; go_simp; (try with_reducible rfl))
      try simp only [List.setIfInBounds_toArray, List.set_cons_zero, List.set_cons_succ]
      refine wpAnyR_take (i := 1) (oi := _) ?v1 rfl rfl (by kernel_rfl) (fun _ _ _ h => h) rfl ?hy1 SB ?rest1
      case hy1 => (intro W hW; obtain E0 := HB.out W hW; go_simp; (try with_reducible rfl))
      try simp only [List.setIfInBounds_toArray, List.set_cons_zero, List.set_cons_succ]
      refine wpAnyR_one (i := 3) (by kernel_rfl) rfl (fun K hK => ?_)
      try rw [if_pos (show Region.wanted _ _ = true from rfl)]
      go_simp
      refine hK.out _ _ (fun _ => HC.out _ _ (HRd.out.below hgl (below1 _ _))) ?_
      clear hK K
      try simp only [List.setIfInBounds_toArray, List.set_cons_zero, List.set_cons_succ, Act.put]
      refine wpAnyR_one (i := 4) (by kernel_rfl) rfl (fun K hK => ?_)
      try rw [if_pos (show Region.wanted _ _ = true from rfl)]
      go_simp
      have HX3 := Lib.hid (HRd.out.below hgl (below1 wr.drew (.cells #[.int .i64 2, .int .i64 1, .int .i64 2, .int .i64 0] 3)))
      refine (num_any g bs q _ _ [2, 1, 2, 0] 4 _ HX3.out.rdr (by omega) (Blk.new _ _ _) rfl (by have := HX3.out.rdr.lt; have := HR.out.only.size; show wr.heap.size ≠ g; omega) rfl (by simp) (by simp)).mono ?_
      rintro e wn ⟨⟨z, rfl, hz⟩, hpn⟩
      have hzr : 0 ≤ z ∧ z ≤ 2 := by simp at hz; omega
      have Hn := Lib.hid (HX3.out.go hgl hpn.1 hpn.2)
      clear hpn hz
      refine hK.out _ _ (fun _ => HC.out _ _ Hn.out) ?_
      clear hK K
      try simp only [List.setIfInBounds_toArray, List.set_cons_zero, List.set_cons_succ, Act.put]
      refine wpAnyR_one (i := 5) (by kernel_rfl) rfl (fun K hK => ?_)
      try rw [if_pos (show Region.wanted _ _ = true from rfl)]
      go_simp
      refine hK.out _ _ (fun _ => HC.out _ _ (Hn.out.below hgl (below1 _ _))) ?_
      clear hK K
      try simp only [List.setIfInBounds_toArray, List.set_cons_zero, List.set_cons_succ, Act.put]
      refine wpAnyR_one (i := 6) (by kernel_rfl) rfl (fun K hK => ?_)
      refine step_append_lies _ rfl (.tmp 18) (.tmp 22) 24 rfl (w.heap.size + 1) 3 i0 (.int .i64 0) 1 8 Try.underlying24 hi0 hz0 hz1 hz2 rfl (by decide) (.slice A ar.length c) ar.length (ar.map (Value.int .i64)) rfl ?c1 ⟨wn.heap.size, 0, none⟩ 1 1 [.int .i64 z] rfl rfl ?c4 ?c2 (by omega) (by unfold maxLen; omega) (by omega) ?c3 _ rfl ?c5
      case c1 => exact Hn.out.own.alloc _
      case c4 => exact cell_one_new _ _ _
      case c2 => intro u hu; simp at hu; subst hu; rfl
      case c3 => have := Hn.out.prg.lt; simp; omega
      case c5 =>
        intro g2 cap w5 hown hgr _ _
        have HST := Lib.hid (Hn.out.push hgl hgr hown)
        have hkf := Hn.out.kept hgr
        have e1 : w5.cell? ⟨w.heap.size + 2, 0, none⟩ = some (.slice A ar.length c) := hkf.cell 0
        have e2 := hkf.frozen 0
        clear hkf hown hgr
        refine hK.out _ _ (fun _ => HC1.out _ e1) ?_
        clear hK K
        try simp only [List.setIfInBounds_toArray, List.set_cons_zero, List.set_cons_succ, Act.put]
        refine wpAnyR_pure (i := 7) (oi := _) ?v7 rfl rfl (by kernel_rfl) (by decide) (fun _ _ _ h => h) rfl ?hy7 (fun _ => HC1.out _ e1) ?rest7
        case hy7 => (intro W; go_simp; (try with_reducible rfl))
        try simp only [List.setIfInBounds_toArray, List.set_cons_zero, List.set_cons_succ]
        refine wpAnyR_one (i := 8) (by kernel_rfl) rfl (fun K hK => ?_)
        go_simp
        refine hK.out _ _ (fun hf => absurd hf (by decide)) ?_
        clear hK K
        refine wpAnyR_done (by kernel_rfl) ?_
        obtain ⟨ar2, har2⟩ : ∃ ar2, ar2 = ar ++ [z] := ⟨_, rfl⟩
        have hl2 : ar.length + 1 = ar2.length := by rw [har2]; simp
        have HA2 := Lib.hid (show ∀ x ∈ ar2, 0 ≤ x ∧ x ≤ 2 from by rw [har2]; intro x hx; rcases List.mem_append.1 hx with hx | hx; exact HAR.out x hx; (simp at hx; subst hx; exact hzr))
        rw [← har2] at HST
        rw [hl2] at HST ⊢
        have hl3 := Lib.hid hl2
        clear har2 hl2 e1 e2
        go_wp2_with (fail)
        go_roundw
        case rel => exact ⟨k - 1, q + 1, _, _, ar2, by omega, by go_num, by have := hl3.out; omega, by have := hl3.out; omega, HA2.out, by omega, HST.out⟩
        case measure => simp [intOf]; omega
    · have hk0 : k = 0 := by omega
      subst hk0
      have hkb : decide (0 < ((0 : Nat) : Int)) = false := rfl
      obtain ⟨wL, hwL⟩ : ∃ wL, wL = wr := ⟨_, rfl⟩
      subst hwL
      have HL := Lib.hid HR.out.two
      obtain ⟨B, hBe⟩ : ∃ B, B = wL.heap.size := ⟨_, rfl⟩
      rw [← hBe] at HL
      have hal5 : ar.length ≤ 5 := by omega
      have hal4 : 4 ≤ ar.length := by omega
      have hq4 : q ≤ p + 4 := by omega
      clear hBe hal ham hq hk hlt HR
      go_wp2_with (fail)
      refine (pick_any g bs q 4 _ HL.out.rdr (by omega) (by omega)).mono ?_
      rintro e w2 ⟨⟨y, rfl, hy⟩, hp2⟩
      have hyr : 0 ≤ y ∧ y < 4 := hy.1 (by omega)
      obtain ⟨n, hn1, hn2, hn3⟩ : ∃ n : Nat, IntKind.i64.wrap (1 + y) = (n : Int) ∧ n ≤ 4 ∧ 1 ≤ n := ⟨(1 + y).toNat, by unfold IntKind.wrap; simp [IntKind.bits, IntKind.signed]; omega, by omega, by omega⟩
      have H2 := Lib.hid (HL.out.go hgl hp2.1 hp2.2)
      clear hp2 hy
      go_wp2_with (fail)
      clear HL
      rename World => wL0
      go_loopw [7] (fun i wr => ∃ (k q : Nat) (Ar : Option Addr) (cr : Nat) (es : List Ent), k ≤ 4 ∧ i = .int .i64 k ∧ es.length + k ≤ 4 ∧ 1 ≤ es.length + k ∧ (∀ e ∈ es, e.1.1.2.length ≤ 2 ∧ e.1.2.length ≤ 4 ∧ totL e.1.2 ≤ 8 ∧ KindsOk e.1.2) ∧ q + 300 * k ≤ p + 1205 ∧ Pg2 w wr B g bs q A c ar Ar cr es) (fun i _ => (intOf i).toNat)
      case atStart => exact ⟨n, q + 1, none, 0, [], hn2, rfl, by simp; omega, by simp; omega, by simp, by omega, H2.out⟩
      case round =>
        obtain ⟨k, q, Ar, cr, es, hk, rfl, hal, ham, har, hq, hr⟩ := hrel
        have HR := Lib.hid hr
        have HES := Lib.hid har
        clear hr har
        by_cases hlt : 0 < k
        · have hkb : decide (0 < (k : Int)) = true := by simp; omega
          obtain ⟨SS, hSS⟩ : ∃ SS : World → Prop, SS = (fun W => W.cell? ⟨w.heap.size + 2, 0, none⟩ = some (.slice A ar.length c) ∧ W.cell? ⟨w.heap.size + 2, 1, none⟩ = some (.slice Ar es.length cr)) := ⟨_, rfl⟩
          have HB := Lib.hid (show ∀ W, SS W → W.cell? ⟨w.heap.size + 2, 0, none⟩ = some (.slice A ar.length c) ∧ W.cell? ⟨w.heap.size + 2, 1, none⟩ = some (.slice Ar es.length cr) from by rw [hSS]; exact fun W hW => hW)
          have HC := Lib.hid (show ∀ W (q : Nat), Pg2 w W B g bs q A c ar Ar cr es → SS W from by rw [hSS]; exact fun W q hW => ⟨hW.prg.cell 0, hW.prg.cell 1⟩)
          have HC1 := Lib.hid (show ∀ W, W.cell? ⟨w.heap.size + 2, 0, none⟩ = some (.slice A ar.length c) → W.cell? ⟨w.heap.size + 2, 1, none⟩ = some (.slice Ar es.length cr) → SS W from by rw [hSS]; exact fun W hW hW' => ⟨hW, hW'⟩)
          clear hSS
          go_upto_region 9 with (fail)
          have HRd := Lib.hid (HR.out.go hgl (HR.out.rdr.below (Below.refl _ _).drew HR.out.rdr.lt) (Only.of_below (Below.refl _ _).drew))
          have SB := HC.out _ _ HRd.out
          have hlowB := HR.out.low
          refine wp_region_rel SS 10 11 (by kernel_rfl) rfl ?_
          refine wpAnyR_pure (i := 0) (oi := _) ?x0 rfl rfl (by kernel_rfl) (by decide) (fun _ _ _ h => h) rfl ?gy0 (fun _ => SB) ?rust0
          case gy0 => (intro W; go_simp; (try with_reducible rfl))
          try simp only [List.setIfInBounds_toArray, List.set_cons_zero, List.set_cons_succ]
          refine wpAnyR_pure (i := 2) (oi := _) ?x2 rfl rfl (by kernel_rfl) (by decide) (fun _ _ _ h => h) rfl ?gy2 (fun _ => SB) ?rust2
          case gy2 => (intro W; go_simp; (try with_reducible rfl))
          try simp only [List.setIfInBounds_toArray, List.set_cons_zero, List.set_cons_succ]
          refine wpAnyR_pure (i := 3) (oi := _) ?x3 rfl rfl (by kernel_rfl) (by decide) (fun _ _ _ h => h) rfl ?gy3 (fun _ => SB) ?rust3
          case gy3 => (intro W; go_simp; (try with_reducible rfl))
          try simp only [List.setIfInBounds_toArray, List.set_cons_zero, List.set_cons_succ]
          refine wpAnyR_pure (i := 5) (oi := _) ?x5 rfl rfl (by kernel_rfl) (by decide) (fun _ _ _ h => h) rfl ?gy5 (fun _ => SB) ?rust5
          case gy5 => (intro W; go_simp; (try with_reducible rfl))
          try simp only [List.setIfInBounds_toArray, List.set_cons_zero, List.set_cons_succ]
          refine wpAnyR_take (i := 1) (oi := _) ?x1 rfl rfl (by kernel_rfl) (fun _ _ _ h => h) rfl ?gy1 SB ?rust1
          case gy1 => (intro W hW; obtain ⟨E0, E1⟩ := HB.out W hW; go_simp; (try with_reducible rfl))
          try simp only [List.setIfInBounds_toArray, List.set_cons_zero, List.set_cons_succ]
          refine wpAnyR_take (i := 4) (oi := _) ?x4 rfl rfl (by kernel_rfl) (fun _ _ _ h => h) rfl ?gy4 SB ?rust4
          case gy4 => (intro W hW; obtain ⟨E0, E1⟩ := HB.out W hW; go_simp; (try with_reducible rfl))
          try simp only [List.setIfInBounds_toArray, List.set_cons_zero, List.set_cons_succ]
          refine wpAnyR_one (i := 6) (by kernel_rfl) rfl (fun K hK => ?_)
          try rw [if_pos (show Region.wanted _ _ = true from rfl)]
          go_simp
          refine (l2Make_any g bs q (w.heap.size + 1) B 2 no (.slice A ar.length c) ar wr.drew HRd.out.rdr (by omega) HRd.out.own (by omega) HRd.out.high HAR.out (by omega) (by omega)).mono ?_
          rintro e wn ⟨ua, ub, rr, qn, mm, rfl, hr1, hr2, hr3, hr4, hqn, hm1, hm2, hoa, hob, hrn, hOn⟩
          have Hn := Lib.hid (HRd.out.go hgl hrn hOn)
          have HX := Lib.hid (And.intro hoa (And.intro hob (And.intro hrn (And.intro hOn (And.intro hm1 hm2)))))
          clear hoa hob hrn hOn hm1 hm2
          refine hK.out _ _ (fun _ => HC.out _ _ Hn.out) ?_
          clear hK K
          try simp only [List.setIfInBounds_toArray, List.set_cons_zero, List.set_cons_succ, Act.put]
          refine wpAnyR_one (i := 7) (by kernel_rfl) rfl (fun K hK => ?_)
          try rw [if_pos (show Region.wanted _ _ = true from rfl)]
          go_simp
          refine hK.out _ _ (fun _ => HC.out _ _ (Hn.out.go hgl (Hn.out.rdr.below (below1 _ _) Hn.out.rdr.lt) (Only.of_below (below1 _ _)))) ?_
          clear hK K
          try simp only [List.setIfInBounds_toArray, List.set_cons_zero, List.set_cons_succ, Act.put]
          refine wpAnyR_one (i := 8) (by kernel_rfl) rfl (fun K hK => ?_)
          refine step_append_lies _ rfl (.tmp 33) (.tmp 39) 42 rfl B 49 i2 (.agg #[.int .i64 0, .slice none 0 0, .slice none 0 0]) 3 56 Try.underlying42 hj0 hy0 hy1 hy2 rfl (by decide) (.slice Ar es.length cr) es.length (flatEnt es) rfl ?d1 ⟨wn.heap.size, 0, none⟩ 1 1 [.int .i64 rr.1.1, ua, ub] rfl rfl ?d4 ?d2 (by omega) (by unfold maxLen; omega) (by omega) ?d3 _ rfl ?d5
          case d1 => exact Hn.out.rules.row.alloc _
          case d4 => exact World.news_of_block (cs := #[.int .i64 rr.1.1, ua, ub]) (heap_alloc_new wn _)
          case d2 =>
            intro u hu
            simp only [List.mem_cons, List.not_mem_nil, or_false] at hu
            rcases hu with rfl | rfl | rfl
            · rfl
            · obtain ⟨_, _, e⟩ := HX.out.1.form
              rw [e]
              rfl
            · obtain ⟨_, _, e, _⟩ := HX.out.2.1
              rw [e]
              rfl
          case d3 => have := Hn.out.high; simp; omega
          case d5 =>
            intro g2 cap w5 hown hgr hat _
            have HST := Lib.hid (HRd.out.push (e := (rr, ua, ub)) hgl HX.out.2.2.1 HX.out.2.2.2.1 HX.out.2.2.2.2.1 HX.out.2.2.2.2.2 HX.out.1 HX.out.2.1 hgr hat hown)
            have hkf := (Hn.out.kept hgr _ hlowB).trans Hn.out.prg
            have e0 : w5.cell? ⟨w.heap.size + 2, 0, none⟩ = some (.slice A ar.length c) := Blk.cell hkf 0
            have e1 : w5.cell? ⟨w.heap.size + 2, 1, none⟩ = some (.slice Ar es.length cr) := Blk.cell hkf 1
            have e2 := Blk.frozen hkf 1
            clear hkf hown hgr hat
            refine hK.out _ _ (fun _ => HC1.out _ e0 e1) ?_
            clear hK K
            try simp only [List.setIfInBounds_toArray, List.set_cons_zero, List.set_cons_succ, Act.put]
            refine wpAnyR_pure (i := 9) (oi := _) ?x9 rfl rfl (by kernel_rfl) (by decide) (fun _ _ _ h => h) rfl ?gy9 (fun _ => HC1.out _ e0 e1) ?rust9
            case gy9 => (intro W; go_simp; (try with_reducible rfl))
            try simp only [List.setIfInBounds_toArray, List.set_cons_zero, List.set_cons_succ]
            refine wpAnyR_one (i := 10) (by kernel_rfl) rfl (fun K hK => ?_)
            go_simp
            refine hK.out _ _ (fun hf => absurd hf (by decide)) ?_
            clear hK K
            refine wpAnyR_done (by kernel_rfl) ?_
            obtain ⟨es2, hes2⟩ : ∃ es2, es2 = es ++ [((rr, ua, ub) : Ent)] := ⟨_, rfl⟩
            have hl2 : es.length + 1 = es2.length := by rw [hes2]; simp
            have HE2 := Lib.hid (show ∀ e ∈ es2, e.1.1.2.length ≤ 2 ∧ e.1.2.length ≤ 4 ∧ totL e.1.2 ≤ 8 ∧ KindsOk e.1.2 from by rw [hes2]; intro x hx; rcases List.mem_append.1 hx with hx | hx; exact HES.out x hx; (simp at hx; subst hx; exact ⟨hr1, hr2, hr3, hr4⟩))
            rw [← hes2] at HST
            rw [hl2] at HST ⊢
            have hl3 := Lib.hid hl2
            clear hes2 hl2 e0 e1 e2
            go_wp2_with (fail)
            go_roundw
            case rel => exact ⟨k - 1, qn, _, _, es2, by omega, by go_num, by have := hl3.out; omega, by have := hl3.out; omega, HE2.out, by omega, HST.out⟩
            case measure => simp [intOf]; omega
        · have hk0 : k = 0 := by omega
          subst hk0
          have hkb : decide (0 < ((0 : Nat) : Int)) = false := rfl
          have hes4 : es.length ≤ 4 := by omega
          have hes1 : 1 ≤ es.length := by omega
          have hq5 : q ≤ p + 1205 := by omega
          clear hal ham hq hlt
          go_wp2_with (fail)
          refine (pick_any g bs q 3 _ HR.out.rdr (by omega) (by omega)).mono ?_
          rintro e w3 ⟨⟨z, rfl, _⟩, hp3⟩
          have H3 := Lib.hid (HR.out.go hgl hp3.1 hp3.2)
          clear hp3
          by_cases hz : z = 0
          · have hzb : (z == 0) = true := by simp [hz]
            clear hz
            obtain ⟨ga, rfl⟩ : ∃ ga, A = some ⟨ga, 0, none⟩ := by
              obtain ⟨g2, cap, e, _⟩ := H3.out.own.1.form (by omega)
              injection e with e1 _ _
              exact ⟨g2, e1⟩
            have k0 : w3.cell? ⟨w.heap.size + 2, 0, none⟩ = some (.slice (some ⟨ga, 0, none⟩) ar.length c) := H3.out.prg.cell 0
            have a0 : w3.cell? ⟨ga, 2, none⟩ = some (.int .i64 (ar[2]'(by omega))) := by rw [H3.out.own.1.cellAt 2 (by omega)]; simp [show 2 < ar.length by omega]
            have a1 := H3.out.own.1.frozenAt 2
            have hix : decide ((2 : Int) < (ar.length : Int)) = true := by simp; omega
            have H4 := Lib.hid (H3.out.set2 hgl (by omega) 2)
            have HA2 := Lib.hid (show ∀ x ∈ ar.set 2 2, 0 ≤ x ∧ x ≤ 2 from fun x hx => by
              rcases List.mem_or_eq_of_mem_set hx with hx | hx
              · exact HAR.out x hx
              · omega)
            have hl2 := Lib.hid (show (ar.set 2 2).length = ar.length by simp)
            go_upto_region 12 with (fail)
            obtain ⟨ar2, har2⟩ : ∃ ar2, ar2 = ar.set 2 (2 : Int) := ⟨_, rfl⟩
            obtain ⟨wA, hwA⟩ : ∃ wA, wA = w3.setCell ⟨ga, 2, none⟩ (.int .i64 2) := ⟨_, rfl⟩
            rw [← hwA]
            rw [← har2] at H4 HA2 hl2
            rw [← hwA] at H4
            have hl4 : 4 ≤ ar2.length := by have := hl2.out; omega
            have hl5 : ar2.length ≤ 5 := by have := hl2.out; omega
            have k0 : wA.cell? ⟨w.heap.size + 2, 0, none⟩ = some (.slice (some ⟨ga, 0, none⟩) ar2.length c) := H4.out.prg.cell 0
            have f1 := H4.out.prg.frozen 1
            have k1 : wA.cell? ⟨w.heap.size + 2, 1, none⟩ = some (.slice Ar es.length cr) := H4.out.prg.cell 1
            have hA2 := H4.out.prg.lt
            clear har2 hwA a0 a1 hix H3
            obtain ⟨wX, hwX⟩ : ∃ wX, wX = (((((((wA.alloc (.cells #[.int .i64 (-1), .int .i64 (-2)] 3)).alloc (.cells #[.int .i64 (-1), .int .i64 (-2)] 3)).alloc (.cells #[.int .i64 0, .int .i64 0, .slice (some ⟨wA.heap.size + 1, 0, none⟩) 2 2] 28)).alloc (.cells #[.int .i64 (-1), .int .i64 (-2)] 3)).alloc (.cells #[.int .i64 (-1), .int .i64 (-3)] 3)).alloc (.cells #[.int .i64 (-3), .int .i64 (-2)] 3)).alloc (.cells #[.int .i64 0, .int .i64 0, .slice (some ⟨wA.heap.size + 1 + 1 + 1 + 1, 0, none⟩) 2 2, .int .i64 0, .int .i64 2, .slice (some ⟨wA.heap.size + 1 + 1 + 1 + 1 + 1, 0, none⟩) 2 2] 28)) := ⟨_, rfl⟩
            have hbX : Below wA.heap.size wA wX := by
              rw [hwX]
              exact bthen (bthen (bthen (bthen (bthen (bthen (below1 _ _) (below1 _ _)) (below1 _ _)) (below1 _ _)) (below1 _ _)) (below1 _ _)) (below1 _ _)
            have HXX := Lib.hid (H4.out.go hgl (H4.out.rdr.below hbX H4.out.rdr.lt) (Only.of_below hbX))
            have kx := HXX.out.prg.cell 0
            rw [hwX] at kx
            simp only [List.getElem?_toArray, List.getElem?_cons_zero] at kx
            go_wp2_with (fail)
            rw [← hwX]
            refine (l2Make_any g bs (q + 1) (w.heap.size + 1) B 3 no (.slice (some ⟨ga, 0, none⟩) ar2.length c) ar2 wX HXX.out.rdr (by omega) HXX.out.own (by omega) HXX.out.high HA2.out (by omega) (by omega)).mono ?_
            rintro e wn ⟨ua, ub, rr, qn, mm, rfl, hr1, hr2, hr3, hr4, hqn, hm1, hm2, hoa, hob, hrn, hOn⟩
            have Hn := Lib.hid (HXX.out.go hgl hrn hOn)
            have H7 := Lib.hid (seven hwX)
            have hXs := HXX.out.high
            have hXn := hOn.size
            have hBl := H4.out.low
            have hBh := H4.out.high
            have HO := Lib.hid (show ∃ lo mid hi : Nat → Nat, (∀ i (h : i < ([((((2 : Int), [(-1 : Int), -2]), [((0 : Int), ((0 : Int), [(-1 : Int), -2]))]), .slice (some ⟨wA.heap.size, 0, none⟩) 2 2, .slice (some ⟨wA.heap.size + 1 + 1, 0, none⟩) 1 1), ((((2 : Int), [(-1 : Int), -2]), [((0 : Int), ((0 : Int), [(-1 : Int), -3])), ((0 : Int), ((2 : Int), [(-3 : Int), -2]))]), .slice (some ⟨wA.heap.size + 1 + 1 + 1, 0, none⟩) 2 2, .slice (some ⟨wA.heap.size + 1 + 1 + 1 + 1 + 1 + 1, 0, none⟩) 2 2), (rr, ua, ub)] : List Ent).length), EntAt B wn none ([((((2 : Int), [(-1 : Int), -2]), [((0 : Int), ((0 : Int), [(-1 : Int), -2]))]), .slice (some ⟨wA.heap.size, 0, none⟩) 2 2, .slice (some ⟨wA.heap.size + 1 + 1, 0, none⟩) 1 1), ((((2 : Int), [(-1 : Int), -2]), [((0 : Int), ((0 : Int), [(-1 : Int), -3])), ((0 : Int), ((2 : Int), [(-3 : Int), -2]))]), .slice (some ⟨wA.heap.size + 1 + 1 + 1, 0, none⟩) 2 2, .slice (some ⟨wA.heap.size + 1 + 1 + 1 + 1 + 1 + 1, 0, none⟩) 2 2), (rr, ua, ub)] : List Ent)[i] (lo i) (mid i) (hi i)) ∧ ∀ i j, i < j → j < 3 → hi i ≤ lo j from by
              obtain ⟨_, s1, s2, s0, s3, s4⟩ := H7.out
              have hkk : ∀ k, wA.heap.size ≤ k → k < wX.heap.size → wn.heap[k]? = wX.heap[k]? := fun k k1 k2 => hOn.block k k2 (by omega)
              refine ⟨fun i => match i with | 0 => wA.heap.size | 1 => wA.heap.size + 3 | _ => wX.heap.size, fun i => match i with | 0 => wA.heap.size + 1 | 1 => wA.heap.size + 4 | _ => mm, fun i => match i with | 0 => wA.heap.size + 3 | 1 => wA.heap.size + 7 | _ => wn.heap.size, fun i hi => ?_, fun i j hij hj => ?_⟩
              · match i, hi with
                | 0, _ => exact ⟨hBh, Nat.le_succ _, by show wA.heap.size + 1 ≤ wA.heap.size + 3; omega, by show wA.heap.size + 3 ≤ wn.heap.size; omega, fun b hb => (by cases hb), s1.keep fun k k1 k2 => hkk k k1 (by omega), s2.keep fun k k1 k2 => hkk k (by omega) (by omega)⟩
                | 1, _ => exact ⟨by show B ≤ wA.heap.size + 3; omega, Nat.le_succ _, by show wA.heap.size + 4 ≤ wA.heap.size + 7; omega, by show wA.heap.size + 7 ≤ wn.heap.size; omega, fun b hb => (by cases hb), s3.keep fun k k1 k2 => hkk k (by omega) (by omega), s4.keep fun k k1 k2 => hkk k (by omega) (by omega)⟩
                | 2, _ => exact ⟨hXs, hm1, hm2, Nat.le_refl _, fun b hb => (by cases hb), hoa, hob⟩
              · have hij3 : (i = 0 ∧ j = 1) ∨ (i = 0 ∧ j = 2) ∨ (i = 1 ∧ j = 2) := by omega
                rcases hij3 with ⟨rfl, rfl⟩ | ⟨rfl, rfl⟩ | ⟨rfl, rfl⟩
                · exact Nat.le_refl _
                · show wA.heap.size + 3 ≤ wX.heap.size; omega
                · show wA.heap.size + 7 ≤ wX.heap.size; omega)
            have m0 : wn.cell? ⟨w.heap.size + 2, 0, none⟩ = some (.slice (some ⟨ga, 0, none⟩) ar2.length c) := Hn.out.prg.cell 0
            have m1 : wn.cell? ⟨w.heap.size + 2, 1, none⟩ = some (.slice Ar es.length cr) := Hn.out.prg.cell 1
            have m2 := Hn.out.prg.frozen 1
            have m3 := Hn.out.prg.lt
            have j0 : wn.cell? ⟨w.heap.size, 0, none⟩ = some (.slice none 0 0) := Hn.out.res.cell 0
            have j1 : wn.cell? ⟨w.heap.size, 1, none⟩ = some (.slice none 0 0) := Hn.out.res.cell 1
            have l0 := Hn.out.res.frozen 0
            have l1 := Hn.out.res.frozen 1
            have m4 := Hn.out.res.lt
            clear hoa hob hrn hOn kx k0 f1 k1 hwX hbX
            go_wp2_with (fail)
            obtain ⟨W, hW⟩ : ∃ W, W = (((wn.setCell ⟨w.heap.size + 1 + 1, 1, none⟩ (.slice (some ⟨wn.heap.size, 0, none⟩) 3 3)).setCell ⟨w.heap.size, 0, none⟩ (.slice (some ⟨ga, 0, none⟩) ar2.length c)).setCell ⟨w.heap.size, 1, none⟩ (.slice (some ⟨wn.heap.size, 0, none⟩) 3 3)).alloc (.cells #[.int .i64 2, .slice (some ⟨wA.heap.size, 0, none⟩) 2 2, .slice (some ⟨wA.heap.size + 1 + 1, 0, none⟩) 1 1, .int .i64 2, .slice (some ⟨wA.heap.size + 1 + 1 + 1, 0, none⟩) 2 2, .slice (some ⟨wA.heap.size + 1 + 1 + 1 + 1 + 1 + 1, 0, none⟩) 2 2, .int .i64 rr.1.1, ua, ub] 49) := ⟨_, rfl⟩
            rw [← hW]
            rw [alloc_late (a := w.heap.size + 1 + 1) m3 m4] at hW
            obtain ⟨wZ, hZ⟩ : ∃ wZ, wZ = (wn.alloc (.cells #[.int .i64 2, .slice (some ⟨wA.heap.size, 0, none⟩) 2 2, .slice (some ⟨wA.heap.size + 1 + 1, 0, none⟩) 1 1, .int .i64 2, .slice (some ⟨wA.heap.size + 1 + 1 + 1, 0, none⟩) 2 2, .slice (some ⟨wA.heap.size + 1 + 1 + 1 + 1 + 1 + 1, 0, none⟩) 2 2, .int .i64 rr.1.1, ua, ub] 49)).setCell ⟨w.heap.size + 1 + 1, 1, none⟩ (.slice (some ⟨wn.heap.size, 0, none⟩) 3 3) := ⟨_, rfl⟩
            rw [← hZ] at hW
            have HP := Hn.out.three hgl HO.out hZ
            obtain ⟨f1, f2, f3, f4, f5, f6, f7⟩ := HP.done hgl hW
            have d0 : W.cell? ⟨w.heap.size, 0, none⟩ = some (.slice (some ⟨ga, 0, none⟩) ar2.length c) := f7.cell 0
            have d1 : W.cell? ⟨w.heap.size, 1, none⟩ = some (.slice (some ⟨wn.heap.size, 0, none⟩) 3 3) := f7.cell 1
            refine bodyPost_ret (v := .agg #[.slice (some ⟨ga, 0, none⟩) ar2.length c, .slice (some ⟨wn.heap.size, 0, none⟩) 3 3]) (by simp [results, Try.results46, go_sem, d0, d1]) rfl ?_
            exact ⟨some ⟨ga, 0, none⟩, some ⟨wn.heap.size, 0, none⟩, c, 3, B, qn, ar2, [((((2 : Int), [(-1 : Int), -2]), [((0 : Int), ((0 : Int), [(-1 : Int), -2]))]), .slice (some ⟨wA.heap.size, 0, none⟩) 2 2, .slice (some ⟨wA.heap.size + 1 + 1, 0, none⟩) 1 1), ((((2 : Int), [(-1 : Int), -2]), [((0 : Int), ((0 : Int), [(-1 : Int), -3])), ((0 : Int), ((2 : Int), [(-3 : Int), -2]))]), .slice (some ⟨wA.heap.size + 1 + 1 + 1, 0, none⟩) 2 2, .slice (some ⟨wA.heap.size + 1 + 1 + 1 + 1 + 1 + 1, 0, none⟩) 2 2), (rr, ua, ub)], rfl, hl4, hl5, HA2.out, by show 1 ≤ 3; omega, by show 3 ≤ 4; omega, fun e he => by
              simp only [List.mem_cons, List.not_mem_nil, or_false] at he
              rcases he with rfl | rfl | rfl
              · exact ⟨by show 2 ≤ 2; omega, by show 1 ≤ 4; omega, by show 2 ≤ 8; omega, KindsOk.one ⟨by decide, by decide, by decide⟩⟩
              · exact ⟨by show 2 ≤ 2; omega, by show 2 ≤ 4; omega, by show 4 ≤ 8; omega, (KindsOk.one ⟨by decide, by decide, by decide⟩ : KindsOk [((0 : Int), ((0 : Int), [(-1 : Int), -3]))]).snoc ⟨by decide, by decide, by decide⟩⟩
              · exact ⟨hr1, hr2, hr3, hr4⟩, by omega, f1, f2, f3, f4, f5, f6⟩
          · have hzb : (z == 0) = false := by simp [hz]
            clear hz
            have k0 : w3.cell? ⟨w.heap.size + 2, 0, none⟩ = some (.slice A ar.length c) := H3.out.prg.cell 0
            have k1 : w3.cell? ⟨w.heap.size + 2, 1, none⟩ = some (.slice Ar es.length cr) := H3.out.prg.cell 1
            have j0 : w3.cell? ⟨w.heap.size, 0, none⟩ = some (.slice none 0 0) := H3.out.res.cell 0
            have j1 : w3.cell? ⟨w.heap.size, 1, none⟩ = some (.slice none 0 0) := H3.out.res.cell 1
            have l0 := H3.out.res.frozen 0
            have l1 := H3.out.res.frozen 1
            go_wp2_with (fail)
            obtain ⟨W, hW⟩ : ∃ W, W = (w3.setCell ⟨w.heap.size, 0, none⟩ (.slice A ar.length c)).setCell ⟨w.heap.size, 1, none⟩ (.slice Ar es.length cr) := ⟨_, rfl⟩
            rw [← hW]
            obtain ⟨f1, f2, f3, f4, f5, f6, f7⟩ := H3.out.done hgl hW
            have d0 := f7.cell 0
            have d1 := f7.cell 1
            refine bodyPost_ret (v := .agg #[.slice A ar.length c, .slice Ar es.length cr]) (by simp [results, Try.results46, go_sem, d0, d1]) rfl ?_
            exact ⟨A, Ar, c, cr, B, q + 1, ar, es, rfl, hal4, hal5, HAR.out, hes1, hes4, HES.out, by omega, f1, f2, f3, f4, f5, f6⟩

end Go.Proofs.Ytofkcmihcgmmpaa
/-
  A row of rules: one of its cells is set anew.
-/
namespace Go.Proofs.Ytofkcmihcgmmpaa
open Go.RowKit

/-- A row that lies in one block lies from that block on. -/
theorem ownsRow_up {w : World} {lo lo2 : Nat} {e : TypeId} {size n : Nat} {v : Value} {xs : List Value} (h : w.ownsRow lo e size v n xs) (h1 : ∀ b, v.ownBlock = some b → lo2 ≤ b) : w.ownsRow lo2 e size v n xs := by
  obtain ⟨hlen, h⟩ := h
  refine ⟨hlen, ?_⟩
  rcases h with h | ⟨g, cap, cur, rfl, hbg, r⟩
  · exact .inl h
  · exact .inr ⟨g, cap, cur, rfl, h1 g rfl, r⟩

theorem flatEnt_set0 : ∀ (es : List Ent) (i : Nat) (h : i < es.length) (x : Int), (flatEnt es).set (i * 3) (.int .i64 x) = flatEnt (es.set i (((x, es[i].1.1.2), es[i].1.2), es[i].2))
  | [], _, h, _ => absurd h (by simp)
  | e :: es, 0, _, x => by simp [flatEnt]
  | e :: es, i + 1, h, x => by
    have := flatEnt_set0 es i (by simpa using h) x
    rw [show (i + 1) * 3 = i * 3 + 1 + 1 + 1 by omega]
    simpa [flatEnt] using this
theorem flatEnt_set1 : ∀ (es : List Ent) (i : Nat) (h : i < es.length) (v : Value) (xs : List Int), (flatEnt es).set (i * 3 + 1) v = flatEnt (es.set i (((es[i].1.1.1, xs), es[i].1.2), v, es[i].2.2))
  | [], _, h, _, _ => absurd h (by simp)
  | e :: es, 0, _, v, xs => by simp [flatEnt]
  | e :: es, i + 1, h, v, xs => by
    have := flatEnt_set1 es i (by simpa using h) v xs
    rw [show (i + 1) * 3 + 1 = i * 3 + 1 + 1 + 1 + 1 by omega]
    simpa [flatEnt] using this
theorem flatEnt_set2 : ∀ (es : List Ent) (i : Nat) (h : i < es.length) (v : Value) (ls : List LLit), (flatEnt es).set (i * 3 + 2) v = flatEnt (es.set i ((es[i].1.1, ls), es[i].2.1, v))
  | [], _, h, _, _ => absurd h (by simp)
  | e :: es, 0, _, v, ls => by simp [flatEnt]
  | e :: es, i + 1, h, v, ls => by
    have := flatEnt_set2 es i (by simpa using h) v ls
    rw [show (i + 1) * 3 + 2 = i * 3 + 2 + 1 + 1 + 1 by omega]
    simpa [flatEnt] using this

section
variable {base g i j : Nat} {wr : World} {es : List Ent} {c : Nat} {e : Ent} {v : Value}
theorem ColR.set (h : ColR base wr es (some ⟨g, 0, none⟩) c) (hi : i < es.length) (hf : (flatEnt es).set j v = flatEnt (es.set i e))
    (ho : ∀ lo mid hi', OwnInts wr lo mid es[i].2.1 es[i].1.1.2 → OwnLits wr mid hi' es[i].2.2 es[i].1.2 → OwnInts wr lo mid e.2.1 e.1.1.2 ∧ OwnLits wr mid hi' e.2.2 e.1.2) : ColR base (wr.setCell ⟨g, j, none⟩ v) (es.set i e) (some ⟨g, 0, none⟩) c := by
  have hk : ∀ k, k ≠ g → (wr.setCell ⟨g, j, none⟩ v).heap[k]? = wr.heap[k]? := fun k hk => Below.heap_setCell _ _ _ k hk
  have hsz : (wr.setCell ⟨g, j, none⟩ v).heap.size = wr.heap.size := by simp
  have hl : (es.set i e).length = es.length := by simp
  obtain ⟨lo, mid, hh, q1, q2⟩ := h.own
  have hkk : ∀ i', (hi' : i' < es.length) → ∀ k, lo i' ≤ k → k < hh i' → (wr.setCell ⟨g, j, none⟩ v).heap[k]? = wr.heap[k]? := fun i' hi' k k1 k2 => hk k (fun e => by have := (q1 i' hi').off g rfl; omega)
  refine ⟨⟨lo, mid, hh, fun i' hi' => ?_, fun i' j' h1 h2 => q2 i' j' h1 (by omega)⟩, ?_⟩
  · by_cases e1 : i = i'
    · subst e1
      rw [List.getElem_set_self]
      have x := q1 i hi
      obtain ⟨y1, y2⟩ := ho _ _ _ x.head x.body
      have y : EntAt base wr (Value.slice (some ⟨g, 0, none⟩) (es.set i e).length c).ownBlock e (lo i) (mid i) (hh i) := ⟨x.low, x.lm, x.mh, x.high, x.off, y1, y2⟩
      exact y.keep (by have := y.high; omega) (hkk i hi) y.off
    · rw [List.getElem_set_ne e1]
      have x := q1 i' (by omega)
      exact x.keep (by have := x.high; omega) (hkk i' (by omega)) x.off
  · rw [hl, ← hf]
    exact (h.row.stored j v).1
theorem ColR.form {A : Option Addr} (h : ColR base wr es A c) (hn : 0 < es.length) : ∃ g, A = some ⟨g, 0, none⟩ ∧ base ≤ g ∧ g < wr.heap.size := by
  obtain ⟨g, cq, e, h1, h2⟩ := h.row.form hn
  injection e with e1 _ _
  exact ⟨g, e1, h1, h2⟩
/-- The head's predicate is set anew. -/
theorem ColR.setPred (h : ColR base wr es (some ⟨g, 0, none⟩) c) (hi : i < es.length) (x : Int) : ColR base (wr.setCell ⟨g, i * 3, none⟩ (.int .i64 x)) (es.set i (((x, es[i].1.1.2), es[i].1.2), es[i].2)) (some ⟨g, 0, none⟩) c :=
  h.set hi (flatEnt_set0 es i hi x) fun _ _ _ h1 h2 => ⟨h1, h2⟩
/-- The body is emptied. -/
theorem ColR.setBody (h : ColR base wr es (some ⟨g, 0, none⟩) c) (hi : i < es.length) : ColR base (wr.setCell ⟨g, i * 3 + 2, none⟩ (.slice none 0 0)) (es.set i ((es[i].1.1, []), es[i].2.1, .slice none 0 0)) (some ⟨g, 0, none⟩) c :=
  h.set hi (flatEnt_set2 es i hi _ []) fun _ _ _ h1 _ => ⟨h1, ⟨none, 0, rfl, Nat.le_refl _, fun h => absurd h (by simp)⟩⟩
end

/-- A row of rules, each of which can be written apart from all else that it holds. -/
structure RowR (base : Nat) (wr : World) (es : List Ent) (A : Option Addr) (c : Nat) : Prop where
  own : ∀ i (_ : i < es.length), ∃ lo1 hi1 lo2 hi2, base ≤ lo1 ∧ base ≤ lo2 ∧ hi1 ≤ wr.heap.size ∧ hi2 ≤ wr.heap.size ∧ (hi1 ≤ lo2 ∨ hi2 ≤ lo1) ∧ (∀ b, (Value.slice A es.length c).ownBlock = some b → (b < lo1 ∨ hi1 ≤ b) ∧ (b < lo2 ∨ hi2 ≤ b)) ∧ OwnInts wr lo1 hi1 es[i].2.1 es[i].1.1.2 ∧ OwnLits wr lo2 hi2 es[i].2.2 es[i].1.2
  row : wr.ownsRow base 49 3 (.slice A es.length c) es.length (flatEnt es)
section
variable {base g g2 i cap : Nat} {wr w2 wn w4 w5 w6 : World} {es : List Ent} {A : Option Addr} {c : Nat}
theorem ColR.out (h : ColR base wr es A c) : RowR base wr es A c := by
  obtain ⟨lo, mid, hi, q1, _⟩ := h.own
  refine ⟨fun i hi => ?_, h.row⟩
  have x := q1 i hi
  have y1 := x.low
  have y2 := x.lm
  have y3 := x.mh
  have y4 := x.high
  exact ⟨_, _, _, _, y1, by omega, by omega, y4, .inl (Nat.le_refl _), fun b hb => by have := x.off b hb; omega, x.head, x.body⟩
theorem RowR.keep (h : RowR base wr es A c) (hs : wr.heap.size ≤ w2.heap.size) (hk : ∀ k, base ≤ k → k < wr.heap.size → w2.heap[k]? = wr.heap[k]?) : RowR base w2 es A c := by
  refine ⟨fun i hi => ?_, ownsRow_only h.row fun b hb => hk b (h.row.lt b hb).1 (h.row.lt b hb).2⟩
  obtain ⟨lo1, hi1, lo2, hi2, h1, h2, h3, h4, h5, h6, h7, h8⟩ := h.own i hi
  exact ⟨lo1, hi1, lo2, hi2, h1, h2, by omega, by omega, h5, h6, h7.keep fun k k1 k2 => hk k (by omega) (by omega), h8.keep fun k k1 k2 => hk k (by omega) (by omega)⟩
theorem RowR.only (h : RowR base wr es A c) (ho : Only g (g + 1) wr w2) (hg : g < base) : RowR base w2 es A c :=
  h.keep ho.size fun k k1 k2 => ho.block k k2 (by omega)
theorem RowR.below (h : RowR base wr es A c) (hb : Below wr.heap.size wr w2) : RowR base w2 es A c :=
  h.keep hb.size fun k _ k2 => hb.block k k2
theorem RowR.capOk (h : RowR base wr es A c) : es.length ≤ c := by
  rcases h.row.2 with ⟨e, h0⟩ | ⟨g, cq, cur, e, hb, hgg, hn, _⟩
  · injection e with _ _ e
    omega
  · injection e with _ _ e
    omega
theorem RowR.form (h : RowR base wr es A c) (hn : 0 < es.length) : ∃ g, A = some ⟨g, 0, none⟩ ∧ base ≤ g ∧ g < wr.heap.size := by
  obtain ⟨g, cq, e, h1, h2⟩ := h.row.form hn
  injection e with e1 _ _
  exact ⟨g, e1, h1, h2⟩
theorem RowR.rules (h : RowR base wr es A c) : OwnRules wr base wr.heap.size (.slice A es.length c) (es.map (·.1)) := by
  have hcells := @World.ownsRow.cells wr base 49 3 (.slice A es.length c) es.length (flatEnt es) h.row
  have hlt := h.row.lt
  have hn := h.capOk
  have hml : (es.map (·.1)).length = es.length := by simp
  refine ⟨A, c, by rw [hml], by rw [hml]; exact hn, fun hpos => ?_⟩
  rcases h.row.2 with ⟨e, h0⟩ | ⟨g, cq, cur, e, hb, hgg, _⟩
  · omega
  · injection e with e1 _ e3
    subst e1
    refine ⟨g, 0, rfl, hb, (hlt g rfl).2, fun k hk => ⟨⟨by simp [World.frozen?, hgg], by simp [World.frozen?, hgg]⟩, ?_⟩⟩
    rw [hml] at hk
    obtain ⟨c0, c1, c2⟩ := flatEnt_at es k hk
    have d0 := hcells (g := g) rfl _ _ c0
    have d1 := hcells (g := g) rfl _ _ c1
    have d2 := hcells (g := g) rfl _ _ c2
    rw [Go.WideShapes.add_plain] at d0 d1 d2
    obtain ⟨lo1, hi1, lo2, hi2, h1, h2, h3, h4, _, _, h7, h8⟩ := h.own k hk
    refine ⟨_, _, _, d0, d1, d2, ?_⟩
    simp only [List.getElem_map]
    exact ⟨rfl, h7.mono h1 h3, h8.mono h2 h4⟩
/-- The rows of a rule, its cells in the row of rules. -/
theorem RowR.at_ (h : RowR base wr es (some ⟨g, 0, none⟩) c) (hi : i < es.length) : wr.cell? ⟨g, i * 3, none⟩ = some (.int .i64 es[i].1.1.1) ∧ wr.cell? ⟨g, i * 3 + 1, none⟩ = some es[i].2.1 ∧ wr.cell? ⟨g, i * 3 + 2, none⟩ = some es[i].2.2 := by
  have hcells := @World.ownsRow.cells wr base 49 3 (.slice (some ⟨g, 0, none⟩) es.length c) es.length (flatEnt es) h.row
  obtain ⟨c0, c1, c2⟩ := flatEnt_at es i hi
  have d0 := hcells (g := g) rfl _ _ c0
  have d1 := hcells (g := g) rfl _ _ c1
  have d2 := hcells (g := g) rfl _ _ c2
  rw [Go.WideShapes.add_plain, Nat.zero_add] at d0 d1 d2
  exact ⟨d0, d1, d2⟩
/-- A head's row is one longer: in place, or laid anew. -/
theorem ColR.longer {lo mid hi : Nat → Nat} {v : Value} {xs : List Int} {x : Int} (hrow : wn.ownsRow base 49 3 (.slice (some ⟨g, 0, none⟩) es.length c) es.length (flatEnt es))
    (q1 : ∀ i (h : i < es.length), EntAt base wn (some g) es[i] (lo i) (mid i) (hi i)) (q2 : ∀ i j, i < j → j < es.length → hi i ≤ lo j) (hil : i < es.length) (hxs : xs = es[i].1.1.2 ++ [x])
    (hg2 : wn.grownBy w5 es[i].2.1.ownBlock) (hat : es[i].2.1.ownBlock = some g2 ∨ wn.heap.size ≤ g2) (hv : v = .slice (some ⟨g2, 0, none⟩) xs.length cap)
    (hown : w5.ownsRow (lo i) 3 1 v xs.length (xs.map (Value.int .i64)))
    (hw : w6 = w5.setCell ⟨g, i * 3 + 1, none⟩ v) : RowR base w6 (es.set i (((es[i].1.1.1, xs), es[i].1.2), v, es[i].2.2)) (some ⟨g, 0, none⟩) c := by
  have hk6 : ∀ k, k ≠ g → w6.heap[k]? = w5.heap[k]? := fun k hk => by rw [hw]; exact Below.heap_setCell _ _ _ k hk
  have hsz6 : w6.heap.size = w5.heap.size := by rw [hw]; simp
  have hsz5 := hg2.size
  have hl : (es.set i (((es[i].1.1.1, xs), es[i].1.2), v, es[i].2.2)).length = es.length := by simp
  have X := q1 i hil
  have hgg := (hrow.lt g rfl).2
  have hob : ∀ b, es[i].2.1.ownBlock = some b → lo i ≤ b ∧ b < mid i := fun b hb => ⟨(X.head.lt hb).1, (X.head.lt hb).2.1⟩
  have hgo := X.off g rfl
  have hmh := X.mh
  have hlm := X.lm
  have h5 : ∀ k, k < wn.heap.size → (k < lo i ∨ mid i ≤ k) → w5.heap[k]? = wn.heap[k]? := fun k k1 k2 => hg2.block k k1 (fun e => by have := hob k e.symm; omega)
  have hvb : v.ownBlock = some g2 := by rw [hv]; rfl
  have hg2lt := (hown.lt g2 hvb).2
  refine ⟨fun i' hi' => ?_, ?_⟩
  · by_cases e1 : i = i'
    · subst e1
      rw [List.getElem_set_self]
      have hb6 : OwnLits w6 (mid i) (hi i) es[i].2.2 es[i].1.2 := X.body.keep fun k k1 k2 => (hk6 k (by omega)).trans (h5 k (by have := X.high; omega) (.inr k1))
      have hng : g2 ≠ g := fun e => by
        rcases hat with hat | hat
        · have := hob g2 hat; omega
        · omega
      have hb1 : w6.ownsRow (lo i) 3 1 v xs.length (xs.map (Value.int .i64)) := ownsRow_only hown fun b hb => hk6 b (by rw [hvb] at hb; injection hb with hb; omega)
      rcases hat with hat | hat
      · have := hob g2 hat
        refine ⟨lo i, mid i, mid i, hi i, X.low, by have := X.low; omega, by have := X.high; omega, by have := X.high; omega, .inl (Nat.le_refl _), fun b hb => ?_, ⟨hb1, fun b hb => ?_⟩, hb6⟩
        · have e : g = b := by simpa [Value.ownBlock] using hb
          omega
        · rw [hvb] at hb
          injection hb with hb
          omega
      · refine ⟨g2, g2 + 1, mid i, hi i, by have := X.low; have := X.high; omega, by have := X.low; omega, by omega, by have := X.high; omega, .inr (by have := X.high; omega), fun b hb => ?_, ⟨ownsRow_up hb1 fun b hb => ?_, fun b hb => ?_⟩, hb6⟩
        · have e : g = b := by simpa [Value.ownBlock] using hb
          omega
        · rw [hvb] at hb
          injection hb with hb
          omega
        · rw [hvb] at hb
          injection hb with hb
          omega
    · rw [List.getElem_set_ne e1]
      have hi2 : i' < es.length := by omega
      have x := q1 i' hi2
      have hap : hi i' ≤ lo i ∨ hi i ≤ lo i' := by
        rcases Nat.lt_or_ge i' i with h | h
        · exact .inl (q2 i' i h hil)
        · exact .inr (q2 i i' (by omega) hi2)
      have y1 := x.low
      have y2 := x.lm
      have y3 := x.mh
      have y4 := x.high
      have hk : ∀ k, lo i' ≤ k → k < hi i' → w6.heap[k]? = wn.heap[k]? := fun k k1 k2 => (hk6 k (fun e => by have := x.off g rfl; omega)).trans (h5 k (by omega) (by omega))
      exact ⟨lo i', mid i', mid i', hi i', y1, by omega, by omega, by omega, .inl (Nat.le_refl _), fun b hb => by
        have e : g = b := by simpa [Value.ownBlock] using hb
        have := x.off g rfl
        omega, x.head.keep fun k k1 k2 => hk k k1 (by omega), x.body.keep fun k k1 k2 => hk k (by omega) k2⟩
  · rw [hl, ← flatEnt_set1 es i hil v xs, hw]
    exact ((ownsRow_only hrow fun b hb => h5 b (hrow.lt b hb).2 (by have e : g = b := by simpa [Value.ownBlock] using hb
                                                                    omega)).stored _ _).1
end

end Go.Proofs.Ytofkcmihcgmmpaa
/-
  A program drawn, one in twenty spoilt: the walk of l2Any (under way).
-/
namespace Go.Proofs.Ytofkcmihcgmmpaa
open Go.RowKit

/-- l2Any while it spoils: the program's own block is D. -/
structure Pg3 (w wr : World) (D B g : Nat) (bs : List Nat) (q : Nat) (A : Option Addr) (c : Nat) (ar : List Int) (Ar : Option Addr) (cr : Nat) (es : List Ent) : Prop where
  res : Blk wr w.heap.size 44 #[.slice none 0 0, .slice none 0 0]
  prg : Blk wr D 44 #[.slice A ar.length c, .slice Ar es.length cr]
  own : OwnInts wr (w.heap.size + 1) B (.slice A ar.length c) ar
  rules : ColR B wr es Ar cr
  low : w.heap.size < B
  high : B ≤ D
  rdr : Rdr wr g bs q
  only : Only g (g + 1) w wr
section
variable {w wr w' w1 : World} {D g q B : Nat} {bs : List Nat} {A Ar : Option Addr} {c cr : Nat} {ar : List Int} {es : List Ent}
theorem Pg3.go (h : Pg3 w wr D B g bs q A c ar Ar cr es) (hg : g < w.heap.size) {q' : Nat} (hr : Rdr w' g bs q') (ho : Only g (g + 1) wr w') : Pg3 w w' D B g bs q' A c ar Ar cr es :=
  ⟨h.res.only ho (.inr (by omega)), h.prg.only ho (.inr (by have := h.low; have := h.high; omega)), h.own.only ho (.inr (by omega)), h.rules.only ho (by have := h.low; omega), h.low, h.high, hr, h.only.trans ho⟩
theorem Pg3.start (hg : g < w.heap.size) (hB : w.heap.size + 1 ≤ B) (hB2 : B ≤ w1.heap.size) (hw : w' = w1.alloc (.cells #[.slice A ar.length c, .slice Ar es.length cr] 44))
    (h1 : OwnInts w1 (w.heap.size + 1) B (.slice A ar.length c) ar) (h2 : ColR B w1 es Ar cr) (h3 : Rdr w1 g bs q) (h4 : Only g (g + 1) (w.alloc (.cells #[.slice none 0 0, .slice none 0 0] 44)) w1) : Pg3 w w' w1.heap.size B g bs q A c ar Ar cr es := by
  have hb : Below w1.heap.size w1 w' := by rw [hw]; exact below1 _ _
  refine ⟨((Blk.new w 44 #[.slice none 0 0, .slice none 0 0]).only h4 (.inr (by omega))).below hb (by omega), by rw [hw]; exact Blk.new _ _ _, h1.below hb hB2, h2.below hb, hB, hB2, h3.below hb h3.lt, ((Only.of_below (below1 w _)).trans h4).trans (Only.of_below hb)⟩
/-- A cell of the rules' row is set anew. -/
theorem Pg3.row {gr j : Nat} {v : Value} {es' : List Ent} (h : Pg3 w wr D B g bs q A c ar (some ⟨gr, 0, none⟩) cr es) (hg : g < w.heap.size) (hl : es'.length = es.length) (hc : ColR B (wr.setCell ⟨gr, j, none⟩ v) es' (some ⟨gr, 0, none⟩) cr) :
    Pg3 w (wr.setCell ⟨gr, j, none⟩ v) D B g bs q A c ar (some ⟨gr, 0, none⟩) cr es' := by
  have hk : ∀ k, k ≠ gr → (wr.setCell ⟨gr, j, none⟩ v).heap[k]? = wr.heap[k]? := fun k hk => Below.heap_setCell _ _ _ k hk
  have hb := (h.rules.row.lt gr rfl).1
  have hB := h.low
  have hne : gr ≠ D := fun e => blk_ne_own h.rules.row h.prg (by decide) (by simp [Value.ownBlock, e])
  refine ⟨(hk _ (by omega)).trans h.res, by rw [hl]; exact (hk _ (fun e => hne e.symm)).trans h.prg, h.own.keep fun k _ k2 => hk k (by omega), hc, hB, h.high, h.rdr.same fun k hk' => hk k (by omega), ⟨h.only.os, h.only.tape, h.only.output, by simpa using h.only.size, fun k hk' hn => (hk k (by omega)).trans (h.only.block k hk' hn)⟩⟩
/-- A place of the arity is set anew. -/
theorem Pg3.arity {ga j : Nat} (h : Pg3 w wr D B g bs q (some ⟨ga, 0, none⟩) c ar Ar cr es) (hg : g < w.heap.size) (hj : j < ar.length) (x : Int) : Pg3 w (wr.setCell ⟨ga, j, none⟩ (.int .i64 x)) D B g bs q (some ⟨ga, 0, none⟩) c (ar.set j x) Ar cr es := by
  have hb1 := (h.own.lt (g := ga) rfl).1
  have hb2 := (h.own.lt (g := ga) rfl).2.1
  have hB := h.high
  have hk : ∀ k, k ≠ ga → (wr.setCell ⟨ga, j, none⟩ (.int .i64 x)).heap[k]? = wr.heap[k]? := fun k hk => Below.heap_setCell _ _ _ k hk
  have hsz : (wr.setCell ⟨ga, j, none⟩ (.int .i64 x)).heap.size = wr.heap.size := by simp
  have hl : (ar.set j x).length = ar.length := by simp
  refine ⟨(hk _ (by omega)).trans h.res, ?_, ?_, h.rules.keep (by rw [hsz]; exact Nat.le_refl _) (fun k k1 _ => hk k (by omega)), h.low, h.high, h.rdr.same fun k hk' => hk k (by omega), ⟨h.only.os, h.only.tape, h.only.output, by rw [hsz]; exact h.only.size, fun k hk' hn => (hk k (by omega)).trans (h.only.block k hk' hn)⟩⟩
  · rw [hl]
    exact (hk _ (by omega)).trans h.prg
  · rw [hl]
    exact h.own.store rfl hj x
end
/-- l2Any once it has spoilt. -/
structure Pg4 (w wr : World) (D B g : Nat) (bs : List Nat) (q : Nat) (A : Option Addr) (c : Nat) (ar : List Int) (Ar : Option Addr) (cr : Nat) (es : List Ent) : Prop where
  res : Blk wr w.heap.size 44 #[.slice none 0 0, .slice none 0 0]
  prg : Blk wr D 44 #[.slice A ar.length c, .slice Ar es.length cr]
  own : OwnInts wr (w.heap.size + 1) B (.slice A ar.length c) ar
  rules : RowR B wr es Ar cr
  low : w.heap.size < B
  high : B ≤ D
  rdr : Rdr wr g bs q
  only : Only g (g + 1) w wr
theorem Pg3.four {w wr : World} {D B g : Nat} {bs : List Nat} {q : Nat} {A : Option Addr} {c : Nat} {ar : List Int} {Ar : Option Addr} {cr : Nat} {es : List Ent} (h : Pg3 w wr D B g bs q A c ar Ar cr es) : Pg4 w wr D B g bs q A c ar Ar cr es :=
  ⟨h.res, h.prg, h.own, h.rules.out, h.low, h.high, h.rdr, h.only⟩
section
variable {w wr w' w1 : World} {D g q B : Nat} {bs : List Nat} {A Ar : Option Addr} {c cr : Nat} {ar : List Int} {es : List Ent}
/-- The result is laid. -/
theorem Pg4.done (h : Pg4 w wr D B g bs q A c ar Ar cr es) (hg : g < w.heap.size) (hw : w' = (wr.setCell ⟨w.heap.size, 0, none⟩ (.slice A ar.length c)).setCell ⟨w.heap.size, 1, none⟩ (.slice Ar es.length cr)) :
    w.heap.size ≤ B ∧ B ≤ w'.heap.size ∧ OwnInts w' w.heap.size B (.slice A ar.length c) ar ∧ RowR B w' es Ar cr ∧ Rdr w' g bs q ∧ Only g (g + 1) w w' ∧ Blk w' w.heap.size 44 #[.slice A ar.length c, .slice Ar es.length cr] := by
  have hk : ∀ k, k ≠ w.heap.size → w'.heap[k]? = wr.heap[k]? := fun k hk => by
    rw [hw]
    exact (Below.heap_setCell _ _ _ k hk).trans (Below.heap_setCell _ _ _ k hk)
  have hsz : w'.heap.size = wr.heap.size := by rw [hw]; simp
  have hB := h.low
  have hH := h.high
  have hD := h.prg.lt
  refine ⟨by omega, by omega, (h.own.keep fun k k1 _ => hk k (by omega)).mono (Nat.le_succ _) (Nat.le_refl _), h.rules.keep (by rw [hsz]; exact Nat.le_refl _) (fun k k1 _ => hk k (by omega)), h.rdr.same fun k hk' => hk k (by omega), ⟨?_, ?_, ?_, by rw [hsz]; exact h.only.size, fun k hk' hn => (hk k (by omega)).trans (h.only.block k hk' hn)⟩, ?_⟩
  · rw [hw]; exact h.only.os
  · rw [hw]; exact h.only.tape
  · rw [hw]; exact h.only.output
  · have := (h.res.set_ 0 (.slice A ar.length c)).set_ 1 (.slice Ar es.length cr)
    rw [hw]
    simpa using this
/-- What an append to a head keeps. -/
theorem Pg3.kept {wn w5 : World} {gr i : Nat} {o : Obj} {lo mid hi : Nat → Nat} (h : Pg3 w wn D B g bs q A c ar (some ⟨gr, 0, none⟩) cr es)
    (q1 : ∀ i (h : i < es.length), EntAt B wn (some gr) es[i] (lo i) (mid i) (hi i)) (hi' : i < es.length)
    (hgr : (wn.alloc o).grownBy w5 es[i].2.1.ownBlock) : w5.heap[gr]? = wn.heap[gr]? ∧ w5.heap[D]? = wn.heap[D]? := by
  have hg2 := grown_from_alloc hgr
  have X := q1 i hi'
  refine ⟨hg2.block gr (h.rules.row.lt gr rfl).2 (fun e => ?_), hg2.block D h.prg.lt (fun e => blk_ne_own X.head.1 h.prg (by decide) e.symm)⟩
  have h1 := X.head.lt e.symm
  have h2 := X.off gr rfl
  have h3 := X.mh
  omega
/-- A head is one longer. -/
theorem Pg3.longer {wn w5 w6 : World} {gr g2 i cap : Nat} {o : Obj} {lo mid hi : Nat → Nat} {xs : List Int} {x : Int} (h : Pg3 w wn D B g bs q A c ar (some ⟨gr, 0, none⟩) cr es) (hgl : g < w.heap.size)
    (q1 : ∀ i (h : i < es.length), EntAt B wn (some gr) es[i] (lo i) (mid i) (hi i)) (q2 : ∀ i j, i < j → j < es.length → hi i ≤ lo j) (hi' : i < es.length) (hxs : xs = es[i].1.1.2 ++ [x])
    (hgr : (wn.alloc o).grownBy w5 es[i].2.1.ownBlock) (hat : es[i].2.1.ownBlock = some g2 ∨ g2 = (wn.alloc o).heap.size)
    (hown : w5.ownsRow (lo i) 3 1 (.slice (some ⟨g2, 0, none⟩) xs.length cap) xs.length (xs.map (Value.int .i64)))
    (hw : w6 = w5.setCell ⟨gr, i * 3 + 1, none⟩ (.slice (some ⟨g2, 0, none⟩) xs.length cap)) :
    Pg4 w w6 D B g bs q A c ar (some ⟨gr, 0, none⟩) cr (es.set i (((es[i].1.1.1, xs), es[i].1.2), .slice (some ⟨g2, 0, none⟩) xs.length cap, es[i].2.2)) := by
  have hg2 := grown_from_alloc hgr
  have hR := ColR.longer h.rules.row q1 q2 hi' hxs hg2 (hat.imp id fun e => by rw [e]; simp) rfl hown hw
  have X := q1 i hi'
  have hB := h.low
  have hH := h.high
  have hrow := h.rules.row.lt gr rfl
  have hob : ∀ b, es[i].2.1.ownBlock = some b → B ≤ b := fun b hb => by have := (X.head.lt hb).1; have := X.low; omega
  have hk : ∀ k, k < wn.heap.size → k ≠ gr → es[i].2.1.ownBlock ≠ some k → w6.heap[k]? = wn.heap[k]? := fun k h1 h2 h3 => by
    rw [hw]
    exact (Below.heap_setCell _ _ _ k h2).trans (hg2.block k h1 (fun e => h3 e.symm))
  have hlow : ∀ k, k < B → w6.heap[k]? = wn.heap[k]? := fun k h1 => hk k (by omega) (by omega) (fun e => by have := hob k e; omega)
  have hsz : wn.heap.size ≤ w6.heap.size := by rw [hw]; simpa using hg2.size
  have hl : (es.set i (((es[i].1.1.1, xs), es[i].1.2), Value.slice (some ⟨g2, 0, none⟩) xs.length cap, es[i].2.2)).length = es.length := by simp
  refine ⟨(hlow _ (by omega)).trans h.res, ?_, h.own.keep fun k _ k2 => hlow k k2, hR, hB, hH, h.rdr.same fun k hk' => hlow k (by omega), ⟨?_, ?_, ?_, Nat.le_trans h.only.size hsz, fun k hk' hn => (hlow k (by omega)).trans (h.only.block k hk' hn)⟩⟩
  · rw [hl]
    exact (hk D h.prg.lt (fun e => blk_ne_own h.rules.row h.prg (by decide) (by simp [Value.ownBlock, e])) (blk_ne_own X.head.1 h.prg (by decide))).trans h.prg
  · rw [hw]; exact hg2.os.trans h.only.os
  · rw [hw]; exact hg2.tape.trans h.only.tape
  · rw [hw]; exact hg2.output.trans h.only.output
end

/-- A drawn program's bounds. -/
def AnyOk (ar : List Int) (es : List Ent) : Prop := 4 ≤ ar.length ∧ ar.length ≤ 5 ∧ (∀ x ∈ ar, 0 ≤ x ∧ x ≤ 3) ∧ 1 ≤ es.length ∧ es.length ≤ 4 ∧ ∀ e ∈ es, e.1.1.2.length ≤ 3 ∧ e.1.2.length ≤ 4 ∧ totL e.1.2 ≤ 8 ∧ KindsOk e.1.2

set_option maxHeartbeats 4000000 in
set_option maxRecDepth 100000 in
theorem l2Any_any (g : Nat) (bs : List Nat) (p : Nat) (no : Int) (w : World) (h : Rdr w g bs p) (hp : p ≤ 900000) :
    Calls Try.prog 32 #[.pointer (some ⟨g, 0, none⟩), .int .i64 no] w fun e w' => ∃ (A Ar : Option Addr) (c cr B q : Nat) (ar : List Int) (es : List Ent), e = .returned (.agg #[.slice A ar.length c, .slice Ar es.length cr]) ∧ AnyOk ar es ∧ q ≤ p + 1700 ∧
      w.heap.size ≤ B ∧ B ≤ w'.heap.size ∧ OwnInts w' w.heap.size B (.slice A ar.length c) ar ∧ RowR B w' es Ar cr ∧ Rdr w' g bs q ∧ Only g (g + 1) w w' := by
  obtain ⟨i0, hi0, hz0, hz1, hz2⟩ := info_parts Try.infoInt
  have hgl := h.lt
  have H := Lib.hid h
  clear h
  go_enter Try.func32, Try.ntmps32
  go_wp2_with (fail)
  refine (l2Program_any g bs p no _ (H.out.below (below1 w (.cells #[.slice none 0 0, .slice none 0 0] 44)) H.out.lt) (by omega)).mono ?_
  rintro e w1 ⟨A, Ar, c, cr, B, q, ar, es, rfl, hl4, hl5, har, hes1, hes4, hes, hq, hB, hB2, h1, h2, h3, h4⟩
  have HES2 := Lib.hid (show ∀ e ∈ es, e.1.1.2.length ≤ 2 from fun e he => (hes e he).1)
  have HOK := Lib.hid (show AnyOk ar es from ⟨hl4, hl5, fun x hx => by have := har x hx; omega, hes1, hes4, fun e he => ⟨by have := (hes e he).1; omega, (hes e he).2⟩⟩)
  simp only [World.size_alloc] at hB h1
  have HQ := Lib.hid (And.intro hB (And.intro hB2 (And.intro h1 (And.intro h2 (And.intro h3 h4)))))
  clear hB hB2 h1 h2 h3 h4 har hes
  go_upto_region 2 with (fail)
  obtain ⟨wS, hwS⟩ : ∃ wS, wS = w1.alloc (.cells #[.slice A ar.length c, .slice Ar es.length cr] 44) := ⟨_, rfl⟩
  have H1 := Lib.hid (Pg3.start hgl HQ.out.1 HQ.out.2.1 hwS HQ.out.2.2.1 HQ.out.2.2.2.1 HQ.out.2.2.2.2.1 HQ.out.2.2.2.2.2)
  rw [← hwS]
  clear hwS HQ
  obtain ⟨D, hD⟩ : ∃ D, D = w1.heap.size := ⟨_, rfl⟩
  rw [← hD] at H1 ⊢
  clear hD
  have hDw : w.heap.size < D := Nat.lt_of_lt_of_le H1.out.low H1.out.high
  go_wp2_with (fail)
  refine (pick_any g bs q 20 _ H1.out.rdr (by omega) (by omega)).mono ?_
  rintro e w3 ⟨⟨z, rfl, _⟩, hp3⟩
  have H3 := Lib.hid (H1.out.go hgl hp3.1 hp3.2)
  clear hp3
  by_cases hz : z = 0
  · have hzb : (z == 0) = true := by simp [hz]
    clear hz
    have k0 : w3.cell? ⟨D, 0, none⟩ = some (.slice A ar.length c) := H3.out.prg.cell 0
    have k1 : w3.cell? ⟨D, 1, none⟩ = some (.slice Ar es.length cr) := H3.out.prg.cell 1
    go_wp2_with (fail)
    refine (pick_any g bs (q + 1) es.length _ H3.out.rdr (by omega) (by omega)).mono ?_
    rintro e w4 ⟨⟨i, rfl, hi⟩, hp4⟩
    have hir : 0 ≤ i ∧ i < es.length := hi.1 (by omega)
    obtain ⟨i, rfl⟩ : ∃ j : Nat, i = (j : Int) := ⟨i.toNat, by omega⟩
    have H4 := Lib.hid (H3.out.go hgl hp4.1 hp4.2)
    clear hp4 hi k0 k1 H3 H1
    go_wp2_with (fail)
    refine (pick_any g bs (q + 1 + 1) 4 _ H4.out.rdr (by omega) (by omega)).mono ?_
    rintro e w5 ⟨⟨kk, rfl, hkk⟩, hp5⟩
    have hkr : 0 ≤ kk ∧ kk < 4 := hkk.1 (by omega)
    have H5 := Lib.hid (H4.out.go hgl hp5.1 hp5.2)
    clear hp5 hkk H4
    obtain ⟨gr, hgr, hgr1, hgr2⟩ := H5.out.rules.form (by omega)
    subst hgr
    have k0 : w5.cell? ⟨D, 0, none⟩ = some (.slice A ar.length c) := H5.out.prg.cell 0
    have k1 : w5.cell? ⟨D, 1, none⟩ = some (.slice (some ⟨gr, 0, none⟩) es.length cr) := H5.out.prg.cell 1
    by_cases hk0 : kk = 0
    · have hb0 : (kk == 0) = true := by simp [hk0]
      clear hk0
      have hi2 : i < es.length := by omega
      have hib : decide ((i : Int) < (es.length : Int)) = true := by simp; omega
      obtain ⟨SS, hSS⟩ : ∃ SS : World → Prop, SS = (fun W => W.cell? ⟨D, 0, none⟩ = some (.slice A ar.length c) ∧ W.cell? ⟨D, 1, none⟩ = some (.slice (some ⟨gr, 0, none⟩) es.length cr)) := ⟨_, rfl⟩
      have HB := Lib.hid (show ∀ W, SS W → W.cell? ⟨D, 0, none⟩ = some (.slice A ar.length c) ∧ W.cell? ⟨D, 1, none⟩ = some (.slice (some ⟨gr, 0, none⟩) es.length cr) from by rw [hSS]; exact fun W hW => hW)
      have HC := Lib.hid (show ∀ W (q : Nat), Pg3 w W D B g bs q A c ar (some ⟨gr, 0, none⟩) cr es → SS W from by rw [hSS]; exact fun W q hW => ⟨hW.prg.cell 0, hW.prg.cell 1⟩)
      clear hSS
      go_upto_region 6 with (fail)
      have HRd := Lib.hid (H5.out.go hgl (H5.out.rdr.below (Below.refl _ _).drew H5.out.rdr.lt) (Only.of_below (Below.refl _ _).drew))
      have SB := HC.out _ _ HRd.out
      have HX7 := Lib.hid (HRd.out.go hgl (HRd.out.rdr.below (below1 w5.drew (.cells #[.int .i64 (-1), .int .i64 (ar.length : Int)] 3)) HRd.out.rdr.lt) (Only.of_below (below1 w5.drew (.cells #[.int .i64 (-1), .int .i64 (ar.length : Int)] 3))))
      refine wp_region_rel SS 12 13 (by kernel_rfl) rfl ?_
      refine wpAnyR_pure (i := 0) (oi := _) ?v0 rfl rfl (by kernel_rfl) (by decide) (fun _ _ _ h => h) rfl ?hy0 (fun _ => SB) ?rest0
      case hy0 => (intro W; go_simp; (try with_reducible rfl))
      try simp only [List.setIfInBounds_toArray, List.set_cons_zero, List.set_cons_succ]
      refine wpAnyR_pure (i := 2) (oi := _) ?v2 rfl rfl (by kernel_rfl) (by decide) (fun _ _ _ h => h) rfl ?hy2 (fun _ => SB) ?rest2
      case hy2 => (intro W; go_simp; (try with_reducible rfl))
      try simp only [List.setIfInBounds_toArray, List.set_cons_zero, List.set_cons_succ]
      refine wpAnyR_pure (i := 3) (oi := _) ?v3 rfl rfl (by kernel_rfl) (by decide) (fun _ _ _ h => h) rfl ?hy3 (fun _ => SB) ?rest3
      case hy3 => (intro W; go_simp; (try with_reducible rfl))
      try simp only [List.setIfInBounds_toArray, List.set_cons_zero, List.set_cons_succ]
      refine wpAnyR_pure (i := 4) (oi := _) ?v4 rfl rfl (by kernel_rfl) (by decide) (fun _ _ _ h => h) rfl ?hy4 (fun _ => SB) ?rest4
      case hy4 => (intro W; go_simp; (try with_reducible rfl))
      try simp only [List.setIfInBounds_toArray, List.set_cons_zero, List.set_cons_succ]
      refine wpAnyR_take (i := 1) (oi := _) ?v1 rfl rfl (by kernel_rfl) (fun _ _ _ h => h) rfl ?hy1 SB ?rest1
      case hy1 => (intro W hW; obtain ⟨E0, E1⟩ := HB.out W hW; go_simp; (try with_reducible rfl))
      try simp only [List.setIfInBounds_toArray, List.set_cons_zero, List.set_cons_succ]
      refine wpAnyR_take (i := 5) (oi := _) ?v5 rfl rfl (by kernel_rfl) (fun _ _ _ h => h) rfl ?hy5 SB ?rest5
      case hy5 => (intro W hW; obtain ⟨E0, E1⟩ := HB.out W hW; go_simp; (try with_reducible rfl))
      try simp only [List.setIfInBounds_toArray, List.set_cons_zero, List.set_cons_succ]
      refine wpAnyR_pure (i := 6) (oi := _) ?v6 rfl rfl (by kernel_rfl) (by decide) (fun _ _ _ h => h) rfl ?hy6 (fun _ => SB) ?rest6
      case hy6 => (intro W; go_simp; (try with_reducible rfl))
      try simp only [List.setIfInBounds_toArray, List.set_cons_zero, List.set_cons_succ]
      refine wpAnyR_one (i := 7) (by kernel_rfl) rfl (fun K hK => ?_)
      try rw [if_pos (show Region.wanted _ _ = true from rfl)]
      go_simp
      refine hK.out _ _ (fun _ => HC.out _ _ HX7.out) ?_
      clear hK K
      try simp only [List.setIfInBounds_toArray, List.set_cons_zero, List.set_cons_succ, Act.put]
      refine wpAnyR_one (i := 8) (by kernel_rfl) rfl (fun K hK => ?_)
      try rw [if_pos (show Region.wanted _ _ = true from rfl)]
      go_simp
      refine (num_any g bs _ _ _ [-1, (ar.length : Int)] 2 _ HX7.out.rdr (by omega) (Blk.new _ _ _) rfl (by have := HX7.out.rdr.lt; have := H5.out.only.size; show w5.heap.size ≠ g; omega) rfl (by simp) (by simp)).mono ?_
      rintro e wn ⟨⟨x, rfl, _⟩, hpn⟩
      have Hn := Lib.hid (HX7.out.go hgl hpn.1 hpn.2)
      clear hpn
      obtain ⟨c0, c1, c2⟩ := flatEnt_at es i hi2
      have r2 := World.ownsRow.cells Hn.out.rules.row (g := gr) rfl _ _ c0
      rw [Go.WideShapes.add_plain, Nat.zero_add] at r2
      have r3 := Hn.out.rules.row.frozenAt (i * 3)
      clear c0 c1 c2
      refine hK.out _ _ (fun _ => HC.out _ _ Hn.out) ?_
      clear hK K
      try simp only [List.setIfInBounds_toArray, List.set_cons_zero, List.set_cons_succ, Act.put]
      refine wpAnyR_one (i := 9) (by kernel_rfl) rfl (fun K hK => ?_)
      try rw [if_pos (show Region.wanted _ _ = true from rfl)]
      go_simp
      refine hK.out _ _ (fun _ => HC.out _ _ Hn.out) ?_
      clear hK K
      try simp only [List.setIfInBounds_toArray, List.set_cons_zero, List.set_cons_succ, Act.put]
      refine wpAnyR_pure (i := 10) (oi := _) ?v10 rfl rfl (by kernel_rfl) (by decide) (fun _ _ _ h => h) rfl ?hy10 (fun _ => HC.out _ _ Hn.out) ?rest10
      case hy10 => (intro W; go_simp; (try with_reducible rfl))
      try simp only [List.setIfInBounds_toArray, List.set_cons_zero, List.set_cons_succ]
      refine wpAnyR_pure (i := 11) (oi := _) ?v11 rfl rfl (by kernel_rfl) (by decide) (fun _ _ _ h => h) rfl ?hy11 (fun _ => HC.out _ _ Hn.out) ?rest11
      case hy11 => (intro W; go_simp; (try with_reducible rfl))
      try simp only [List.setIfInBounds_toArray, List.set_cons_zero, List.set_cons_succ]
      refine wpAnyR_one (i := 12) (by kernel_rfl) rfl (fun K hK => ?_)
      go_simp
      refine hK.out _ _ (fun hf => absurd hf (by decide)) ?_
      clear hK K
      refine wpAnyR_done (by kernel_rfl) ?_
      obtain ⟨es2, hes2⟩ : ∃ es2, es2 = es.set i (((x, es[i].1.1.2), es[i].1.2), es[i].2) := ⟨_, rfl⟩
      obtain ⟨w6, hw6⟩ : ∃ w6, w6 = wn.setCell ⟨gr, i * 3, none⟩ (.int .i64 x) := ⟨_, rfl⟩
      have hl2 : es.length = es2.length := by rw [hes2]; simp
      have HC6 := Hn.out.rules.setPred hi2 x
      rw [← hes2] at HC6
      have H6 := Lib.hid (Hn.out.row hgl hl2.symm HC6)
      have HO6 := Lib.hid (show AnyOk ar es2 from by
        obtain ⟨a1, a2, a3, a4, a5, a6⟩ := HOK.out
        refine ⟨a1, a2, a3, by omega, by omega, fun e he => ?_⟩
        rw [hes2] at he
        rcases List.mem_or_eq_of_mem_set he with he | rfl
        · exact a6 e he
        · exact a6 es[i] (List.getElem_mem hi2))
      rw [← hw6] at H6 ⊢
      rw [hl2] at k1 ⊢
      clear HC6 hw6 hes2 hl2 r2 r3 k0 k1
      have k0 : w6.cell? ⟨D, 0, none⟩ = some (.slice A ar.length c) := H6.out.prg.cell 0
      have k1 : w6.cell? ⟨D, 1, none⟩ = some (.slice (some ⟨gr, 0, none⟩) es2.length cr) := H6.out.prg.cell 1
      have j0 : w6.cell? ⟨w.heap.size, 0, none⟩ = some (.slice none 0 0) := H6.out.res.cell 0
      have j1 : w6.cell? ⟨w.heap.size, 1, none⟩ = some (.slice none 0 0) := H6.out.res.cell 1
      have l0 := H6.out.res.frozen 0
      have l1 := H6.out.res.frozen 1
      go_wp2_with (fail)
      obtain ⟨W, hW⟩ : ∃ W, W = (w6.setCell ⟨w.heap.size, 0, none⟩ (.slice A ar.length c)).setCell ⟨w.heap.size, 1, none⟩ (.slice (some ⟨gr, 0, none⟩) es2.length cr) := ⟨_, rfl⟩
      rw [← hW]
      obtain ⟨f1, f2, f3, f4, f5, f6, f7⟩ := H6.out.four.done hgl hW
      have d0 := f7.cell 0
      have d1 := f7.cell 1
      refine bodyPost_ret (v := .agg #[.slice A ar.length c, .slice (some ⟨gr, 0, none⟩) es2.length cr]) (by simp [results, Try.results32, go_sem, d0, d1]) rfl ?_
      exact ⟨A, some ⟨gr, 0, none⟩, c, cr, B, q + 1 + 1 + 1 + 1, ar, es2, rfl, HO6.out, by omega, f1, f2, f3, f4, f5, f6⟩
    · have hb0 : (kk == 0) = false := by simp [hk0]
      by_cases hk1 : kk = 1
      · have hb1 : (kk == 1) = true := by simp [hk1]
        clear hk0 hk1
        have hib : decide ((i : Int) < (es.length : Int)) = true := by simp; omega
        have hi2 : i < es.length := by omega
        obtain ⟨c0, c1, c2⟩ := flatEnt_at es i hi2
        have r2 := World.ownsRow.cells H5.out.rules.row (g := gr) rfl _ _ c2
        rw [Go.WideShapes.add_plain, Nat.zero_add] at r2
        have r3 := H5.out.rules.row.frozenAt (i * 3 + 2)
        clear c0 c1 c2
        go_upto_region 12 with (fail)
        obtain ⟨es2, hes2⟩ : ∃ es2, es2 = es.set i ((es[i].1.1, []), es[i].2.1, .slice none 0 0) := ⟨_, rfl⟩
        obtain ⟨w6, hw6⟩ : ∃ w6, w6 = w5.setCell ⟨gr, i * 3 + 2, none⟩ (.slice none 0 0) := ⟨_, rfl⟩
        have hl2 : es.length = es2.length := by rw [hes2]; simp
        have HC6 := H5.out.rules.setBody hi2
        rw [← hes2] at HC6
        have H6 := Lib.hid (H5.out.row hgl hl2.symm HC6)
        have HO6 := Lib.hid (show AnyOk ar es2 from by
          obtain ⟨a1, a2, a3, a4, a5, a6⟩ := HOK.out
          refine ⟨a1, a2, a3, by omega, by omega, fun e he => ?_⟩
          rw [hes2] at he
          rcases List.mem_or_eq_of_mem_set he with he | rfl
          · exact a6 e he
          · exact ⟨(a6 _ (List.getElem_mem hi2)).1, by simp, by simp [totL], KindsOk.nil⟩)
        rw [← hw6] at H6 ⊢
        rw [hl2] at k1 ⊢
        clear HC6 hw6 hes2 hl2 r2 r3 k0 k1
        have k0 : w6.cell? ⟨D, 0, none⟩ = some (.slice A ar.length c) := H6.out.prg.cell 0
        have k1 : w6.cell? ⟨D, 1, none⟩ = some (.slice (some ⟨gr, 0, none⟩) es2.length cr) := H6.out.prg.cell 1
        have j0 : w6.cell? ⟨w.heap.size, 0, none⟩ = some (.slice none 0 0) := H6.out.res.cell 0
        have j1 : w6.cell? ⟨w.heap.size, 1, none⟩ = some (.slice none 0 0) := H6.out.res.cell 1
        have l0 := H6.out.res.frozen 0
        have l1 := H6.out.res.frozen 1
        go_wp2_with (fail)
        obtain ⟨W, hW⟩ : ∃ W, W = (w6.setCell ⟨w.heap.size, 0, none⟩ (.slice A ar.length c)).setCell ⟨w.heap.size, 1, none⟩ (.slice (some ⟨gr, 0, none⟩) es2.length cr) := ⟨_, rfl⟩
        rw [← hW]
        obtain ⟨f1, f2, f3, f4, f5, f6, f7⟩ := H6.out.four.done hgl hW
        have d0 := f7.cell 0
        have d1 := f7.cell 1
        refine bodyPost_ret (v := .agg #[.slice A ar.length c, .slice (some ⟨gr, 0, none⟩) es2.length cr]) (by simp [results, Try.results32, go_sem, d0, d1]) rfl ?_
        exact ⟨A, some ⟨gr, 0, none⟩, c, cr, B, q + 1 + 1 + 1, ar, es2, rfl, HO6.out, by omega, f1, f2, f3, f4, f5, f6⟩
      · have hb1 : (kk == 1) = false := by simp [hk1]
        by_cases hk2 : kk = 2
        · have hb2 : (kk == 2) = true := by simp [hk2]
          clear hk0 hk1 hk2
          obtain ⟨ga, rfl⟩ : ∃ ga, A = some ⟨ga, 0, none⟩ := by
            obtain ⟨g2, cap, e, _⟩ := H5.out.own.1.form (by omega)
            injection e with e1 _ _
            exact ⟨g2, e1⟩
          obtain ⟨m, hm, hm2⟩ : ∃ m : Nat, IntKind.i64.wrap ((ar.length : Int) - 1) = (m : Int) ∧ m < ar.length := ⟨ar.length - 1, by unfold IntKind.wrap; simp [IntKind.bits, IntKind.signed]; omega, by omega⟩
          have k0 : w5.cell? ⟨D, 0, none⟩ = some (.slice (some ⟨ga, 0, none⟩) ar.length c) := H5.out.prg.cell 0
          have a0 : w5.cell? ⟨ga, m, none⟩ = some (.int .i64 (ar[m]'hm2)) := by rw [H5.out.own.1.cellAt m (by omega)]; simp [hm2]
          have a1 := H5.out.own.1.frozenAt m
          have hmb : decide ((m : Int) < (ar.length : Int)) = true := by simp; omega
          go_upto_region 12 with (fail)
          obtain ⟨ar2, har2⟩ : ∃ ar2, ar2 = ar.set m (3 : Int) := ⟨_, rfl⟩
          obtain ⟨w6, hw6⟩ : ∃ w6, w6 = w5.setCell ⟨ga, m, none⟩ (.int .i64 3) := ⟨_, rfl⟩
          have H6 := Lib.hid (H5.out.arity hgl hm2 3)
          have HO6 := Lib.hid (show AnyOk ar2 es from by
            obtain ⟨a1, a2, a3, a4, a5, a6⟩ := HOK.out
            refine ⟨by rw [har2]; simpa using a1, by rw [har2]; simpa using a2, fun x hx => ?_, a4, a5, a6⟩
            rw [har2] at hx
            rcases List.mem_or_eq_of_mem_set hx with hx | rfl
            · exact a3 x hx
            · omega)
          rw [← hw6, ← har2] at H6
          rw [← hw6]
          clear hw6 har2 a0 a1 k0 k1
          have k0 : w6.cell? ⟨D, 0, none⟩ = some (.slice (some ⟨ga, 0, none⟩) ar2.length c) := H6.out.prg.cell 0
          have k1 : w6.cell? ⟨D, 1, none⟩ = some (.slice (some ⟨gr, 0, none⟩) es.length cr) := H6.out.prg.cell 1
          have j0 : w6.cell? ⟨w.heap.size, 0, none⟩ = some (.slice none 0 0) := H6.out.res.cell 0
          have j1 : w6.cell? ⟨w.heap.size, 1, none⟩ = some (.slice none 0 0) := H6.out.res.cell 1
          have l0 := H6.out.res.frozen 0
          have l1 := H6.out.res.frozen 1
          go_wp2_with (fail)
          obtain ⟨W, hW⟩ : ∃ W, W = (w6.setCell ⟨w.heap.size, 0, none⟩ (.slice (some ⟨ga, 0, none⟩) ar2.length c)).setCell ⟨w.heap.size, 1, none⟩ (.slice (some ⟨gr, 0, none⟩) es.length cr) := ⟨_, rfl⟩
          rw [← hW]
          obtain ⟨f1, f2, f3, f4, f5, f6, f7⟩ := H6.out.four.done hgl hW
          have d0 := f7.cell 0
          have d1 := f7.cell 1
          refine bodyPost_ret (v := .agg #[.slice (some ⟨ga, 0, none⟩) ar2.length c, .slice (some ⟨gr, 0, none⟩) es.length cr]) (by simp [results, Try.results32, go_sem, d0, d1]) rfl ?_
          exact ⟨some ⟨ga, 0, none⟩, some ⟨gr, 0, none⟩, c, cr, B, q + 1 + 1 + 1, ar2, es, rfl, HO6.out, by omega, f1, f2, f3, f4, f5, f6⟩
        · have hk3 : kk = 3 := by omega
          have hb2 : (kk == 2) = false := by simp [hk3]
          clear hk0 hk1 hk2 hk3
          have hi2 : i < es.length := by omega
          have hib : decide ((i : Int) < (es.length : Int)) = true := by simp; omega
          have HRd := Lib.hid (H5.out.go hgl (H5.out.rdr.below (Below.refl _ _).drew H5.out.rdr.lt) (Only.of_below (Below.refl _ _).drew))
          obtain ⟨lo, mid, hi, q1, q2⟩ := HRd.out.rules.own
          have HQ := Lib.hid (And.intro q1 q2)
          obtain ⟨A1, c1, hv1⟩ := (q1 i hi2).head.form
          have HV1 := Lib.hid hv1
          have hl1 : es[i].1.1.2.length ≤ 2 := HES2.out _ (List.getElem_mem hi2)
          obtain ⟨xs, hxs⟩ : ∃ xs, xs = es[i].1.1.2 := ⟨_, rfl⟩
          have HXS := Lib.hid hxs
          rw [← hxs] at hv1 hl1
          obtain ⟨c0, c1', c2⟩ := flatEnt_at es i hi2
          have r2 := World.ownsRow.cells HRd.out.rules.row (g := gr) rfl _ _ c1'
          rw [Go.WideShapes.add_plain, Nat.zero_add, hv1] at r2
          have r3 := HRd.out.rules.row.frozenAt (i * 3 + 1)
          obtain ⟨bl, hbl⟩ : ∃ bl, bl = lo i := ⟨_, rfl⟩
          have HBL := Lib.hid hbl
          have HOW := Lib.hid (show w5.drew.ownsRow bl 3 1 (.slice A1 xs.length c1) xs.length (xs.map (Value.int .i64)) by rw [hbl, ← hv1, hxs]; exact (q1 i hi2).head.1)
          have hblB : B ≤ bl := by rw [hbl]; exact (q1 i hi2).low
          have hblw : bl ≤ w5.heap.size := by rw [hbl]; have := (q1 i hi2).lm; have := (q1 i hi2).mh; have h9 := (q1 i hi2).high; rw [World.size_drew] at h9; omega
          clear q1 q2 hv1 hxs c0 c1' c2 hbl
          obtain ⟨SS, hSS⟩ : ∃ SS : World → Prop, SS = (fun W => W.cell? ⟨D, 1, none⟩ = some (.slice (some ⟨gr, 0, none⟩) es.length cr) ∧ W.cell? ⟨gr, i * 3 + 1, none⟩ = some (.slice A1 xs.length c1)) := ⟨_, rfl⟩
          have HB := Lib.hid (show ∀ W, SS W → W.cell? ⟨D, 1, none⟩ = some (.slice (some ⟨gr, 0, none⟩) es.length cr) ∧ W.cell? ⟨gr, i * 3 + 1, none⟩ = some (.slice A1 xs.length c1) from by rw [hSS]; exact fun W hW => hW)
          have HC := Lib.hid (show ∀ W, W.cell? ⟨D, 1, none⟩ = some (.slice (some ⟨gr, 0, none⟩) es.length cr) → W.cell? ⟨gr, i * 3 + 1, none⟩ = some (.slice A1 xs.length c1) → SS W from by rw [hSS]; exact fun W h1 h2 => ⟨h1, h2⟩)
          clear hSS
          go_upto_region 11 with (fail)
          have SB := HC.out w5.drew (HRd.out.prg.cell 1) r2
          have HX0 := Lib.hid (HRd.out.go hgl (HRd.out.rdr.below (below1 w5.drew (.cells #[.int .i64 0] 3)) HRd.out.rdr.lt) (Only.of_below (below1 w5.drew (.cells #[.int .i64 0] 3))))
          have r4 : (w5.drew.alloc (.cells #[.int .i64 0] 3)).cell? ⟨gr, i * 3 + 1, none⟩ = some (.slice A1 xs.length c1) := ((below1 w5.drew _).cell (World.block_lt_of_cell? _ _ r2)).trans r2
          refine wp_region_rel SS 15 16 (by kernel_rfl) rfl ?_
          refine wpAnyR_pure (i := 0) (oi := _) ?y0 rfl rfl (by kernel_rfl) (by decide) (fun _ _ _ h => h) rfl ?gy0 (fun _ => SB) ?rust0
          case gy0 => (intro W; go_simp; (try with_reducible rfl))
          try simp only [List.setIfInBounds_toArray, List.set_cons_zero, List.set_cons_succ]
          refine wpAnyR_pure (i := 2) (oi := _) ?y2 rfl rfl (by kernel_rfl) (by decide) (fun _ _ _ h => h) rfl ?gy2 (fun _ => SB) ?rust2
          case gy2 => (intro W; go_simp; (try with_reducible rfl))
          try simp only [List.setIfInBounds_toArray, List.set_cons_zero, List.set_cons_succ]
          refine wpAnyR_pure (i := 3) (oi := _) ?y3 rfl rfl (by kernel_rfl) (by decide) (fun _ _ _ h => h) rfl ?gy3 (fun _ => SB) ?rust3
          case gy3 => (intro W; go_simp; (try with_reducible rfl))
          try simp only [List.setIfInBounds_toArray, List.set_cons_zero, List.set_cons_succ]
          refine wpAnyR_pure (i := 5) (oi := _) ?y5 rfl rfl (by kernel_rfl) (by decide) (fun _ _ _ h => h) rfl ?gy5 (fun _ => SB) ?rust5
          case gy5 => (intro W; go_simp; (try with_reducible rfl))
          try simp only [List.setIfInBounds_toArray, List.set_cons_zero, List.set_cons_succ]
          refine wpAnyR_take (i := 1) (oi := _) ?y1 rfl rfl (by kernel_rfl) (fun _ _ _ h => h) rfl ?gy1 SB ?rust1
          case gy1 => (intro W hW; obtain ⟨E0, E1⟩ := HB.out W hW; go_simp; (try with_reducible rfl))
          try simp only [List.setIfInBounds_toArray, List.set_cons_zero, List.set_cons_succ]
          refine wpAnyR_take (i := 4) (oi := _) ?y4 rfl rfl (by kernel_rfl) (fun _ _ _ h => h) rfl ?gy4 SB ?rust4
          case gy4 => (intro W hW; obtain ⟨E0, E1⟩ := HB.out W hW; go_simp; (try with_reducible rfl))
          try simp only [List.setIfInBounds_toArray, List.set_cons_zero, List.set_cons_succ]
          refine wpAnyR_pure (i := 6) (oi := _) ?y6 rfl rfl (by kernel_rfl) (by decide) (fun _ _ _ h => h) rfl ?gy6 (fun _ => SB) ?rust6
          case gy6 => (intro W; go_simp; (try with_reducible rfl))
          try simp only [List.setIfInBounds_toArray, List.set_cons_zero, List.set_cons_succ]
          refine wpAnyR_pure (i := 7) (oi := _) ?y7 rfl rfl (by kernel_rfl) (by decide) (fun _ _ _ h => h) rfl ?gy7 (fun _ => SB) ?rust7
          case gy7 => (intro W; go_simp; (try with_reducible rfl))
          try simp only [List.setIfInBounds_toArray, List.set_cons_zero, List.set_cons_succ]
          refine wpAnyR_pure (i := 8) (oi := _) ?y8 rfl rfl (by kernel_rfl) (by decide) (fun _ _ _ h => h) rfl ?gy8 (fun _ => SB) ?rust8
          case gy8 => (intro W; go_simp; (try with_reducible rfl))
          try simp only [List.setIfInBounds_toArray, List.set_cons_zero, List.set_cons_succ]
          refine wpAnyR_take (i := 9) (oi := _) ?y9 rfl rfl (by kernel_rfl) (fun _ _ _ h => h) rfl ?gy9 SB ?rust9
          case gy9 => (intro W hW; obtain ⟨E0, E1⟩ := HB.out W hW; go_simp; (try with_reducible rfl))
          try simp only [List.setIfInBounds_toArray, List.set_cons_zero, List.set_cons_succ]
          refine wpAnyR_one (i := 10) (by kernel_rfl) rfl (fun K hK => ?_)
          try rw [if_pos (show Region.wanted _ _ = true from rfl)]
          go_simp
          refine hK.out _ _ (fun _ => HC.out _ (HX0.out.prg.cell 1) r4) ?_
          clear hK K
          try simp only [List.setIfInBounds_toArray, List.set_cons_zero, List.set_cons_succ, Act.put]
          refine wpAnyR_one (i := 11) (by kernel_rfl) rfl (fun K hK => ?_)
          refine step_append_lies _ rfl (.tmp 60) (.tmp 61) 24 rfl bl 3 i0 (.int .i64 0) 1 8 Try.underlying24 hi0 hz0 hz1 hz2 rfl (by decide) (.slice A1 xs.length c1) xs.length (xs.map (Value.int .i64)) rfl ?c1 ⟨w5.heap.size, 0, none⟩ 1 1 [.int .i64 0] rfl rfl ?c4 ?c2 (by omega) (by unfold maxLen; omega) (by omega) ?c3 _ rfl ?c5
          case c1 => exact HOW.out.alloc _
          case c4 => exact cell_one_new _ _ _
          case c2 => intro u hu; simp at hu; subst hu; rfl
          case c3 => simp; omega
          case c5 =>
            intro g2 cap w7 hown hgr hat _
            obtain ⟨ys, hys⟩ : ∃ ys, ys = xs ++ [(0 : Int)] := ⟨_, rfl⟩
            have hyl : xs.length + 1 = ys.length := by rw [hys]; simp
            have hgr1' : (w5.drew.alloc (.cells #[.int .i64 0] 3)).grownBy w7 es[i].2.1.ownBlock := by rw [HV1.out, ← HXS.out]; exact hgr
            have hkf := HRd.out.kept HQ.out.1 hi2 hgr1'
            have e0 : w7.cell? ⟨D, 1, none⟩ = some (.slice (some ⟨gr, 0, none⟩) es.length cr) := Blk.cell (hkf.2.trans HRd.out.prg) 1
            have r5 : w7.cell? ⟨gr, i * 3 + 1, none⟩ = some (.slice A1 xs.length c1) := by rw [← r2]; simp [World.cell?, hkf.1]
            have r6 : w7.frozen? ⟨gr, i * 3 + 1, none⟩ = false := by rw [← r3]; simp [World.frozen?, hkf.1]
            have HST := Lib.hid (fun w6 (hw6 : w6 = w7.setCell ⟨gr, i * 3 + 1, none⟩ (.slice (some ⟨g2, 0, none⟩) ys.length cap)) => HRd.out.longer (x := 0) hgl HQ.out.1 HQ.out.2 hi2 (by rw [hys, HXS.out]) hgr1' (by rw [HV1.out, ← HXS.out]; exact hat) (by rw [← HBL.out, ← hyl, hys, List.map_append]; exact hown) hw6)
            have HO6 := Lib.hid (show AnyOk ar (es.set i (((es[i].1.1.1, ys), es[i].1.2), .slice (some ⟨g2, 0, none⟩) ys.length cap, es[i].2.2)) from by
              obtain ⟨a1, a2, a3, a4, a5, a6⟩ := HOK.out
              refine ⟨a1, a2, a3, by simpa using a4, by simpa using a5, fun e he => ?_⟩
              rcases List.mem_or_eq_of_mem_set he with he | rfl
              · exact a6 e he
              · exact ⟨by show ys.length ≤ 3; omega, (a6 es[i] (List.getElem_mem hi2)).2⟩)
            have hyl2 := Lib.hid hyl
            clear hkf hown hgr hgr1' hat hys
            refine hK.out _ _ (fun _ => HC.out _ e0 r5) ?_
            clear hK K
            try simp only [List.setIfInBounds_toArray, List.set_cons_zero, List.set_cons_succ, Act.put]
            refine wpAnyR_pure (i := 12) (oi := _) ?y12 rfl rfl (by kernel_rfl) (by decide) (fun _ _ _ h => h) rfl ?gy12 (fun _ => HC.out _ e0 r5) ?rust12
            case gy12 => (intro W; go_simp; (try with_reducible rfl))
            try simp only [List.setIfInBounds_toArray, List.set_cons_zero, List.set_cons_succ]
            refine wpAnyR_pure (i := 13) (oi := _) ?y13 rfl rfl (by kernel_rfl) (by decide) (fun _ _ _ h => h) rfl ?gy13 (fun _ => HC.out _ e0 r5) ?rust13
            case gy13 => (intro W; go_simp; (try with_reducible rfl))
            try simp only [List.setIfInBounds_toArray, List.set_cons_zero, List.set_cons_succ]
            refine wpAnyR_pure (i := 14) (oi := _) ?y14 rfl rfl (by kernel_rfl) (by decide) (fun _ _ _ h => h) rfl ?gy14 (fun _ => HC.out _ e0 r5) ?rust14
            case gy14 => (intro W; go_simp; (try with_reducible rfl))
            try simp only [List.setIfInBounds_toArray, List.set_cons_zero, List.set_cons_succ]
            refine wpAnyR_one (i := 15) (by kernel_rfl) rfl (fun K hK => ?_)
            go_simp
            refine hK.out _ _ (fun hf => absurd hf (by decide)) ?_
            clear hK K
            refine wpAnyR_done (by kernel_rfl) ?_
            obtain ⟨w6, hw6⟩ : ∃ w6, w6 = w7.setCell ⟨gr, i * 3 + 1, none⟩ (.slice (some ⟨g2, 0, none⟩) ys.length cap) := ⟨_, rfl⟩
            have H6 := Lib.hid (HST.out w6 hw6)
            rw [← hw6]
            obtain ⟨es2, hes2⟩ : ∃ es2, es2 = es.set i (((es[i].1.1.1, ys), es[i].1.2), .slice (some ⟨g2, 0, none⟩) ys.length cap, es[i].2.2) := ⟨_, rfl⟩
            have hl2 : es.length = es2.length := by rw [hes2]; simp
            rw [← hes2] at H6 HO6
            clear hw6 hes2 e0 r5 r6 r2 r3 r4 hyl HST k0 k1
            have k0 : w6.cell? ⟨D, 0, none⟩ = some (.slice A ar.length c) := H6.out.prg.cell 0
            have k1 : w6.cell? ⟨D, 1, none⟩ = some (.slice (some ⟨gr, 0, none⟩) es2.length cr) := H6.out.prg.cell 1
            have j0 : w6.cell? ⟨w.heap.size, 0, none⟩ = some (.slice none 0 0) := H6.out.res.cell 0
            have j1 : w6.cell? ⟨w.heap.size, 1, none⟩ = some (.slice none 0 0) := H6.out.res.cell 1
            have l0 := H6.out.res.frozen 0
            have l1 := H6.out.res.frozen 1
            clear hl2
            go_wp2_with (fail)
            obtain ⟨W, hW⟩ : ∃ W, W = (w6.setCell ⟨w.heap.size, 0, none⟩ (.slice A ar.length c)).setCell ⟨w.heap.size, 1, none⟩ (.slice (some ⟨gr, 0, none⟩) es2.length cr) := ⟨_, rfl⟩
            rw [← hW]
            obtain ⟨f1, f2, f3, f4, f5, f6, f7⟩ := H6.out.done hgl hW
            have d0 := f7.cell 0
            have d1 := f7.cell 1
            refine bodyPost_ret (v := .agg #[.slice A ar.length c, .slice (some ⟨gr, 0, none⟩) es2.length cr]) (by simp [results, Try.results32, go_sem, d0, d1]) rfl ?_
            exact ⟨A, some ⟨gr, 0, none⟩, c, cr, B, q + 1 + 1 + 1, ar, es2, rfl, HO6.out, by omega, f1, f2, f3, f4, f5, f6⟩
  · have hzb : (z == 0) = false := by simp [hz]
    clear hz
    have k0 : w3.cell? ⟨D, 0, none⟩ = some (.slice A ar.length c) := H3.out.prg.cell 0
    have k1 : w3.cell? ⟨D, 1, none⟩ = some (.slice Ar es.length cr) := H3.out.prg.cell 1
    have j0 : w3.cell? ⟨w.heap.size, 0, none⟩ = some (.slice none 0 0) := H3.out.res.cell 0
    have j1 : w3.cell? ⟨w.heap.size, 1, none⟩ = some (.slice none 0 0) := H3.out.res.cell 1
    have l0 := H3.out.res.frozen 0
    have l1 := H3.out.res.frozen 1
    go_wp2_with (fail)
    obtain ⟨W, hW⟩ : ∃ W, W = (w3.setCell ⟨w.heap.size, 0, none⟩ (.slice A ar.length c)).setCell ⟨w.heap.size, 1, none⟩ (.slice Ar es.length cr) := ⟨_, rfl⟩
    rw [← hW]
    obtain ⟨f1, f2, f3, f4, f5, f6, f7⟩ := H3.out.four.done hgl hW
    have d0 := f7.cell 0
    have d1 := f7.cell 1
    refine bodyPost_ret (v := .agg #[.slice A ar.length c, .slice Ar es.length cr]) (by simp [results, Try.results32, go_sem, d0, d1]) rfl ?_
    exact ⟨A, Ar, c, cr, B, q + 1, ar, es, rfl, HOK.out, by omega, f1, f2, f3, f4, f5, f6⟩

end Go.Proofs.Ytofkcmihcgmmpaa
/-
  The walks of FactOk: the program's (with factFits) and the specification's.
-/
namespace Go.Proofs.Ytofkcmihcgmmpaa
open Go.RowKit

def constOk (x : Int) : Bool := decide (0 ≤ x ∧ x ≤ 5)
def factFits (ar : List Int) (f : LFact) : Bool := decide (0 ≤ f.1 ∧ f.1 < ar.length ∧ (f.2.length : Int) = ar.getD f.1.toNat 0) && f.2.all constOk
def factOk (ar : List Int) (f : LFact) : Bool := arityOk ar && factFits ar f

def ConstsTo (xs : List Int) (k : Nat) : Prop := ∀ j, j < k → constOk (xs.getD j 0) = true
theorem ConstsTo.step {xs : List Int} {k : Nat} (h : ConstsTo xs k) (e : constOk (xs.getD k 0) = true) : ConstsTo xs (k + 1) := fun j hj => by
  by_cases h2 : j = k
  · subst h2; exact e
  · exact h j (by omega)
theorem ConstsTo.all {xs : List Int} (h : ConstsTo xs xs.length) : xs.all constOk = true := by
  rw [List.all_eq_true]
  intro x hx
  obtain ⟨j, hj, rfl⟩ := List.getElem_of_mem hx
  have := h j hj
  simpa [hj] using this
theorem consts_not {xs : List Int} {k : Nat} (hk : k < xs.length) (e : constOk xs[k] = false) : xs.all constOk = false := by
  rw [List.all_eq_false]
  exact ⟨xs[k], List.getElem_mem hk, by simp [e]⟩

set_option maxHeartbeats 400000 in
theorem areConstants_any (v : Value) (xs : List Int) (B : Nat) (w : World) (h : RdInts w B v xs) (hn : xs.length ≤ 1048576) :
    Calls Try.prog 24 #[v] w fun e w' => e = .returned (.bool (xs.all constOk)) ∧ w = w' := by
  obtain ⟨A, c, rfl, hc, h2⟩ := h
  go_enter Try.func24, Try.ntmps24
  go_wp2_with (fail)
  go_loop [4, 7] (fun _ i => ∃ k : Nat, k ≤ xs.length ∧ i = .int .i64 k ∧ ConstsTo xs k) (fun _ i => xs.length - (intOf i).toNat)
  case atStart => exact ⟨0, Nat.zero_le _, rfl, fun j hj => absurd hj (by omega)⟩
  case round =>
    obtain ⟨k, hk, rfl, hs⟩ := hrel
    by_cases hlk : k < xs.length
    · obtain ⟨b2, o2, rfl, hbB2, hx2⟩ := h2 (by omega)
      have hck2 : w.cell? ⟨b2, o2 + k, none⟩ = some (.int .i64 xs[k]) := hx2 k hlk
      clear hx2 h2
      by_cases h0 : xs[k] < 0
      · have HE := Lib.hid (consts_not hlk (by simp [constOk]; omega))
        clear hs
        go_wp2_with (fail)
        go_ret
        exact ⟨ret_bool HE.out.symm, rfl⟩
      · have hd : decide (xs[k] < 0) = false := by simpa using h0
        by_cases h2 : 5 < xs[k]
        · have HE := Lib.hid (consts_not hlk (by simp [constOk]; omega))
          clear hs
          go_wp2_with (fail)
          go_ret
          exact ⟨ret_bool HE.out.symm, rfl⟩
        · have HS := Lib.hid (hs.step (by simp [hlk, constOk]; omega))
          clear hs
          go_wp2_with (fail)
          go_round
          case rel => exact ⟨k + 1, by omega, by go_num, HS.out⟩
          case measure => simp [intOf]; omega
    · have hkn : k = xs.length := by omega
      have HE := Lib.hid (show xs.all constOk = true from ConstsTo.all (by rw [← hkn]; exact hs))
      clear hkn hs h2
      go_wp2_with (fail)
      go_ret
      exact ⟨ret_bool HE.out.symm, rfl⟩

end Go.Proofs.Ytofkcmihcgmmpaa
/-
  The walk of the specification's FactOk.
-/
namespace Go.Proofs.Ytofkcmihcgmmpaa
open Go.RowKit

set_option maxHeartbeats 400000 in
set_option maxRecDepth 100000 in
theorem specFactOk_any (v v2 : Value) (ar : List Int) (f : LFact) (w : World) (h : RdInts w w.heap.size v ar) (h2 : RdFact w w.heap.size v2 f) (hr : ar.length ≤ 1048576) (hn : f.2.length ≤ 1048576) :
    Calls Try.prog 47 #[v, v2] w fun e w' => e = .returned (.bool (factOk ar f)) ∧ Below w.heap.size w w' := by
  have H := Lib.hid h
  have H2 := Lib.hid h2
  obtain ⟨pp, xs⟩ := f
  obtain ⟨A, c, rfl, hc, h⟩ := h
  obtain ⟨a, rfl, A2, c2, rfl, hc2, h2⟩ := h2
  by_cases ha : arityOk ar = true
  · have CA : ∀ W, Below w.heap.size w W → Calls Try.prog 55 #[.slice A ar.length c] W fun e w' => e = .returned (.bool true) ∧ w' = W := fun W hW =>
      (specArityOk_any _ ar W (H.out.on hW) (by omega)).mono fun e w' ⟨he, hw⟩ => ⟨by rw [he, ha], hw.symm⟩
    have HCA := Lib.hid CA
    have HA := Lib.hid ha
    clear CA ha
    by_cases hp : 0 ≤ pp ∧ pp ≤ (ar.length : Int) - 1
    · have HCL := Lib.hid (l1In_yes hp)
      obtain ⟨p, rfl⟩ := Int.eq_ofNat_of_zero_le hp.1
      have hlt : p < ar.length := by omega
      have hltI : (p : Int) < (ar.length : Int) := by omega
      obtain ⟨b, o, rfl, hbB, hx⟩ := h (by omega)
      have hck : ∀ O, (w.alloc O).cell? ⟨b, o + p, none⟩ = some (.int .i64 ar[p]) := fun O => (World.cell?_alloc_lt w O ⟨b, o + p, none⟩ hbB).trans (hx p hlt)
      clear hp
      by_cases h3 : (xs.length : Int) = ar[p]
      · have hd3 : ((xs.length : Int) != ar[p]) = false := by simp [h3]
        have H3 := Lib.hid (show factOk ar ((p : Int), xs) = xs.all constOk by simp [factOk, HA.out, factFits, hlt, h3])
        clear h3 hx h
        go_enter Try.func47, Try.ntmps47
        go_wp2_with (fail)
        go_quiet (first | (go_at_call 55; exact Calls.quiet_of_same (HCA.out _ (bdrewN (below1 _ _) _))) | (go_at_call 43; exact quiet_left (HCL.out _)))
        go_wp2_with (fail)
        obtain ⟨w1, hw1⟩ : ∃ w1, w1 = (w.alloc (Obj.cells #[Value.int IntKind.i64 ↑p, Value.slice A2 xs.length c2] 34)).drewN nq := ⟨_, rfl⟩
        rw [← hw1]
        have hbe : Below w.heap.size w w1 := by rw [hw1]; exact bdrewN (below1 _ _) _
        have hblk : Blk w1 w.heap.size 34 #[.int .i64 p, .slice A2 xs.length c2] := by rw [hw1]; exact (Blk.new w _ _).drewN _
        have hc1 : w1.cell? ⟨w.heap.size, 1, none⟩ = some (.slice A2 xs.length c2) := hblk.cell 1
        clear hw1 hck
        go_loop [5] (fun i => ∃ k : Nat, k ≤ xs.length ∧ i = .int .i64 k ∧ ConstsTo xs k) (fun i => xs.length - (intOf i).toNat)
        case atStart => exact ⟨0, Nat.zero_le _, rfl, fun j hj => absurd hj (by omega)⟩
        case round =>
          obtain ⟨k, hk, rfl, hs⟩ := hrel
          by_cases hlk : k < xs.length
          · obtain ⟨b2, o2, rfl, hbB2, hx2⟩ := h2 (by show 0 < xs.length; omega)
            have hck2 : w1.cell? ⟨b2, o2 + k, none⟩ = some (.int .i64 xs[k]) := (hbe.cell (p := ⟨b2, o2 + k, none⟩) hbB2).trans (hx2 k hlk)
            clear hx2 h2
            by_cases he : 0 ≤ xs[k] ∧ xs[k] ≤ 5
            · have HS := Lib.hid (hs.step (by simpa [hlk, constOk] using he))
              have HK := Lib.hid (l1In_yes he)
              clear hs he
              go_wp2_with (go_at_call 43; refine (HK.out _).mono ?_; rintro e w' ⟨rfl, rfl⟩)
              go_round
              case rel => exact ⟨k + 1, by omega, by go_num, HS.out⟩
              case measure => simp [intOf]; omega
            · have HE := Lib.hid (consts_not hlk (by simpa [constOk] using he))
              have HK := Lib.hid (l1In_no he)
              clear hs he
              go_wp2_with (go_at_call 43; refine (HK.out _).mono ?_; rintro e w' ⟨rfl, rfl⟩)
              go_ret
              exact ⟨ret_bool (by rw [H3.out, HE.out]), hbe⟩
          · have hkn : k = xs.length := by omega
            have HE := Lib.hid (show xs.all constOk = true from ConstsTo.all (by rw [← hkn]; exact hs))
            clear hkn hs h2
            go_wp2_with (fail)
            go_ret
            exact ⟨ret_bool (by rw [H3.out, HE.out]), hbe⟩
      · have hd3 : ((xs.length : Int) != ar[p]) = true := by simp [h3]
        have HE := Lib.hid (show factOk ar ((p : Int), xs) = false by simp [factOk, factFits, hlt, h3])
        clear h3 hx h
        go_enter Try.func47, Try.ntmps47
        go_wp2_with (fail)
        go_quiet (first | (go_at_call 55; exact Calls.quiet_of_same (HCA.out _ (bdrewN (below1 _ _) _))) | (go_at_call 43; exact quiet_left (HCL.out _)))
        go_wp2_with (fail)
        go_ret
        exact ⟨ret_bool HE.out.symm, bdrewN (below1 _ _) _⟩
    · have HCL := Lib.hid (l1In_no hp)
      have HE := Lib.hid (show factOk ar (pp, xs) = false by simp [factOk, factFits]; omega)
      clear hp
      go_enter Try.func47, Try.ntmps47
      go_wp2_with (fail)
      go_quiet (first | (go_at_call 55; exact Calls.quiet_of_same (HCA.out _ (bdrewN (below1 _ _) _))) | (go_at_call 43; exact quiet_left (HCL.out _)))
      go_wp2_with (fail)
      go_ret
      exact ⟨ret_bool HE.out.symm, bdrewN (below1 _ _) _⟩
  · have CA : ∀ W, Below w.heap.size w W → Calls Try.prog 55 #[.slice A ar.length c] W fun e w' => e = .returned (.bool false) ∧ w' = W := fun W hW =>
      (specArityOk_any _ ar W (H.out.on hW) (by omega)).mono fun e w' ⟨he, hw⟩ => ⟨by rw [he, show arityOk ar = false by simpa using ha], hw.symm⟩
    have HCA := Lib.hid CA
    have HE := Lib.hid (show factOk ar (pp, xs) = false by simp [factOk, ha])
    clear CA ha
    go_enter Try.func47, Try.ntmps47
    go_wp2_with (fail)
    go_quiet (first | (go_at_call 55; exact Calls.quiet_of_same (HCA.out _ (bdrewN (below1 _ _) _))))
    go_wp2_with (fail)
    go_ret
    exact ⟨ret_bool HE.out.symm, bdrewN (below1 _ _) _⟩

end Go.Proofs.Ytofkcmihcgmmpaa
/-
  The walk of the specification's FactsWith.
-/
namespace Go.Proofs.Ytofkcmihcgmmpaa
open Go.RowKit

/-- append of one copied fact onto the row that a loop collects. -/
theorem wpList_push {ops : Array Oper} {rest : List Oper} {op : Oper} {a : Act} {Q : Exit → Act → World → Prop} (hgd : op.guard = none) (s x : Operand)
    (ho : op.op = .call { callee := .builtin .append, args := #[s, x], argTypes := #[23, 23] })
    {w wr w2 : World} {gs : List LFact} {A A4 : Option Addr} {c c4 : Nat} {av : List Value} {f : LFact} (h : ColRel w wr gs A c av) (hb : Below wr.heap.size wr w2) (ha : OwnInts w2 wr.heap.size w2.heap.size (.slice A4 f.2.length c4) f.2)
    {n : Nat} (hnl : n = gs.length) (hs : a.eval s = .slice A n c) (hx : a.eval x = .slice (some ⟨w2.heap.size, 0, none⟩) 1 1) (hn : gs.length ≤ 1073741824)
    (K : ∀ g cap w4 av', ColRel w w4 (gs ++ [f]) (some ⟨g, 0, none⟩) cap av' → w2.grownBy w4 (Value.slice A gs.length c).ownBlock → wpList Try.prog ops Q rest (a.put op.dst (.slice (some ⟨g, 0, none⟩) (n + 1) cap)) w4) :
    wpList Try.prog ops Q (op :: rest) a (w2.alloc (.cells #[.int .i64 f.1, .slice A4 f.2.length c4] 34)) := by
  subst hnl
  obtain ⟨i0, hi0, hz0, hz1, hz2⟩ := info_parts Try.infoFact
  refine wpList_append_lies _ hgd s x 23 ho w.heap.size 34 i0 (.agg #[.int .i64 0, .slice none 0 0]) 2 32 Try.underlying23 hi0 hz0 hz1 hz2 rfl (by decide) (.slice A gs.length c) gs.length (flat gs av) hs ?_ ⟨w2.heap.size, 0, none⟩ 1 1 [.int .i64 f.1, .slice A4 f.2.length c4] hx rfl (news2 _ _ _ _) ?_ (by omega) (by unfold maxLen; omega) (by omega) ?_ _ rfl ?_
  · exact (ownsRow_below h.own.row h.own.lt hb (Nat.le_refl _)).alloc _
  · intro u hu
    simp at hu
    rcases hu with rfl | rfl <;> rfl
  · have := h.below.size
    have := hb.size
    simp
    omega
  intro g cap w4 hown hg _ _
  obtain ⟨av', hcol, _⟩ := h.push rfl hb ha hg hown
  exact K g cap w4 av' hcol (grown_from_alloc hg)

def withStep (f : LFact) (s : List LFact × Bool) (g : LFact) : List LFact × Bool :=
  ((if s.2 = false ∧ factOrder f g ≤ 0 then s.1 ++ [f] else s.1) ++ (if factOrder f g = 0 then [] else [g]), s.2 || decide (factOrder f g ≤ 0))
def withTo (fs : List LFact) (f : LFact) (k : Nat) : List LFact × Bool := (fs.take k).foldl (withStep f) ([], false)
def factsWith (fs : List LFact) (f : LFact) : List LFact := if (withTo fs f fs.length).2 then (withTo fs f fs.length).1 else (withTo fs f fs.length).1 ++ [f]
theorem withTo_step {fs : List LFact} {f : LFact} {k : Nat} (h : k < fs.length) : withTo fs f (k + 1) = withStep f (withTo fs f k) fs[k] := by
  unfold withTo
  rw [take_snoc fs k h, List.foldl_append]
  rfl
theorem withTo_bound (fs : List LFact) (f : LFact) : ∀ k, k ≤ fs.length → (withTo fs f k).1.length ≤ k + (if (withTo fs f k).2 then 1 else 0) ∧ tot (withTo fs f k).1 ≤ tot (fs.take k) + (if (withTo fs f k).2 then f.2.length else 0)
  | 0, _ => by simp [withTo, tot]
  | k + 1, hk => by
    have ih := withTo_bound fs f k (by omega)
    rw [withTo_step (by omega), tot_take fs k (by omega)]
    obtain ⟨h1, h2⟩ := ih
    unfold withStep
    cases hp : (withTo fs f k).2 <;> by_cases h0 : factOrder f fs[k] = 0 <;> by_cases hle : factOrder f fs[k] ≤ 0 <;> simp [hp, h0, hle, tot_append, tot_cons] at h1 h2 ⊢ <;> simp [tot] at h2 ⊢ <;> omega

theorem factsWith_bound (fs : List LFact) (f : LFact) : (factsWith fs f).length ≤ fs.length + 1 ∧ tot (factsWith fs f) ≤ tot fs + f.2.length := by
  have h := withTo_bound fs f fs.length (Nat.le_refl _)
  rw [List.take_length] at h
  unfold factsWith
  cases hp : (withTo fs f fs.length).2 <;> simp [hp, tot_append, tot_cons] at h ⊢ <;> simp [tot] at h ⊢ <;> omega

end Go.Proofs.Ytofkcmihcgmmpaa
