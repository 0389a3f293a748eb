/-
  The reader's num and its opening; numbers of places drawn.
-/
import Derived.Test.YtehjhdihaloalaaDraw
import Derived.Test.YtehjhdihaloalaaColF
import Derived.Test.YtehjhdihaloalaaSpecCopy
import Derived.Test.YtehjhdihaloalaaMarkFacts
namespace Go.Proofs.Ytehjhdihaloalaa
open Go.RowKit

theorem Picked.size {w w' : World} {g : Nat} {bs : List Nat} {p : Nat} (h : Picked w w' g bs p) : w.heap.size ≤ w'.heap.size := h.2.size
set_option maxHeartbeats 400000 in
theorem num_any (g : Nat) (bs : List Nat) (p b : Nat) (cs : Array Value) (xs : List Int) (n : Nat) (w : World) (h : Rdr w g bs p) (hp : p ≤ 1073741824) (hb : Blk w b 3 cs) (hcs : cs = (xs.map (Value.int .i64)).toArray) (hne : b ≠ g) (hn : n = xs.length) (hx : 0 < xs.length) (hl : xs.length ≤ 1073741824) :
    Calls Try.prog 122 #[.pointer (some ⟨g, 0, none⟩), .slice (some ⟨b, 0, none⟩) n n] w fun e w' => (∃ x, e = .returned (.int .i64 x) ∧ x ∈ xs) ∧ Picked w w' g bs p := by
  subst hcs
  subst hn
  have H := Lib.hid h
  have HB := Lib.hid hb
  clear h hb
  go_enter Try.func122, Try.ntmps122
  go_wp2_with (fail)
  refine (pick_any g bs p _ _ H.out hp (by omega)).mono ?_
  rintro e w' ⟨⟨x, rfl, hx1⟩, hpk⟩
  obtain ⟨k, rfl⟩ : ∃ k : Nat, x = (k : Int) := ⟨x.toNat, by have := hx1.1 (by omega); omega⟩
  have hk : k < xs.length := by have := hx1.1 (by omega); omega
  have hck : w'.cell? ⟨b, k, none⟩ = some (.int .i64 xs[k]) := by
    rw [(HB.out.only hpk.2 (by omega)).cell k]
    simp [hk]
  have HM := Lib.hid (List.getElem_mem hk)
  have HK := Lib.hid hpk
  clear hpk hx1
  go_wp2_with (fail)
  go_ret
  exact ⟨⟨_, rfl, HM.out⟩, HK.out⟩

set_option maxHeartbeats 400000 in
theorem l40Open_any (v : Value) (bs : List Nat) (w : World) (h : RdBytes w w.heap.size v bs) (hby : ∀ b ∈ bs, b < 256) (hn : bs.length ≤ 1073741824) :
    Calls Try.prog 113 #[v] w fun e w' => e = .returned (.pointer (some ⟨w.heap.size, 0, none⟩)) ∧ Rdr w' w.heap.size (bs.take 2000) 0 ∧ Below w.heap.size w w' := by
  obtain ⟨A, c, rfl, hc, ha⟩ := h
  by_cases hl : 2000 < bs.length
  · obtain ⟨b, o, rfl, hbB, hx⟩ := ha (by omega)
    have HR := Lib.hid (show RdBytes w w.heap.size (.slice (some ⟨b, o, none⟩) 2000 c) (bs.take 2000) from
      ⟨some ⟨b, o, none⟩, c, by rw [List.length_take]; congr 1; omega, by rw [List.length_take]; omega, fun _ => ⟨b, o, rfl, hbB, fun k hk => by
        rw [List.length_take] at hk
        rw [hx k (by omega), List.getElem_take]⟩⟩)
    have hd : decide ((2000 : Int) < bs.length) = true := by simp; omega
    clear hx ha
    go_enter Try.func113, Try.ntmps113
    go_wp2_with (fail)
    go_ret
    exact ⟨rfl, ⟨⟨_, Blk.new _ _ _, HR.out.off fun k hk => Below.heap_alloc _ _ _ hk⟩, by rw [List.length_take]; omega, fun x hx => hby x (List.mem_of_mem_take hx)⟩, below1 _ _⟩
  · have HR := Lib.hid (show RdBytes w w.heap.size (.slice A bs.length c) bs from ⟨A, c, rfl, hc, ha⟩)
    have HT := Lib.hid (show bs.take 2000 = bs from List.take_of_length_le (by omega))
    have hd : decide ((2000 : Int) < bs.length) = false := by simp; omega
    clear ha
    go_enter Try.func113, Try.ntmps113
    go_wp2_with (fail)
    go_ret
    exact ⟨rfl, by rw [HT.out]; exact ⟨⟨_, Blk.new _ _ _, HR.out.off fun k hk => Below.heap_alloc _ _ _ hk⟩, by omega, hby⟩, below1 _ _⟩

/-- What l1Arity's loop keeps. -/
structure DrRel (w wr : World) (g : Nat) (bs : List Nat) (p k : Nat) (A : Option Addr) (c : Nat) (xs : List Int) : Prop where
  len : xs.length = k
  range : ∀ x ∈ xs, 0 ≤ x ∧ x ≤ 2
  own : wr.ownsRow w.heap.size 3 1 (.slice A k c) k (xs.map (Value.int .i64))
  rdr : Rdr wr g bs (p + k)
  only : Only g (g + 1) w wr

theorem Rdr.same {w w' : World} {g : Nat} {bs : List Nat} {p : Nat} (h : Rdr w g bs p) (hb : ∀ k, k ≤ g → w'.heap[k]? = w.heap[k]?) : Rdr w' g bs p := by
  obtain ⟨⟨v, hv, hr⟩, h1, h2⟩ := h
  exact ⟨⟨v, (hb g (Nat.le_refl g)).trans hv, hr.off fun k hk => hb k (Nat.le_of_lt hk)⟩, h1, h2⟩

/-- The row after a draw. -/
theorem DrRel.row {w wr w' : World} {g : Nat} {bs : List Nat} {p q k : Nat} {A : Option Addr} {c : Nat} {xs : List Int} {o o2 : Obj} (h : DrRel w wr g bs p k A c xs) (hg : g < w.heap.size) (hk : Picked (wr.alloc o) w' g bs q) :
    (w'.alloc o2).ownsRow w.heap.size 3 1 (.slice A k c) k (xs.map (Value.int .i64)) :=
  ((ownsRow_only (h.own.alloc o) fun b hb => hk.2.block b (by have := (h.own.lt b hb).2; simp; omega) (by have := (h.own.lt b hb).1; omega))).alloc o2

theorem DrRel.push {w wr w' w4 : World} {g : Nat} {bs : List Nat} {p k : Nat} {A : Option Addr} {c : Nat} {xs : List Int} {o o2 : Obj} (h : DrRel w wr g bs p k A c xs) (hg : g < w.heap.size) (hk : Picked (wr.alloc o) w' g bs (p + k)) {x : Int} (hx : 0 ≤ x ∧ x ≤ 2)
    (hgr : (w'.alloc o2).grownBy w4 (Value.slice A k c).ownBlock) {g2 cap : Nat} (hown : w4.ownsRow w.heap.size 3 1 (.slice (some ⟨g2, 0, none⟩) (k + 1) cap) (k + 1) (xs.map (Value.int .i64) ++ [.int .i64 x])) :
    DrRel w w4 g bs p (k + 1) (some ⟨g2, 0, none⟩) cap (xs ++ [x]) := by
  have hlow : ∀ b, b < w.heap.size → w4.heap[b]? = w'.heap[b]? := fun b hb => by
    have h1 := h.only.size
    have h2 := hk.2.size
    simp at h2
    rw [hgr.block b (by simp; omega) (fun e => by have := (h.own.lt b e.symm).1; omega)]
    exact Below.heap_alloc _ _ _ (by omega)
  refine ⟨by simp [h.len], fun y hy => ?_, by simpa using hown, hk.1.same fun b hb => hlow b (by omega), ?_⟩
  · rcases List.mem_append.1 hy with hy | hy
    · exact h.range y hy
    · simp at hy
      subst hy
      exact hx
  · have ho := (h.only.trans (Only.of_below (below1 wr o))).trans hk.2
    exact ⟨hgr.os.trans ho.os, hgr.tape.trans ho.tape, hgr.output.trans ho.output, Nat.le_trans ho.size (Nat.le_trans (by simp) hgr.size), fun b hb hn => (hlow b hb).trans (ho.block b hb hn)⟩

set_option maxHeartbeats 1000000 in
set_option maxRecDepth 100000 in
theorem l1Arity_any (g : Nat) (bs : List Nat) (p m : Nat) (w : World) (h : Rdr w g bs p) (hp : p ≤ 1048576) (hm : m ≤ 1048576) :
    Calls Try.prog 114 #[.pointer (some ⟨g, 0, none⟩), .int .i64 m] w fun e w' => ∃ (A : Option Addr) (c : Nat) (xs : List Int), e = .returned (.slice A m c) ∧ DrRel w w' g bs p m A c xs := by
  obtain ⟨i0, hi0, hz0, hz1, hz2⟩ := info_parts Try.infoInt
  have H := Lib.hid h
  have hgl := h.lt
  clear h
  go_enter Try.func114, Try.ntmps114
  go_wp2_with (fail)
  go_loopw [5, 6] (fun o i wr => ∃ (k : Nat) (A : Option Addr) (c : Nat) (xs : List Int), k ≤ m ∧ i = .int .i64 k ∧ o = .slice A k c ∧ DrRel w wr g bs p k A c xs) (fun _ i _ => m - (intOf i).toNat)
  case atStart => exact ⟨0, _, 0, [], Nat.zero_le _, rfl, rfl, rfl, by simp, World.ownsRow_made w #[] 0 (Nat.le_refl _) (by decide) rfl, H.out.below (below1 _ _) hgl, Only.of_below (below1 _ _)⟩
  case round =>
    obtain ⟨k, A, c, xs, hk, rfl, rfl, hr⟩ := hrel
    by_cases hlt : k < m
    · have HP := Lib.hid hr
      have hws := hr.only.size
      clear hr
      go_wp2_with (fail)
      refine (num_any g bs (p + k) _ _ [2, 1, 2, 0] 4 _ (HP.out.rdr.below (below1 _ _) (by omega)) (by omega) (Blk.new _ _ _) rfl (by omega) rfl (by simp) (by simp)).mono ?_
      rintro e w' ⟨⟨x, rfl, hx⟩, hpk⟩
      have hx2 : 0 ≤ x ∧ x ≤ 2 := by
        simp at hx
        omega
      have hsz := hpk.2.size
      have HK := Lib.hid hpk
      simp only [World.size_alloc] at hsz
      clear hpk hx
      go_wp2_with (at_builtin; refine wpList_append_lies _ rfl (.tmp 13) (.tmp 17) 22 rfl w.heap.size 3 i0 (.int .i64 0) 1 8 Try.underlying22 hi0 hz0 hz1 hz2 rfl (by decide) (.slice A k c) k (xs.map (Value.int .i64)) rfl ?c1 ⟨w'.heap.size, 0, none⟩ 1 1 [.int .i64 x] rfl rfl (cell_one_new _ _ _) ?c2 (by omega) (by unfold maxLen; omega) (by omega) ?c3 _ rfl ?_)
      case c1 => exact HP.out.row hgl HK.out
      case c2 => intro u hu; simp at hu; subst hu; rfl
      case c3 => simp; omega
      intro g2 cap w4 hown hgr _ _
      have HC := Lib.hid (HP.out.push hgl HK.out hx2 hgr hown)
      clear hown hgr
      go_wp2_with (fail)
      go_roundw
      case rel => exact ⟨k + 1, _, _, _, by omega, by go_num, rfl, HC.out⟩
      case measure => simp [intOf]; omega
    · have hkn : k = m := by omega
      subst hkn
      have HP := Lib.hid hr
      clear hr
      go_wp2_with (fail)
      go_ret
      exact ⟨_, _, _, rfl, HP.out⟩

end Go.Proofs.Ytehjhdihaloalaa
