/-
  The reader that the drawing goes by: bytes that are read, and pick.
-/
import Derived.Test.YtehjhdihaloalaaMark
import Derived.Laws.Bits64
import Derived.Laws.BitsAllLaws
namespace Go.Proofs.Ytehjhdihaloalaa
open Go.RowKit

/-- The slice value v reads as the bytes bs, in blocks below B. -/
def RdBytes (w : World) (B : Nat) (v : Value) (bs : List Nat) : Prop :=
  ∃ A c, v = .slice A bs.length c ∧ bs.length ≤ c ∧ (0 < bs.length → ∃ b o, A = some ⟨b, o, none⟩ ∧ b < B ∧ ∀ k (h : k < bs.length), w.cell? ⟨b, o + k, none⟩ = some (.int .u8 (bs[k] : Nat)))

theorem RdBytes.off {w w' : World} {B : Nat} {v : Value} {bs : List Nat} (h : RdBytes w B v bs) (hb : ∀ k, k < B → w'.heap[k]? = w.heap[k]?) : RdBytes w' B v bs := by
  obtain ⟨A, c, rfl, hc, h⟩ := h
  refine ⟨A, c, rfl, hc, fun hn => ?_⟩
  obtain ⟨b, o, rfl, hlt, hk⟩ := h hn
  refine ⟨b, o, rfl, hlt, fun k hkl => ?_⟩
  rw [← hk k hkl]
  simp [World.cell?, hb b hlt]

/-- Block g is a reader: it stands at p, in bytes below g, all below 256. -/
def Rdr (w : World) (g : Nat) (bs : List Nat) (p : Nat) : Prop :=
  (∃ v, Blk w g 123 #[v, .int .i64 p] ∧ RdBytes w g v bs) ∧ bs.length ≤ 2000 ∧ ∀ b ∈ bs, b < 256

theorem Rdr.lt {w : World} {g : Nat} {bs : List Nat} {p : Nat} (h : Rdr w g bs p) : g < w.heap.size := by
  obtain ⟨⟨v, hb, _⟩, _⟩ := h
  exact hb.lt

theorem Rdr.below {w w' : World} {g : Nat} {bs : List Nat} {p : Nat} (h : Rdr w g bs p) {B : Nat} (hb : Below B w w') (hB : g < B) : Rdr w' g bs p := by
  obtain ⟨⟨v, hv, hr⟩, h1, h2⟩ := h
  exact ⟨⟨v, hv.below hb hB, hr.off fun k hk => hb.block k (by omega)⟩, h1, h2⟩

theorem Rdr.next {w : World} {g : Nat} {bs : List Nat} {p : Nat} (h : Rdr w g bs p) : Rdr (w.setCell ⟨g, 1, none⟩ (.int .i64 ((p : Int) + 1))) g bs (p + 1) := by
  obtain ⟨⟨v, hv, hr⟩, h1, h2⟩ := h
  exact ⟨⟨v, by simpa using hv.set_ 1 (.int .i64 ((p : Int) + 1)), hr.off fun k hk => Below.heap_setCell _ _ _ _ (by show k ≠ g; omega)⟩, h1, h2⟩

/-- What pick leaves. -/
def Picked (w w' : World) (g : Nat) (bs : List Nat) (p : Nat) : Prop := Rdr w' g bs (p + 1) ∧ Only g (g + 1) w w'

theorem picked_set {w : World} {g : Nat} {bs : List Nat} {p : Nat} (h : Rdr w g bs p) : Picked w (w.setCell ⟨g, 1, none⟩ (.int .i64 ((p : Int) + 1))) g bs p :=
  ⟨h.next, (Only.refl g (g + 1) w).setCell (p := ⟨g, 1, none⟩) ⟨Nat.le_refl g, Nat.lt_succ_self g⟩ _⟩
theorem Picked.drewN {w w' : World} {g : Nat} {bs : List Nat} {p : Nat} (h : Picked w w' g bs p) (n : Nat) : Picked w (w'.drewN n) g bs p :=
  ⟨h.1, ⟨h.2.os, h.2.tape, h.2.output, h.2.size, h.2.block⟩⟩

/-- What pick may answer. -/
def PickOf (n x : Int) : Prop := (0 < n → 0 ≤ x ∧ x < n) ∧ (n < 1 → x = 0)
theorem PickOf.of {n x : Int} (h1 : 1 ≤ n) (h : 0 ≤ x ∧ x < n) : PickOf n x := ⟨fun _ => h, fun h2 => by omega⟩
theorem PickOf.zero (n : Int) : PickOf n 0 := ⟨fun h => ⟨Int.le_refl _, h⟩, fun _ => rfl⟩
theorem xor_i64 (X Y : Nat) (hX : X < 4611686018427387904) (hY : Y < 4611686018427387904) : bits .xor .i64 (X : Int) (Y : Int) = ((X ^^^ Y : Nat) : Int) ∧ X ^^^ Y < 4611686018427387904 := by
  have hx : X ^^^ Y < 2 ^ 62 := Nat.xor_lt_two_pow (by omega) (by omega)
  refine ⟨?_, by omega⟩
  have h1 : (BitVec.ofInt 64 (X : Int)).toNat = X := by
    rw [BitVec.ofInt_natCast, BitVec.toNat_ofNat]; exact Nat.mod_eq_of_lt (by omega)
  have h2 : (BitVec.ofInt 64 (Y : Int)).toNat = Y := by
    rw [BitVec.ofInt_natCast, BitVec.toNat_ofNat]; exact Nat.mod_eq_of_lt (by omega)
  show IntKind.i64.wrap ((BitVec.ofInt 64 (X : Int) ^^^ BitVec.ofInt 64 (Y : Int)).toNat : Int) = _
  rw [BitVec.toNat_xor, h1, h2]
  simp [IntKind.wrap, IntKind.bits, IntKind.signed]
  omega
theorem emod_range {n y : Int} (h1 : 1 ≤ n) : 0 ≤ y % n ∧ y % n < n := ⟨Int.emod_nonneg _ (by omega), Int.emod_lt_of_pos _ (by omega)⟩

set_option maxHeartbeats 1000000 in
set_option maxRecDepth 100000 in
theorem pick_any (g : Nat) (bs : List Nat) (p : Nat) (n : Int) (w : World) (h : Rdr w g bs p) (hp : p ≤ 1073741824) (hn : n ≤ 1073741824) :
    Calls Try.prog 123 #[.pointer (some ⟨g, 0, none⟩), .int .i64 n] w fun e w' => (∃ x, e = .returned (.int .i64 x) ∧ PickOf n x) ∧ Picked w w' g bs p := by
  have HP := Lib.hid (picked_set h)
  have hN := h.next
  obtain ⟨⟨v, hv, hr⟩, hlen, hby⟩ := h
  obtain ⟨A, c, rfl, hc, ha⟩ := hr
  have c0 : w.cell? ⟨g, 1, none⟩ = some (.int .i64 p) := hv.cell 1
  have f0 : w.frozen? ⟨g, 1, none⟩ = false := hv.frozen 1
  have hB2 := hv.set_ 1 (.int .i64 ((p : Int) + 1))
  have d0 : (w.setCell ⟨g, 1, none⟩ (.int .i64 ((p : Int) + 1))).cell? ⟨g, 0, none⟩ = some (.slice A bs.length c) := by rw [hB2.cell 0]; rfl
  have d1 : (w.setCell ⟨g, 1, none⟩ (.int .i64 ((p : Int) + 1))).cell? ⟨g, 1, none⟩ = some (.int .i64 ((p : Int) + 1)) := by rw [hB2.cell 1]; simp
  by_cases h1 : n < 1
  · clear ha hv hN hB2
    go_enter Try.func123, Try.ntmps123
    go_wp2_with (fail)
    go_ret
    exact ⟨⟨0, rfl, PickOf.zero n⟩, HP.out⟩
  · by_cases hl0 : bs.length = 0
    · have hz : ((bs.length : Int) == 0) = true := by simp [hl0]
      have hd1 : decide (n < 1) = false := by simpa using h1
      clear ha hv hN hB2
      go_enter Try.func123, Try.ntmps123
      go_wp2_with (fail)
      go_ret
      exact ⟨⟨0, rfl, PickOf.zero n⟩, HP.out⟩
    · have hz : ((bs.length : Int) == 0) = false := by
        have : (bs.length : Int) ≠ 0 := by omega
        simpa using this
      have hd1 : decide (n < 1) = false := by simpa using h1
      obtain ⟨b, o, rfl, hbg, hx⟩ := ha (Nat.pos_of_ne_zero hl0)
      have hcell : ∀ k (h : k < bs.length), (w.setCell ⟨g, 1, none⟩ (.int .i64 ((p : Int) + 1))).cell? ⟨b, o + k, none⟩ = some (.int .u8 (bs[k] : Nat)) := fun k hk => by
        rw [← hx k hk]
        simp only [World.cell?, Below.heap_setCell w ⟨g, 1, none⟩ (.int .i64 ((p : Int) + 1)) b (by exact Nat.ne_of_lt hbg)]
      by_cases hlt : p < bs.length
      · have hck := hcell p hlt
        have hdl : decide ((p : Int) < bs.length) = true := by simp; omega
        have hbb : bs[p] < 256 := hby _ (List.getElem_mem hlt)
        generalize hbp : bs[p] = bp at *
        clear ha hv hN hB2 hx hcell hby
        go_enter Try.func123, Try.ntmps123
        go_wp2_with (fail)
        go_ret
        exact ⟨⟨_, rfl, PickOf.of h1 (emod_range h1)⟩, HP.out⟩
      · have hdl : decide ((p : Int) < bs.length) = false := by simp; omega
        have hL : 0 < bs.length := by omega
        have hm1 : p % bs.length < bs.length := Nat.mod_lt _ hL
        have hm2 : (p * 7 + 3) % bs.length < bs.length := Nat.mod_lt _ hL
        have hck1 := hcell _ hm1
        have hck2 := hcell _ hm2
        have hb1 : bs[p % bs.length] < 256 := hby _ (List.getElem_mem hm1)
        have hb2 : bs[(p * 7 + 3) % bs.length] < 256 := hby _ (List.getElem_mem hm2)
        have hi1 : (p : Int) % (bs.length : Int) = ((p % bs.length : Nat) : Int) := by simp
        have hi2 : ((p : Int) * 7 + 3) % (bs.length : Int) = (((p * 7 + 3) % bs.length : Nat) : Int) := by simp
        have hqd : ((p : Int) / (bs.length : Int)) = ((p / bs.length : Nat) : Int) := by simp
        have hqb : p / bs.length ≤ 1073741824 := Nat.le_trans (Nat.div_le_self _ _) hp
        generalize bs[p % bs.length] = b1 at *
        generalize bs[(p * 7 + 3) % bs.length] = b2 at *
        generalize p % bs.length = m1 at *
        generalize (p * 7 + 3) % bs.length = m2 at *
        generalize p / bs.length = q at *
        obtain ⟨X, hX, hXb⟩ : ∃ X : Nat, (b1 : Int) * 131 + (b2 : Int) * 1117 + (p : Int) * 29 + (q : Int) * 53 = (X : Int) ∧ X < 1125899906842624 := ⟨b1 * 131 + b2 * 1117 + p * 29 + q * 53, by omega, by omega⟩
        obtain ⟨Y, hY, hYb⟩ : ∃ Y : Nat, (X : Int) / 64 = (Y : Int) ∧ Y < 1125899906842624 := ⟨X / 64, by omega, by omega⟩
        obtain ⟨hxr, hxb⟩ := xor_i64 X Y (by omega) (by omega)
        generalize X ^^^ Y = Z at *
        clear ha hv hN hB2 hx hcell hby
        go_enter Try.func123, Try.ntmps123
        go_wp2_with (fail)
        go_quiet (fail)
        go_wp2_with (fail)
        go_ret
        exact ⟨⟨_, rfl, PickOf.of h1 (emod_range h1)⟩, HP.out.drewN _⟩

end Go.Proofs.Ytehjhdihaloalaa
