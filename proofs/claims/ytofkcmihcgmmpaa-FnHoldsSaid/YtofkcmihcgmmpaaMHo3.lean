/-
  Texts that the claim's last one imports, laid together: part 3 of 8. No condition of its own.
-/
import Derived.Test.YtofkcmihcgmmpaaChecked
import Derived.ProofKit
import Derived.OpenShut
import Derived.ChangeOld
import Derived.WalkKit
import Derived.Deep.Slices
import Derived.Deep.Fields
import Derived.ChangeSame
import Derived.Lib.SmallJoins
import Derived.KernelRfl
import Derived.Deep.Quiet
import Derived.BigQuiet
import Derived.Laws.BitsAllLaws
import Derived.Maps.AppendAt
import Derived.Deep.AppendLies
import Derived.Deep.DeepCutAuto
import Derived.Deep.RegionHeld3
import Derived.Test.YtofkcmihcgmmpaaMHo1
import Derived.Test.YtofkcmihcgmmpaaMHo2
/-
  What comes in, opened: integers, atoms, literals, rules, programs.
-/
namespace Go.Proofs.Ytofkcmihcgmmpaa
open Go.ChangeShapes Go.WideShapes Go.ChangeAt Go.RowKit Go.Joins Go.Deep

/-- A program: its predicates' places, its rules. -/
abbrev LProg := List Int × List LRule
def RdProg (w : World) (B : Nat) (v : Value) (p : LProg) : Prop := ∃ a b, v = .agg #[a, b] ∧ RdInts w B a p.1 ∧ RdRules w B b p.2
theorem RdProg.on {w w' : World} {v : Value} {p : LProg} (h : RdProg w w.heap.size v p) (hb : Below w.heap.size w w') : RdProg w' w'.heap.size v p := by
  obtain ⟨a, b, rfl, h1, h2⟩ := h
  exact ⟨a, b, rfl, h1.on hb, h2.on hb⟩

section
variable {H : Type} {enc : TypeId × Value → H} {W : World}

def InProg (W : World) (v : Value) (p : LProg) : Prop := RdProg W W.heap.size v p ∧ p.1.length ≤ maxLen ∧ p.2.length ≤ maxLen ∧ ∀ k (h : k < p.2.length), ruleFitsIn p.2[k]

end

end Go.Proofs.Ytofkcmihcgmmpaa
/-
  The walks over lists of rules and programs: szRuleS, toRuleS, eqRuleS, szProgram, toProgram, eqProgram.
-/
namespace Go.Proofs.Ytofkcmihcgmmpaa
open Go.RowKit

theorem Try.infoRule : (Try.prog.info? 49).map (fun i => (i.zero, i.size, i.bytes)) = some (some (.agg #[.int .i64 0, .slice none 0 0, .slice none 0 0]), 3, 56) := by kernel_rfl

/-- What szProgram counts. -/
def szP (p : LProg) : Nat := p.1.length + (p.2.length + totR p.2)
def progLens (p : LProg) : Prop := p.1.length ≤ 9223372036854775807 ∧ p.2.length ≤ 9223372036854775807 ∧ ∀ k (h : k < p.2.length), ruleLens p.2[k]

theorem OwnRules.below {w w' : World} {lo hi B : Nat} {v : Value} {rs : List LRule} (h : OwnRules w lo hi v rs) (hb : Below B w w') (hB : hi ≤ B) : OwnRules w' lo hi v rs := h.keep fun g _ h2 => hb.block g (by omega)
theorem OwnRules.far {w : World} {lo hi : Nat} {v : Value} {rs : List LRule} (h : OwnRules w lo hi v rs) {p : Addr} (hp : p.block < lo) (u : Value) : OwnRules (w.setCell p u) lo hi v rs :=
  h.keep fun g h1 _ => Below.heap_setCell _ _ _ _ (by omega)

end Go.Proofs.Ytofkcmihcgmmpaa
/-
  The walks of litFits and of both LitOk.
-/
namespace Go.Proofs.Ytofkcmihcgmmpaa
open Go.RowKit

def litFits (ar : List Int) (l : LLit) : Bool :=
  if l.1 = 0 ∨ l.1 = 1 then atomFits ar l.2 else if l.1 = 2 ∨ l.1 = 3 then (decide (l.2.1 = 0) && decide (l.2.2.length = 2) && l.2.2.all termOk) else false
def litOk (ar : List Int) (l : LLit) : Bool := arityOk ar && litFits ar l

/-- An atom that compares two terms. -/
def comparesB (f : LFact) : Bool := decide (f.1 = 0) && decide (f.2.length = 2) && f.2.all termOk

end Go.Proofs.Ytofkcmihcgmmpaa
/-
  Regions that draw their order and whose callees return plain values and keep all that was there: one walk of the text's order serves every order. The class of worlds: those that keep what was there.
-/
namespace Go.Proofs.Ytofkcmihcgmmpaa
open Go.RowKit

/-- A world that keeps all that was there in w0. -/
def Later (w0 : World) : Type := { W : World // Below w0.heap.size w0 W }

instance (w0 : World) : Nonempty (Later w0) := ⟨⟨w0, Below.refl _ _⟩⟩

theorem wp_region_later {P : Program} {id : Nat} {Q : Exit → Act → World → Prop} {a : Act} {w0 : World} {l : List Oper} (hm : P.follows .mixedOrders = true) (hB : Region.lexB .any l.toArray = true)
    (h : wpQuiet P l.toArray (fun w' => ∃ x : Later w0, w' = x.val) (fun a' => ∀ w', (∃ x : Later w0, w' = x.val) → Q .normal a' w') l a) : (Code.region id l.toArray true).wp P Q a w0 :=
  wp_region_quiet (C := fun w' => ∃ x : Later w0, w' = x.val) hm hB ⟨⟨_, (Below.refl _ _).drew⟩, rfl⟩ (by simpa using h)

theorem later_cell {w0 : World} {a : Addr} {v : Value} (h : w0.cell? a = some v) (x : Later w0) : x.val.cell? a = some v := (x.2.cell (World.block_lt_of_cell? _ _ h)).trans h
/-- A callee's contract, met in a later world. -/
theorem later_of {P : Program} {f : FuncId} {args : Array Value} {w0 : World} {x : Later w0} {v : Value} (h : Calls P f args x.val fun e w' => e = .returned v ∧ Below x.val.heap.size x.val w') :
    Calls P f args x.val fun e w'' => e = .returned v ∧ ∃ y : Later w0, w'' = y.val :=
  h.mono fun _ w' ⟨he, hb⟩ => ⟨he, ⟨w', bthen x.2 hb⟩, rfl⟩
theorem later_same {P : Program} {f : FuncId} {args : Array Value} {w0 : World} {x : Later w0} {v : Value} (h : Calls P f args x.val fun e w' => e = .returned v ∧ x.val = w') :
    Calls P f args x.val fun e w'' => e = .returned v ∧ ∃ y : Later w0, w'' = y.val :=
  h.mono fun _ _ ⟨he, hb⟩ => ⟨he, x, hb.symm⟩

end Go.Proofs.Ytofkcmihcgmmpaa
/-
  Sets of variables: as words of four bits (the program's), as rows of four bools (the specification's). The words, and the walks of argVars, bodyVars, ruleVars.
-/
namespace Go.Proofs.Ytofkcmihcgmmpaa
open Go.RowKit

/-- One more term's variable. -/
def orV (m : Nat) (t : Int) : Nat := if isVarB t then m ||| 2 ^ (-1 - t).toNat else m
def maskFrom (m : Nat) (xs : List Int) : Nat := xs.foldl orV m
def maskOf (xs : List Int) : Nat := maskFrom 0 xs
def bodyMask (ls : List LLit) : Nat := ls.foldl (fun m l => m ||| maskOf l.2.2) 0
def yesMask (ls : List LLit) : Nat := ls.foldl (fun m l => if l.1 = 0 then m ||| maskOf l.2.2 else m) 0
def ruleMask (r : LRule) : Nat := maskOf r.1.2 ||| bodyMask r.2

theorem orV_or (a b : Nat) (t : Int) : orV (a ||| b) t = a ||| orV b t := by
  unfold orV
  split
  · rw [Nat.or_assoc]
  · rfl
theorem maskFrom_or (a b : Nat) : ∀ xs : List Int, maskFrom (a ||| b) xs = a ||| maskFrom b xs
  | [] => rfl
  | t :: xs => by
    show maskFrom (orV (a ||| b) t) xs = a ||| maskFrom (orV b t) xs
    rw [orV_or, maskFrom_or a (orV b t) xs]
theorem maskFrom_eq (a : Nat) (xs : List Int) : maskFrom a xs = a ||| maskOf xs := by
  have := maskFrom_or a 0 xs
  rwa [Nat.or_zero] at this
theorem or_lt16 {a b : Nat} (ha : a < 16) (hb : b < 16) : a ||| b < 16 := Nat.or_lt_two_pow (n := 4) ha hb
theorem pow_var_lt {t : Int} (h : isVarB t = true) : 2 ^ (-1 - t).toNat < 16 := by
  have h4 : (-1 - t).toNat < 4 := by simp [isVarB] at h; omega
  exact Nat.pow_lt_pow_right (by omega) h4
theorem orV_lt {m : Nat} {t : Int} (hm : m < 16) : orV m t < 16 := by
  unfold orV
  split
  · rename_i h
    exact or_lt16 hm (pow_var_lt h)
  · exact hm
theorem maskFrom_lt : ∀ (xs : List Int) {m : Nat}, m < 16 → maskFrom m xs < 16
  | [], _, h => h
  | _ :: xs, _, h => maskFrom_lt xs (orV_lt h)
theorem maskOf_lt (xs : List Int) : maskOf xs < 16 := maskFrom_lt xs (by omega)
theorem maskOf_take {xs : List Int} {k : Nat} (h : k < xs.length) : maskOf (xs.take (k + 1)) = orV (maskOf (xs.take k)) xs[k] := by
  unfold maskOf maskFrom
  rw [take_snoc xs k h, List.foldl_append]
  rfl
theorem bodyMask_take {ls : List LLit} {k : Nat} (h : k < ls.length) : bodyMask (ls.take (k + 1)) = bodyMask (ls.take k) ||| maskOf ls[k].2.2 := by
  unfold bodyMask
  rw [take_snoc ls k h, List.foldl_append]
  rfl
theorem yesMask_take {ls : List LLit} {k : Nat} (h : k < ls.length) : yesMask (ls.take (k + 1)) = if ls[k].1 = 0 then yesMask (ls.take k) ||| maskOf ls[k].2.2 else yesMask (ls.take k) := by
  unfold yesMask
  rw [take_snoc ls k h, List.foldl_append]
  rfl
theorem bodyMask_lt : ∀ (n : Nat) (ls : List LLit), n ≤ ls.length → bodyMask (ls.take n) < 16
  | 0, _, _ => by simp [bodyMask]
  | n + 1, ls, h => by
    rw [bodyMask_take (by omega)]
    exact or_lt16 (bodyMask_lt n ls (by omega)) (maskOf_lt _)
theorem yesMask_lt : ∀ (n : Nat) (ls : List LLit), n ≤ ls.length → yesMask (ls.take n) < 16
  | 0, _, _ => by simp [yesMask]
  | n + 1, ls, h => by
    rw [yesMask_take (by omega)]
    split
    · exact or_lt16 (yesMask_lt n ls (by omega)) (maskOf_lt _)
    · exact yesMask_lt n ls (by omega)
theorem bodyMask_lt' (ls : List LLit) : bodyMask ls < 16 := by
  have := bodyMask_lt ls.length ls (Nat.le_refl _)
  rwa [List.take_length] at this
theorem yesMask_lt' (ls : List LLit) : yesMask ls < 16 := by
  have := yesMask_lt ls.length ls (Nat.le_refl _)
  rwa [List.take_length] at this
theorem ruleMask_lt (r : LRule) : ruleMask r < 16 := or_lt16 (maskOf_lt _) (bodyMask_lt' _)

theorem or_word {a b : Nat} (ha : a < 16) (hb : b < 16) : bits .or .u64 (a : Int) (b : Int) = ((a ||| b : Nat) : Int) := u64_or_nat a b (by omega) (by omega)
/-- The walk's word for one more variable. -/
theorem orV_word {m : Nat} {t : Int} (hm : m < 16) (h : isVarB t = true) : bits .or .u64 (m : Int) (IntKind.u64.wrap (1 * 2 ^ (-1 - t).toNat)) = ((orV m t : Nat) : Int) := by
  have h4 : (-1 - t).toNat < 4 := by simp [isVarB] at h; omega
  have hw : IntKind.u64.wrap (1 * 2 ^ (-1 - t).toNat) = ((2 ^ (-1 - t).toNat : Nat) : Int) := by
    generalize (-1 - t).toNat = n at h4
    match n, h4 with
    | 0, _ => rfl
    | 1, _ => rfl
    | 2, _ => rfl
    | 3, _ => rfl
  rw [hw, or_word hm (pow_var_lt h)]
  simp [orV, h]

theorem later_int {P : Program} {f : FuncId} {args : Array Value} {w0 : World} {x : Later w0} {u v : Value} (h : Calls P f args x.val fun e w' => e = .returned u ∧ Below x.val.heap.size x.val w') (e : u = v) :
    Calls P f args x.val fun e w'' => e = .returned v ∧ ∃ y : Later w0, w'' = y.val := later_of (e ▸ h)

end Go.Proofs.Ytofkcmihcgmmpaa
/-
  The walks of yesVars and of the program's RuleSafe.
-/
namespace Go.Proofs.Ytofkcmihcgmmpaa
open Go.RowKit

/-- What RuleSafe answers. -/
def ruleSafe (r : LRule) : Bool := bits .andNot .u64 ((ruleMask r : Nat) : Int) ((yesMask r.2 : Nat) : Int) == 0

end Go.Proofs.Ytofkcmihcgmmpaa
/-
  The specification's sets of variables: rows of four bools. The walks of l2Mark, l2Marks.
-/
namespace Go.Proofs.Ytofkcmihcgmmpaa
open Go.RowKit

/-- Block g is the row of the bits of m. -/
def MkRow (w : World) (g m : Nat) : Prop := Blk w g 4 #[.bool (m.testBit 0), .bool (m.testBit 1), .bool (m.testBit 2), .bool (m.testBit 3)]
theorem MkRow.cell {w : World} {g m : Nat} (h : MkRow w g m) {i : Nat} (hi : i < 4) : w.cell? ⟨g, i, none⟩ = some (.bool (m.testBit i)) := by
  rw [Blk.cell h i]
  match i, hi with
  | 0, _ => rfl
  | 1, _ => rfl
  | 2, _ => rfl
  | 3, _ => rfl
theorem MkRow.frozen {w : World} {g m : Nat} (h : MkRow w g m) (i : Nat) : w.frozen? ⟨g, i, none⟩ = false := Blk.frozen h i
theorem MkRow.lt {w : World} {g m : Nat} (h : MkRow w g m) : g < w.heap.size := Blk.lt h
theorem MkRow.below {B : Nat} {w w' : World} {g m : Nat} (h : MkRow w g m) (hb : Below B w w') (hg : g < B) : MkRow w' g m := Blk.below h hb hg
theorem MkRow.set {w : World} {g m : Nat} (h : MkRow w g m) {j : Nat} (hj : j < 4) : MkRow (w.setCell ⟨g, j, none⟩ (.bool true)) g (m ||| 2 ^ j) := by
  have h2 := Blk.set_ h j (.bool true)
  unfold MkRow
  match j, hj with
  | 0, _ => simpa [Nat.testBit_or, show Nat.testBit 1 1 = false from rfl, show Nat.testBit 1 2 = false from rfl, show Nat.testBit 1 3 = false from rfl] using h2
  | 1, _ => simpa [Nat.testBit_or, show Nat.testBit 2 1 = true from rfl, show Nat.testBit 2 2 = false from rfl, show Nat.testBit 2 3 = false from rfl] using h2
  | 2, _ => simpa [Nat.testBit_or, show Nat.testBit 4 1 = false from rfl, show Nat.testBit 4 2 = true from rfl, show Nat.testBit 4 3 = false from rfl] using h2
  | 3, _ => simpa [Nat.testBit_or, show Nat.testBit 8 1 = false from rfl, show Nat.testBit 8 2 = false from rfl, show Nat.testBit 8 3 = true from rfl] using h2
theorem maskFrom_take {xs : List Int} {m k : Nat} (h : k < xs.length) : maskFrom m (xs.take (k + 1)) = orV (maskFrom m (xs.take k)) xs[k] := by
  unfold maskFrom
  rw [take_snoc xs k h, List.foldl_append]
  rfl
theorem MkRow.var {w : World} {g m : Nat} (h : MkRow w g m) {t : Int} {j : Nat} (hj : j < 4) (ht : t = -1 - (j : Int)) : MkRow (w.setCell ⟨g, j, none⟩ (.bool true)) g (orV m t) := by
  have hv : isVarB t = true := by simp [isVarB]; omega
  have hn : (-1 - t).toNat = j := by omega
  unfold orV
  rw [if_pos hv, hn]
  exact h.set hj

set_option maxHeartbeats 400000 in
theorem l2Mark_any (g m : Nat) (v : Value) (xs : List Int) (w : World) (hm : MkRow w g m) (h : RdInts w g v xs) (hr : xs.length ≤ 1048576) :
    Calls Try.prog 61 #[.slice (some ⟨g, 0, none⟩) 4 4, v] w fun e w' => e = .returned (.tuple #[]) ∧ MkRow w' g (maskFrom m xs) ∧ Only g (g + 1) w w' := by
  have H := Lib.hid h
  have HM := Lib.hid hm
  clear hm
  obtain ⟨A, c, rfl, hc, _⟩ := h
  go_enter Try.func61, Try.ntmps61
  go_wp2_with (fail)
  go_loopw [4] (fun i wr => ∃ k : Nat, k ≤ xs.length ∧ i = .int .i64 k ∧ MkRow wr g (maskFrom m (xs.take k)) ∧ Only g (g + 1) w wr) (fun i _ => xs.length - (intOf i).toNat)
  case atStart => exact ⟨0, Nat.zero_le _, rfl, HM.out, Only.refl _ _ _⟩
  case round =>
    obtain ⟨k, hk, rfl, hx, hon⟩ := hrel
    have hg := HM.out.lt
    by_cases hlt : k < xs.length
    · obtain ⟨A', c', e, _, hr2⟩ := H.out.below (hon.below (Nat.le_refl g) (by omega)) (Nat.le_refl g)
      injection e with e1 _ e3
      subst e1
      subst e3
      obtain ⟨b, o, rfl, hbB, hr2⟩ := hr2 (by omega)
      have hck : wr.cell? ⟨b, o + k, none⟩ = some (.int .i64 xs[k]) := hr2 k hlt
      have htk := maskFrom_take (m := m) hlt
      clear hr2
      by_cases he : -4 ≤ xs[k] ∧ xs[k] ≤ -1
      · have hv : xs[k] = -1 - ((0 : Nat) : Int) ∨ xs[k] = -1 - ((1 : Nat) : Int) ∨ xs[k] = -1 - ((2 : Nat) : Int) ∨ xs[k] = -1 - ((3 : Nat) : Int) := by omega
        have c0 := hx.cell (i := 0) (by omega)
        have c1 := hx.cell (i := 1) (by omega)
        have c2 := hx.cell (i := 2) (by omega)
        have c3 := hx.cell (i := 3) (by omega)
        have f0 := hx.frozen 0
        have f1 := hx.frozen 1
        have f2 := hx.frozen 2
        have f3 := hx.frozen 3
        have HK := Lib.hid (l1In_yes he)
        have HX := Lib.hid (And.intro hx (And.intro hon htk))
        clear he hx hon htk
        rcases hv with hv | hv | hv | hv
        all_goals
          have HV := Lib.hid hv
          rw [hv] at hck
          simp at hck
          clear hv
        · go_wp2_with (go_at_call 43; refine (l1In_yes (by omega) _).mono ?_; rintro e w' ⟨rfl, rfl⟩)
          go_roundw
          case rel => exact ⟨k + 1, by omega, by go_num, by rw [HX.out.2.2]; exact HX.out.1.var (by omega) HV.out, HX.out.2.1.setCell (by simp) _⟩
          case measure => simp [intOf]; omega
        · go_wp2_with (go_at_call 43; refine (l1In_yes (by omega) _).mono ?_; rintro e w' ⟨rfl, rfl⟩)
          go_roundw
          case rel => exact ⟨k + 1, by omega, by go_num, by rw [HX.out.2.2]; exact HX.out.1.var (by omega) HV.out, HX.out.2.1.setCell (by simp) _⟩
          case measure => simp [intOf]; omega
        · go_wp2_with (go_at_call 43; refine (l1In_yes (by omega) _).mono ?_; rintro e w' ⟨rfl, rfl⟩)
          go_roundw
          case rel => exact ⟨k + 1, by omega, by go_num, by rw [HX.out.2.2]; exact HX.out.1.var (by omega) HV.out, HX.out.2.1.setCell (by simp) _⟩
          case measure => simp [intOf]; omega
        · go_wp2_with (go_at_call 43; refine (l1In_yes (by omega) _).mono ?_; rintro e w' ⟨rfl, rfl⟩)
          go_roundw
          case rel => exact ⟨k + 1, by omega, by go_num, by rw [HX.out.2.2]; exact HX.out.1.var (by omega) HV.out, HX.out.2.1.setCell (by simp) _⟩
          case measure => simp [intOf]; omega
      · have HK := Lib.hid (l1In_no he)
        have HX := Lib.hid (show MkRow wr g (maskFrom m (xs.take (k + 1))) by rw [htk]; unfold orV; rw [if_neg (by simp [isVarB]; omega)]; exact hx)
        clear he hx htk
        go_wp2_with (go_at_call 43; refine (HK.out _).mono ?_; rintro e w' ⟨rfl, rfl⟩)
        go_roundw
        case rel => exact ⟨k + 1, by omega, by go_num, HX.out, hon⟩
        case measure => simp [intOf]; omega
    · have HX := Lib.hid (show MkRow wr g (maskFrom m xs) by rw [show k = xs.length by omega, List.take_length] at hx; exact hx)
      clear hx
      go_wp2_with (fail)
      go_end0
      exact ⟨rfl, HX.out, hon⟩

theorem MkRow.only {lo hi : Nat} {w w' : World} {g m : Nat} (h : MkRow w g m) (ho : Only lo hi w w') (hg : g < lo ∨ hi ≤ g) : MkRow w' g m := (ho.block g h.lt hg).trans h
theorem made4 : madeCells #[Value.bool false] 4 = #[.bool false, .bool false, .bool false, .bool false] := by
  apply Array.ext
  · simp [madeCells]
  · intro i h1 h2
    simp [madeCells]
    match i, h2 with
    | 0, _ => rfl
    | 1, _ => rfl
    | 2, _ => rfl
    | 3, _ => rfl
theorem MkRow.made (w : World) : MkRow (w.alloc (.cells (madeCells #[.bool false] 4) 4)) w.heap.size 0 := by
  rw [made4]
  exact Blk.new w _ _
theorem Try.infoBool : (Try.prog.info? 4).map (fun i => (i.zero, i.size, i.bytes)) = some (some (.bool false), 1, 1) := by kernel_rfl

theorem make4 (W : World) : (Instr.makeSlice 85 (.int .i64 4) (.int .i64 4)).run Try.prog W = .ok (.slice (some ⟨W.heap.size, 0, none⟩) 4 4) (W.alloc (.cells (madeCells #[.bool false] 4) 4)) := by
  obtain ⟨i0, hi0, hz0, hz1, hz2⟩ := info_parts Try.infoBool
  have hmk := run_make_rowN (P := Try.prog) 85 4 i0 (.bool false) Try.underlying85 hi0 hz0 .i64 .i64 4 4 (Nat.le_refl _) (by rw [hz2]; omega) (by omega) W
  rw [hz1] at hmk
  simp only [Value.cells, Nat.mul_one] at hmk
  exact hmk

set_option maxHeartbeats 1000000 in
set_option maxRecDepth 100000 in
theorem l2Marks_any (v : Value) (r : LRule) (w : World) (h : RdRule w w.heap.size v r) (hr : szR r ≤ 1048576) :
    Calls Try.prog 62 #[v] w fun e w' => ∃ g, e = .returned (.slice (some ⟨g, 0, none⟩) 4 4) ∧ MkRow w' g (ruleMask r) ∧ w.heap.size ≤ g ∧ Below w.heap.size w w' := by
  have hmk := make4
  obtain ⟨a, b, rfl, h, h2⟩ := h
  unfold szR at hr
  have H := Lib.hid h
  have H2 := Lib.hid h2
  obtain ⟨A, c, rfl, hc, _⟩ := h
  obtain ⟨A2, c2, rfl, hcc, _⟩ := h2
  go_enter Try.func62, Try.ntmps62
  go_wp2_with (fail)
  obtain ⟨w1, hw1⟩ : ∃ w1, w1 = w.alloc (Obj.cells #[Value.int IntKind.i64 r.1.1, Value.slice A r.1.2.length c, Value.slice A2 r.2.length c2] 49) := ⟨_, rfl⟩
  have B1 : Below w.heap.size w w1 := by rw [hw1]; exact below1 _ _
  have s1 : w1.heap.size = w.heap.size + 1 := by rw [hw1]; simp
  have x1 : Blk w1 w.heap.size 49 #[.int .i64 r.1.1, .slice A r.1.2.length c, .slice A2 r.2.length c2] := by rw [hw1]; exact Blk.new w _ _
  obtain ⟨w2, hw2⟩ : ∃ w2, w2 = w1.alloc (Obj.cells (madeCells #[Value.bool false] 4) 4) := ⟨_, rfl⟩
  have m2 : MkRow w2 (w.heap.size + 1) 0 := by rw [hw2, ← s1]; exact MkRow.made _
  have b2 : Below w1.heap.size w1 w2 := by rw [hw2]; exact below1 _ _
  have x2 := x1.below b2 x1.lt
  have B2 := bthen B1 b2
  rw [← hw1, ← hw2]
  clear hw1 hw2
  refine (l2Mark_any (w.heap.size + 1) 0 _ r.1.2 _ m2 ((H.out.below B2 (Nat.le_refl _)).more (by omega)) (by omega)).mono ?_
  rintro e w3 ⟨rfl, m3, on3⟩
  have x3 := x2.only on3 (.inl (by omega))
  have B3 : Below w.heap.size w w3 := Only.then_ B2 on3 (by omega)
  have q3 : w3.cell? ⟨w.heap.size, 2, none⟩ = some (.slice A2 r.2.length c2) := x3.cell 2
  rw [maskFrom_eq, Nat.zero_or] at m3
  clear x1 x2 m2
  go_wp2_with (fail)
  go_loopw [4] (fun i wr => ∃ k : Nat, k ≤ r.2.length ∧ i = .int .i64 k ∧ MkRow wr (w.heap.size + 1) (maskOf r.1.2 ||| bodyMask (r.2.take k)) ∧ Only (w.heap.size + 1) (w.heap.size + 2) w3 wr) (fun i _ => r.2.length - (intOf i).toNat)
  case atStart => exact ⟨0, Nat.zero_le _, rfl, by simpa [bodyMask] using m3, Only.refl _ _ _⟩
  case round =>
    obtain ⟨k, hk, rfl, hm, hon⟩ := hrel
    have BW : Below w.heap.size w wr := Only.then_ B3 hon (by omega)
    have xr := x3.only hon (.inl (by omega))
    have q2 : wr.cell? ⟨w.heap.size, 2, none⟩ = some (.slice A2 r.2.length c2) := xr.cell 2
    clear q3
    by_cases hlt : k < r.2.length
    · obtain ⟨b, o, u0, u1, u2, rfl, hbB, k0, k1, k2, rfl, rfl, p3⟩ := (H2.out.below BW (Nat.le_refl _)).get hlt
      have HA := Lib.hid p3
      obtain ⟨A3, c3, rfl, hc3, _⟩ := p3
      have hle := len_le_totL r.2 k hlt
      go_wp2_with (fail)
      refine (l2Mark_any (w.heap.size + 1) _ _ r.2[k].2.2 _ hm (HA.out.more (by omega)) (by omega)).mono ?_
      rintro e w4 ⟨rfl, m4, on4⟩
      rw [maskFrom_eq, Nat.or_assoc, ← bodyMask_take hlt] at m4
      go_wp2_with (fail)
      go_roundw
      case rel => exact ⟨k + 1, by omega, by go_num, m4, hon.trans on4⟩
      case measure => simp [intOf]; omega
    · have HX := Lib.hid (show MkRow wr (w.heap.size + 1) (ruleMask r) by rw [show k = r.2.length by omega, List.take_length] at hm; exact hm)
      clear hm
      go_wp2_with (fail)
      go_ret
      exact ⟨_, rfl, HX.out, by omega, BW⟩

end Go.Proofs.Ytofkcmihcgmmpaa
/-
  The walk of the specification's RuleSafe.
-/
namespace Go.Proofs.Ytofkcmihcgmmpaa
open Go.RowKit

def safeTo (a b k : Nat) : Bool := (List.range k).all fun i => !(a.testBit i && !b.testBit i)
theorem safe_bits : ∀ a b : Fin 16, (bits .andNot .u64 ((a.val : Nat) : Int) ((b.val : Nat) : Int) == 0) = safeTo a.val b.val 4 := by decide +kernel
theorem ruleSafe_eq (r : LRule) : ruleSafe r = safeTo (ruleMask r) (yesMask r.2) 4 := safe_bits ⟨ruleMask r, ruleMask_lt r⟩ ⟨yesMask r.2, yesMask_lt' r.2⟩
theorem safeTo_step {a b k : Nat} (h : safeTo a b k = true) (e : (a.testBit k && !b.testBit k) = false) : safeTo a b (k + 1) = true := by
  unfold safeTo at h ⊢
  rw [List.range_succ, List.all_append, h, Bool.true_and]
  simp only [List.all_cons, List.all_nil, e]
  rfl
theorem safeTo_not {a b k : Nat} (hk : k < 4) (e : (a.testBit k && !b.testBit k) = true) : safeTo a b 4 = false := by
  unfold safeTo
  rw [List.all_eq_false]
  exact ⟨k, List.mem_range.2 hk, by simp [e]⟩

set_option maxHeartbeats 1000000 in
set_option maxRecDepth 100000 in
theorem specRuleSafe_any (v : Value) (r : LRule) (w : World) (h : RdRule w w.heap.size v r) (hr : szR r ≤ 1048576) :
    Calls Try.prog 60 #[v] w fun e w' => e = .returned (.bool (ruleSafe r)) ∧ Below w.heap.size w w' := by
  have hmk := make4
  obtain ⟨a, b, rfl, h, h2⟩ := h
  have hsz := hr
  unfold szR at hr
  have H := Lib.hid h
  have H2 := Lib.hid h2
  obtain ⟨A, c, rfl, hc, _⟩ := h
  obtain ⟨A2, c2, rfl, hcc, _⟩ := h2
  go_enter Try.func60, Try.ntmps60
  go_wp2_with (fail)
  obtain ⟨w1, hw1⟩ : ∃ w1, w1 = w.alloc (Obj.cells #[Value.int IntKind.i64 r.1.1, Value.slice A r.1.2.length c, Value.slice A2 r.2.length c2] 49) := ⟨_, rfl⟩
  have B1 : Below w.heap.size w w1 := by rw [hw1]; exact below1 _ _
  have s1 : w1.heap.size = w.heap.size + 1 := by rw [hw1]; simp
  have x1 : Blk w1 w.heap.size 49 #[.int .i64 r.1.1, .slice A r.1.2.length c, .slice A2 r.2.length c2] := by rw [hw1]; exact Blk.new w _ _
  obtain ⟨w2, hw2⟩ : ∃ w2, w2 = w1.alloc (Obj.cells (madeCells #[Value.bool false] 4) 4) := ⟨_, rfl⟩
  have m2 : MkRow w2 (w.heap.size + 1) 0 := by rw [hw2, ← s1]; exact MkRow.made _
  have b2 : Below w1.heap.size w1 w2 := by rw [hw2]; exact below1 _ _
  have x2 := x1.below b2 x1.lt
  have B2 := bthen B1 b2
  have s2 : w2.heap.size = w.heap.size + 2 := by rw [hw2]; simp [s1]
  rw [← hw1, ← hw2]
  clear hw1 hw2
  go_loopw [4] (fun i wr => ∃ k : Nat, k ≤ r.2.length ∧ i = .int .i64 k ∧ MkRow wr (w.heap.size + 1) (yesMask (r.2.take k)) ∧ Only (w.heap.size + 1) (w.heap.size + 2) w2 wr) (fun i _ => r.2.length - (intOf i).toNat)
  case atStart => exact ⟨0, Nat.zero_le _, rfl, by simpa [yesMask] using m2, Only.refl _ _ _⟩
  case round =>
    obtain ⟨k, hk, rfl, hm, hon⟩ := hrel
    have BW : Below w.heap.size w wr := Only.then_ B2 hon (by omega)
    have xr := x2.only hon (.inl (by omega))
    have q0 : wr.cell? ⟨w.heap.size, 0, none⟩ = some (.int .i64 r.1.1) := xr.cell 0
    have q1 : wr.cell? ⟨w.heap.size, 1, none⟩ = some (.slice A r.1.2.length c) := xr.cell 1
    have q2 : wr.cell? ⟨w.heap.size, 2, none⟩ = some (.slice A2 r.2.length c2) := xr.cell 2
    by_cases hlt : k < r.2.length
    · obtain ⟨b, o, u0, u1, u2, rfl, hbB, k0, k1, k2, rfl, rfl, p3⟩ := (H2.out.below BW (Nat.le_refl _)).get hlt
      have HA := Lib.hid p3
      obtain ⟨A3, c3, rfl, hc3, _⟩ := p3
      have hle := len_le_totL r.2 k hlt
      have hty := yesMask_take hlt
      by_cases h0 : r.2[k].1 = 0
      · have hd : (r.2[k].1 == 0) = true := by simpa using h0
        rw [if_pos h0] at hty
        clear h0
        go_wp2_with (fail)
        refine (l2Mark_any (w.heap.size + 1) _ _ r.2[k].2.2 _ hm (HA.out.more (by omega)) (by omega)).mono ?_
        rintro e w4 ⟨rfl, m4, on4⟩
        rw [maskFrom_eq, ← hty] at m4
        clear hty
        go_wp2_with (fail)
        go_roundw
        case rel => exact ⟨k + 1, by omega, by go_num, m4, hon.trans on4⟩
        case measure => simp [intOf]; omega
      · have hd : (r.2[k].1 == 0) = false := by simpa using h0
        rw [if_neg h0] at hty
        rw [← hty] at hm
        have HM := Lib.hid hm
        clear hty hm h0
        go_wp2_with (fail)
        go_roundw
        case rel => exact ⟨k + 1, by omega, by go_num, HM.out, hon⟩
        case measure => simp [intOf]; omega
    · have HX := Lib.hid (show MkRow wr (w.heap.size + 1) (yesMask r.2) by rw [show k = r.2.length by omega, List.take_length] at hm; exact hm)
      have hgs := hm.lt
      clear hm
      go_wp2_with (fail)
      refine (l2Marks_any _ r _ ⟨_, _, rfl, H.out.on BW, H2.out.on BW⟩ hsz).mono ?_
      rintro e w5 ⟨g2, rfl, m5, hg2, hb5⟩
      have B5 := bthen BW hb5
      have y5 := HX.out.below hb5 hgs
      have HE := Lib.hid (ruleSafe_eq r)
      go_wp2_with (fail)
      go_loop [6] (fun i => ∃ k : Nat, k ≤ 4 ∧ i = .int .i64 k ∧ safeTo (ruleMask r) (yesMask r.2) k = true) (fun i => 4 - (intOf i).toNat)
      case atStart => exact ⟨0, Nat.zero_le _, rfl, by simp [safeTo]⟩
      case round =>
        obtain ⟨j, hj, rfl, hs⟩ := hrel
        by_cases hjl : j < 4
        · have c5 := m5.cell hjl
          have d5 := y5.cell hjl
          cases ha : (ruleMask r).testBit j
          · rw [ha] at c5
            have HS := Lib.hid (safeTo_step hs (by rw [ha]; rfl))
            clear hs ha
            go_wp2_with (fail)
            go_round
            case rel => exact ⟨j + 1, by omega, by go_num, HS.out⟩
            case measure => simp [intOf]; omega
          · rw [ha] at c5
            cases hb : (yesMask r.2).testBit j
            · rw [hb] at d5
              have HS := Lib.hid (safeTo_not hjl (show ((ruleMask r).testBit j && !(yesMask r.2).testBit j) = true by rw [ha, hb]; rfl))
              clear hs ha hb
              go_wp2_with (fail)
              go_ret
              exact ⟨ret_bool (by rw [HE.out, HS.out]), B5⟩
            · rw [hb] at d5
              have HS := Lib.hid (safeTo_step hs (by rw [ha, hb]; rfl))
              clear hs ha hb
              go_wp2_with (fail)
              go_round
              case rel => exact ⟨j + 1, by omega, by go_num, HS.out⟩
              case measure => simp [intOf]; omega
        · have HS := Lib.hid (show safeTo (ruleMask r) (yesMask r.2) 4 = true by rw [show j = 4 by omega] at hs; exact hs)
          clear hs
          go_wp2_with (fail)
          go_ret
          exact ⟨ret_bool (by rw [HE.out, HS.out]), B5⟩

end Go.Proofs.Ytofkcmihcgmmpaa
/-
  ruleVars.
-/
namespace Go.Proofs.Ytofkcmihcgmmpaa
open Go.RowKit

end Go.Proofs.Ytofkcmihcgmmpaa
/-
  The program's RuleSafe.
-/
namespace Go.Proofs.Ytofkcmihcgmmpaa
open Go.RowKit

end Go.Proofs.Ytofkcmihcgmmpaa
/-
  The walks of ruleFits and of both RuleOk.
-/
namespace Go.Proofs.Ytofkcmihcgmmpaa
open Go.RowKit

def ruleFits (ar : List Int) (r : LRule) : Bool := atomFits ar r.1 && (decide (r.2.length ≤ 4) && (r.2.all (litFits ar) && ruleSafe r))
def ruleOk (ar : List Int) (r : LRule) : Bool := arityOk ar && ruleFits ar r

theorem ruleOk_spec (ar : List Int) (r : LRule) : ruleOk ar r = (r.2.all (litOk ar) && (atomOk ar r.1 && (decide (r.2.length ≤ 4) && ruleSafe r))) := by
  unfold ruleOk ruleFits atomOk
  by_cases ha : arityOk ar = true
  · have : r.2.all (litOk ar) = r.2.all (litFits ar) := by
      congr 1
      funext l
      unfold litOk
      rw [ha, Bool.true_and]
    rw [this, ha]
    cases atomFits ar r.1 <;> cases r.2.all (litFits ar) <;> cases decide (r.2.length ≤ 4) <;> rfl
  · have ha' : arityOk ar = false := by simpa using ha
    rw [ha']
    simp

end Go.Proofs.Ytofkcmihcgmmpaa
/-
  The walks of both ProgramOk, of l2Has, and of both Positive.
-/
namespace Go.Proofs.Ytofkcmihcgmmpaa
open Go.RowKit

def progOk (p : LProg) : Bool := arityOk p.1 && (decide (p.2.length ≤ 60) && p.2.all (ruleFits p.1))
theorem progOk_spec (p : LProg) : progOk p = (p.2.all (ruleOk p.1) && (arityOk p.1 && decide (p.2.length ≤ 60))) := by
  unfold progOk
  by_cases ha : arityOk p.1 = true
  · have : p.2.all (ruleOk p.1) = p.2.all (ruleFits p.1) := by
      congr 1
      funext r
      unfold ruleOk
      rw [ha, Bool.true_and]
    rw [this, ha]
    cases p.2.all (ruleFits p.1) <;> cases decide (p.2.length ≤ 60) <;> rfl
  · have ha' : arityOk p.1 = false := by simpa using ha
    rw [ha']
    simp

end Go.Proofs.Ytofkcmihcgmmpaa
/-
  The relation of a loop that collects integers.
-/
namespace Go.Proofs.Ytofkcmihcgmmpaa
open Go.RowKit

/-- The relation of a loop that collects integers. -/
structure ColI (w wr : World) (xs : List Int) (A : Option Addr) (c : Nat) : Prop where
  below : Below w.heap.size w wr
  own : OwnInts wr w.heap.size wr.heap.size (.slice A xs.length c) xs
theorem ColI.nil {w wr : World} (hb : Below w.heap.size w wr) : ColI w wr [] none 0 := ⟨hb, World.ownsRow_nil _ _ _ _, fun g hg => by cases hg⟩
theorem ColI.empty {w wr : World} (hb : Below w.heap.size w wr) : ColI w (wr.alloc (.cells #[] 3)) [] (some ⟨wr.heap.size, 0, none⟩) 0 :=
  ⟨hb.alloc hb.size _, World.ownsRow_made wr #[] 0 hb.size (by decide) rfl, fun g hg => by simp [Value.ownBlock] at hg; subst hg; simp⟩
theorem ColI.push {w wr w2 w4 : World} {xs : List Int} {A : Option Addr} {c g cap : Nat} {x : Int} {o : Obj} (h : ColI w wr xs A c) (hb : Below wr.heap.size wr w2)
    (hg : (w2.alloc o).grownBy w4 (Value.slice A xs.length c).ownBlock) (hown : w4.ownsRow w.heap.size 3 1 (.slice (some ⟨g, 0, none⟩) (xs.length + 1) cap) (xs.length + 1) (xs.map (Value.int .i64) ++ [.int .i64 x])) :
    ColI w w4 (xs ++ [x]) (some ⟨g, 0, none⟩) cap := by
  have hl : (xs ++ [x]).length = xs.length + 1 := by simp
  refine ⟨((bthen h.below hb).alloc (bthen h.below hb).size _).grown hg (by have := (bthen h.below hb).size; simp; omega) (fun k hk => (h.own.1.lt k hk).1), ?_⟩
  rw [hl]
  exact ⟨by simpa using hown, fun b hb' => (hown.lt b hb').2⟩
theorem news1 (w : World) (x : Value) (t : TypeId) : ∀ j u, [x][j]? = some u → (w.alloc (.cells #[x] t)).cell? ((⟨w.heap.size, 0, none⟩ : Addr).add j) = some u := World.news_of_block (cs := #[x]) (heap_alloc_new w _)
theorem news1s (w : World) (x : Value) (t : TypeId) (n : Nat) (hn : w.heap.size = n) : ∀ j u, [x][j]? = some u → (w.alloc (.cells #[x] t)).cell? ((⟨n, 0, none⟩ : Addr).add j) = some u := hn ▸ news1 w x t

end Go.Proofs.Ytofkcmihcgmmpaa
/-
  Marks on integers (the words and the walks lie in MarkInts).
-/
namespace Go.Proofs.Ytofkcmihcgmmpaa
open Go.RowKit

end Go.Proofs.Ytofkcmihcgmmpaa
/-
  Marks on what is not read again: a store of a number over a number keeps the shape of all that lies there. The words, and the walks of markIntS, markAtom, markLitS, markRule, markRuleS, markProgram.
-/
namespace Go.Proofs.Ytofkcmihcgmmpaa
open Go.RowKit

/-- Blocks outside [lo, hi) are as they were; within, numbers may have become others. -/
structure Marked (lo hi : Nat) (w w' : World) : Prop where
  only : Only lo hi w w'
  cell : ∀ p : Addr, p.block < w.heap.size → w'.cell? p = w.cell? p ∨ ∃ x y, w.cell? p = some (.int .i64 x) ∧ w'.cell? p = some (.int .i64 y)
  frozen : ∀ p : Addr, p.block < w.heap.size → w'.frozen? p = w.frozen? p

section
variable {lo hi : Nat} {w w1 w' : World}
theorem Marked.refl (lo hi : Nat) (w : World) : Marked lo hi w w := ⟨Only.refl _ _ _, fun _ _ => .inl rfl, fun _ _ => rfl⟩
theorem Marked.trans (h : Marked lo hi w w1) (k : Marked lo hi w1 w') : Marked lo hi w w' := by
  refine ⟨h.only.trans k.only, fun p hp => ?_, fun p hp => (k.frozen p (Nat.lt_of_lt_of_le hp h.only.size)).trans (h.frozen p hp)⟩
  rcases h.cell p hp with e | ⟨x, y, e1, e2⟩
  · rcases k.cell p (Nat.lt_of_lt_of_le hp h.only.size) with e' | ⟨x', y', e1', e2'⟩
    · exact .inl (e'.trans e)
    · exact .inr ⟨x', y', e ▸ e1', e2'⟩
  · rcases k.cell p (Nat.lt_of_lt_of_le hp h.only.size) with e' | ⟨x', y', e1', e2'⟩
    · exact .inr ⟨x, y, e1, e'.trans e2⟩
    · exact .inr ⟨x, y', e1, e2'⟩
theorem Marked.of_below (h : Below w.heap.size w w') : Marked lo hi w w' := ⟨Only.of_below h, fun _ hp => .inl (h.cell hp), fun _ hp => h.frozen hp⟩
theorem Marked.store {p : Addr} {x : Int} (hp : lo ≤ p.block ∧ p.block < hi) (hc : w.cell? p = some (.int .i64 x)) (y : Int) : Marked lo hi w (w.setCell p (.int .i64 y)) := by
  refine ⟨(Only.refl _ _ _).setCell hp _, fun q _ => ?_, fun q _ => ?_⟩
  · by_cases e : q = p
    · subst e
      exact .inr ⟨x, y, hc, World.cell?_setCell_same _ _ _ hc⟩
    · exact .inl (World.cell?_setCell_other _ _ _ _ (fun e' => e e'.symm))
  · unfold World.frozen? World.setCell
    rw [Array.getElem?_modify]
    by_cases e : p.block = q.block
    · rw [if_pos e]
      cases hq : w.heap[q.block]? with
      | none => rfl
      | some o => cases o <;> rfl
    · rw [if_neg e]

/-- A slice of n numbers, of blocks from lo on and below hi, that may be written. -/
def WrInts (w : World) (lo hi : Nat) (v : Value) (n : Nat) : Prop :=
  ∃ A c, v = .slice A n c ∧ (0 < n → ∃ b o, A = some ⟨b, o, none⟩ ∧ lo ≤ b ∧ b < hi ∧ ∀ k, k < n → w.frozen? ⟨b, o + k, none⟩ = false ∧ ∃ x, w.cell? ⟨b, o + k, none⟩ = some (.int .i64 x))
theorem Marked.int (h : Marked lo hi w w') {p : Addr} {x : Int} (hc : w.cell? p = some (.int .i64 x)) : ∃ y, w'.cell? p = some (.int .i64 y) := by
  rcases h.cell p (World.block_lt_of_cell? _ _ hc) with e | ⟨_, y, _, e⟩
  · exact ⟨x, e.trans hc⟩
  · exact ⟨y, e⟩
theorem Marked.slice (h : Marked lo hi w w') {p : Addr} {A : Option Addr} {n c : Nat} (hc : w.cell? p = some (.slice A n c)) : w'.cell? p = some (.slice A n c) := by
  rcases h.cell p (World.block_lt_of_cell? _ _ hc) with e | ⟨x, y, e, _⟩
  · exact e.trans hc
  · rw [hc] at e
    cases e
theorem WrInts.marked {v : Value} {n : Nat} (h : WrInts w lo hi v n) (hm : Marked lo hi w w') : WrInts w' lo hi v n := by
  obtain ⟨A, c, rfl, h⟩ := h
  refine ⟨A, c, rfl, fun hn => ?_⟩
  obtain ⟨b, o, rfl, h1, h2, hx⟩ := h hn
  refine ⟨b, o, rfl, h1, h2, fun k hk => ?_⟩
  obtain ⟨hf, x, hc⟩ := hx k hk
  exact ⟨(hm.frozen _ (World.block_lt_of_cell? _ _ hc)).trans hf, hm.int hc⟩
theorem OwnInts.wr {v : Value} {xs : List Int} (h : OwnInts w lo hi v xs) : WrInts w lo hi v xs.length := by
  have hrd := h.rd
  obtain ⟨⟨hlen, h⟩, hlt⟩ := h
  rcases h with ⟨rfl, h0⟩ | ⟨g, cap, cur, rfl, hbg, hg, hn, hm, hs, ht⟩
  · exact ⟨none, 0, by rw [h0], fun hn => absurd hn (by omega)⟩
  · refine ⟨_, cap, rfl, fun hn0 => ⟨g, 0, rfl, hbg, hlt g rfl, fun k hk => ⟨by simp [World.frozen?, hg], ?_⟩⟩⟩
    obtain ⟨A', c', e, _, hx⟩ := hrd
    injection e with e1 _ _
    obtain ⟨b, o, e2, _, hx⟩ := hx hn0
    rw [← e1] at e2
    injection e2 with e2
    injection e2 with e2 e3 _
    subst e2
    subst e3
    exact ⟨_, hx k hk⟩

def WLit (w : World) (lo hi : Nat) (u0 u1 u2 : Value) (l : LLit) : Prop := (∃ x, u0 = .int .i64 x) ∧ (∃ y, u1 = .int .i64 y) ∧ WrInts w lo hi u2 l.2.2.length
def WrLits (w : World) (lo hi : Nat) (v : Value) (ls : List LLit) : Prop := OwnRow WLit w lo hi v ls
theorem OwnLits.wr {v : Value} {ls : List LLit} (h : OwnLits w lo hi v ls) : WrLits w lo hi v ls := by
  obtain ⟨A, c, rfl, hc, h⟩ := h
  refine ⟨A, c, rfl, hc, fun hn => ?_⟩
  obtain ⟨b, o, rfl, h1, h2, hx⟩ := h hn
  refine ⟨b, o, rfl, h1, h2, fun k hk => ?_⟩
  obtain ⟨hf, u0, u1, u2, c0, c1, c2, rfl, rfl, hI⟩ := hx k hk
  exact ⟨hf, _, _, _, c0, c1, c2, ⟨_, rfl⟩, ⟨_, rfl⟩, hI.wr⟩
theorem WrLits.marked {v : Value} {ls : List LLit} (h : WrLits w lo hi v ls) (hm : Marked lo hi w w') : WrLits w' lo hi v ls := by
  obtain ⟨A, c, rfl, hc, h⟩ := h
  refine ⟨A, c, rfl, hc, fun hn => ?_⟩
  obtain ⟨b, o, rfl, h1, h2, hx⟩ := h hn
  refine ⟨b, o, rfl, h1, h2, fun k hk => ?_⟩
  obtain ⟨⟨f0, f1⟩, u0, u1, u2, c0, c1, c2, ⟨x, rfl⟩, ⟨y, rfl⟩, hI⟩ := hx k hk
  obtain ⟨x', d0⟩ := hm.int c0
  obtain ⟨y', d1⟩ := hm.int c1
  obtain ⟨A2, c2', rfl, hi⟩ := hI
  exact ⟨⟨(hm.frozen _ (World.block_lt_of_cell? _ _ c0)).trans f0, (hm.frozen _ (World.block_lt_of_cell? _ _ c1)).trans f1⟩, _, _, _, d0, d1, hm.slice c2, ⟨_, rfl⟩, ⟨_, rfl⟩, WrInts.marked ⟨A2, c2', rfl, hi⟩ hm⟩

def WRule (w : World) (lo hi : Nat) (u0 u1 u2 : Value) (r : LRule) : Prop := (∃ x, u0 = .int .i64 x) ∧ WrInts w lo hi u1 r.1.2.length ∧ WrLits w lo hi u2 r.2
def WrRules (w : World) (lo hi : Nat) (v : Value) (rs : List LRule) : Prop := OwnRow WRule w lo hi v rs
theorem OwnRules.wr {v : Value} {rs : List LRule} (h : OwnRules w lo hi v rs) : WrRules w lo hi v rs := by
  obtain ⟨A, c, rfl, hc, h⟩ := h
  refine ⟨A, c, rfl, hc, fun hn => ?_⟩
  obtain ⟨b, o, rfl, h1, h2, hx⟩ := h hn
  refine ⟨b, o, rfl, h1, h2, fun k hk => ?_⟩
  obtain ⟨hf, u0, u1, u2, c0, c1, c2, rfl, hI, hL⟩ := hx k hk
  exact ⟨hf, _, _, _, c0, c1, c2, ⟨_, rfl⟩, hI.wr, hL.wr⟩
theorem WrRules.marked {v : Value} {rs : List LRule} (h : WrRules w lo hi v rs) (hm : Marked lo hi w w') : WrRules w' lo hi v rs := by
  obtain ⟨A, c, rfl, hc, h⟩ := h
  refine ⟨A, c, rfl, hc, fun hn => ?_⟩
  obtain ⟨b, o, rfl, h1, h2, hx⟩ := h hn
  refine ⟨b, o, rfl, h1, h2, fun k hk => ?_⟩
  obtain ⟨⟨f0, f1⟩, u0, u1, u2, c0, c1, c2, ⟨x, rfl⟩, hI, hL⟩ := hx k hk
  obtain ⟨x', d0⟩ := hm.int c0
  have f1' := (hm.frozen _ (World.block_lt_of_cell? _ _ c1)).trans f1
  obtain ⟨A1, n1, rfl, hi1⟩ := hI
  obtain ⟨A2, n2, rfl, hc2, hi2⟩ := hL
  exact ⟨⟨(hm.frozen _ (World.block_lt_of_cell? _ _ c0)).trans f0, f1'⟩, _, _, _, d0, hm.slice c1, hm.slice c2, ⟨_, rfl⟩, WrInts.marked ⟨A1, n1, rfl, hi1⟩ hm, WrLits.marked ⟨A2, n2, rfl, hc2, hi2⟩ hm⟩
end

/-- How far the marks of literals, of a rule, of rules go. -/
def endL (k : Int) (ls : List LLit) : Int := k + 2 * (ls.length : Int) + (totL ls : Int)

def endR (k : Int) (r : LRule) : Int := endL (k + (r.1.2.length : Int)) r.2

end Go.Proofs.Ytofkcmihcgmmpaa
/-
  The loop that collects integers; the walk of the specification's RulesOf.
-/
namespace Go.Proofs.Ytofkcmihcgmmpaa
open Go.RowKit

/-- The indexes of rules, of the first k, whose head has a predicate. -/
def rulesTo (rs : List LRule) (pred : Int) (k : Nat) : List Int := ((List.range k).filter fun i => (rs.getD i ((0, []), [])).1.1 == pred).map fun i : Nat => (i : Int)
def rulesOf (p : LProg) (pred : Int) : List Int := rulesTo p.2 pred p.2.length
theorem rulesTo_yes {rs : List LRule} {pred : Int} {k : Nat} (h : k < rs.length) (e : rs[k].1.1 = pred) : rulesTo rs pred (k + 1) = rulesTo rs pred k ++ [(k : Int)] := by
  unfold rulesTo
  rw [List.range_succ, List.filter_append, List.map_append]
  congr 1
  simp [h, e]
theorem rulesTo_no {rs : List LRule} {pred : Int} {k : Nat} (h : k < rs.length) (e : rs[k].1.1 ≠ pred) : rulesTo rs pred (k + 1) = rulesTo rs pred k := by
  unfold rulesTo
  rw [List.range_succ, List.filter_append, List.map_append]
  simp [h, e]
theorem rulesTo_length (rs : List LRule) (pred : Int) (k : Nat) : (rulesTo rs pred k).length ≤ k := by
  unfold rulesTo
  rw [List.length_map]
  exact Nat.le_trans (List.length_filter_le _ _) (by simp)

end Go.Proofs.Ytofkcmihcgmmpaa
/-
  The walk of the program's RulesOf.
-/
namespace Go.Proofs.Ytofkcmihcgmmpaa
open Go.RowKit

end Go.Proofs.Ytofkcmihcgmmpaa
/-
  The specification's renaming: the walks of l2Number and l2Atom.
-/
namespace Go.Proofs.Ytofkcmihcgmmpaa
open Go.RowKit

/-- Block g is a row that holds what the variables have become. -/
def ToAt (w : World) (g : Nat) (s : Ren) : Prop := ∃ a b c d : Int, s.1 = [a, b, c, d] ∧ Blk w g 3 #[.int .i64 a, .int .i64 b, .int .i64 c, .int .i64 d]
theorem ToAt.lt {w : World} {g : Nat} {s : Ren} (h : ToAt w g s) : g < w.heap.size := by
  obtain ⟨_, _, _, _, _, hx⟩ := h
  exact hx.lt
theorem ToAt.below {w w' : World} {g B : Nat} {s : Ren} (h : ToAt w g s) (hb : Below B w w') (hg : g < B) : ToAt w' g s := by
  obtain ⟨a, b, c, d, e, hx⟩ := h
  exact ⟨a, b, c, d, e, hx.below hb hg⟩
theorem ToAt.rd {w : World} {g : Nat} {s : Ren} (h : ToAt w g s) : RdInts w w.heap.size (.slice (some ⟨g, 0, none⟩) 4 4) s.1 := by
  obtain ⟨a, b, c, d, e, hx⟩ := h
  rw [e]
  refine ⟨_, 4, rfl, Nat.le_refl _, fun _ => ⟨g, 0, rfl, hx.lt, fun k hk => ?_⟩⟩
  simp at hk
  match k, hk with
  | 0, _ => exact hx.cell 0
  | 1, _ => exact hx.cell 1
  | 2, _ => exact hx.cell 2
  | 3, _ => exact hx.cell 3
/-- The cell of a variable. -/
theorem ToAt.cell {w : World} {g : Nat} {s : Ren} (h : ToAt w g s) {v : Nat} (hv : v < 4) : w.cell? ⟨g, v, none⟩ = some (.int .i64 (s.1.getD v 0)) ∧ w.frozen? ⟨g, v, none⟩ = false := by
  obtain ⟨a, b, c, d, e, hx⟩ := h
  rw [e]
  refine ⟨?_, hx.frozen v⟩
  match v, hv with
  | 0, _ => exact hx.cell 0
  | 1, _ => exact hx.cell 1
  | 2, _ => exact hx.cell 2
  | 3, _ => exact hx.cell 3
theorem ToAt.store {w : World} {g m m' : Nat} {ts : List Int} (h : ToAt w g (ts, m)) {v : Nat} (hv : v < 4) (y : Int) : ToAt (w.setCell ⟨g, v, none⟩ (.int .i64 y)) g (ts.set v y, m') := by
  obtain ⟨a, b, c, d, e, hx⟩ := h
  simp only at e
  subst e
  match v, hv with
  | 0, _ => exact ⟨y, b, c, d, rfl, by simpa using hx.set_ 0 (.int .i64 y)⟩
  | 1, _ => exact ⟨a, y, c, d, rfl, by simpa using hx.set_ 1 (.int .i64 y)⟩
  | 2, _ => exact ⟨a, b, y, d, rfl, by simpa using hx.set_ 2 (.int .i64 y)⟩
  | 3, _ => exact ⟨a, b, c, y, rfl, by simpa using hx.set_ 3 (.int .i64 y)⟩

theorem renList_big : ∀ (xs : List Int) (s : Ren), (renList s xs).2 ≤ s.2 + xs.length
  | [], s => by simp [renList]
  | t :: xs, s => by
    have h1 := renList_big xs (renStep s t)
    have h2 : (renStep s t).2 ≤ s.2 + 1 := by
      unfold renStep
      split <;> simp
    show (renList (renStep s t) xs).2 ≤ _
    simp only [List.length_cons]
    omega
theorem renStep_yes {ts : List Int} {m v : Nat} {t : Int} (hv : v < 4) (ht : t = -1 - (v : Int)) (h : ts.getD v 0 = 0) : renStep (ts, m) t = (ts.set v (-1 - (m : Int)), m + 1) := by
  have e : (-1 - t).toNat = v := by omega
  have hb : isVarB t = true := by simp [isVarB]; omega
  unfold renStep
  rw [hb, e]
  simp only [h]
  rfl
theorem renStep_skip {ts : List Int} {m v : Nat} {t : Int} (ht : t = -1 - (v : Int)) (h : ts.getD v 0 ≠ 0) : renStep (ts, m) t = (ts, m) := by
  have e : (-1 - t).toNat = v := by omega
  unfold renStep
  rw [e]
  split
  · rename_i hc
    simp only [Bool.and_eq_true, beq_iff_eq] at hc
    exact absurd hc.2 h
  · rfl
theorem term_casesN {t : Int} (h : termOk t = true) : 0 ≤ t ∨ t = -1 ∨ t = -2 ∨ t = -3 ∨ t = -4 := by simp [termOk] at h; omega

/-- What holds at l2Atom's loop: k terms are renamed. -/
structure AtRel (w wr : World) (p : Int) (A : Option Addr) (n c : Nat) (ys : List Int) (A' : Option Addr) (c' : Nat) : Prop where
  below : Below w.heap.size w wr
  src : Blk wr w.heap.size 26 #[.int .i64 p, .slice A n c]
  res : Blk wr (w.heap.size + 1) 26 #[.int .i64 0, .slice none 0 0]
  out : Blk wr (w.heap.size + 2) 26 #[.int .i64 p, .slice A' ys.length c']
  own : wr.ownsRow (w.heap.size + 3) 3 1 (.slice A' ys.length c') ys.length (ys.map (Value.int .i64))
theorem blk_ne_own {w : World} {base n size g : Nat} {e t : TypeId} {v : Value} {xs : List Value} {cs : Array Value} (h : w.ownsRow base e size v n xs) (hb : Blk w g t cs) (hne : e ≠ t) : v.ownBlock ≠ some g := by
  rcases h.2 with ⟨rfl, _⟩ | ⟨g', cap, cur, rfl, _, hh, _⟩
  · simp [Value.ownBlock]
  · intro he
    have : g' = g := by simpa [Value.ownBlock] using he
    subst this
    unfold Blk at hb
    rw [hh] at hb
    injection hb with hb
    injection hb with _ hb
    exact hne hb
theorem AtRel.start (w : World) (p : Int) (A : Option Addr) (n c : Nat) : AtRel w (((w.alloc (Obj.cells #[Value.int IntKind.i64 p, Value.slice A n c] 26)).alloc (Obj.cells #[Value.int IntKind.i64 0, Value.slice none 0 0] 26)).alloc (Obj.cells #[Value.int IntKind.i64 p, Value.slice none 0 0] 26)) p A n c [] none 0 :=
  ⟨below3 _ _ _ _, ((Blk.new w _ _).alloc _).alloc _, by simpa using (Blk.new (w.alloc (Obj.cells #[Value.int IntKind.i64 p, Value.slice A n c] 26)) 26 #[.int .i64 0, .slice none 0 0]).alloc (Obj.cells #[Value.int IntKind.i64 p, Value.slice none 0 0] 26),
    by simpa using Blk.new ((w.alloc (Obj.cells #[Value.int IntKind.i64 p, Value.slice A n c] 26)).alloc (Obj.cells #[Value.int IntKind.i64 0, Value.slice none 0 0] 26)) 26 #[.int .i64 p, .slice none 0 0],
    by simpa using World.ownsRow_nil _ _ _ _⟩
theorem AtRel.step {w wr w2 : World} {p : Int} {A A' : Option Addr} {n c c' g cap : Nat} {ys : List Int} {y : Int} {o : Obj} (hr : AtRel w wr p A n c ys A' c') (hg : (wr.alloc o).grownBy w2 (Value.slice A' ys.length c').ownBlock)
    (hown : w2.ownsRow (w.heap.size + 3) 3 1 (.slice (some ⟨g, 0, none⟩) (ys.length + 1) cap) (ys.length + 1) (ys.map (Value.int .i64) ++ [.int .i64 y])) :
    AtRel w (w2.setCell ⟨w.heap.size + 2, 1, none⟩ (.slice (some ⟨g, 0, none⟩) (ys.length + 1) cap)) p A n c (ys ++ [y]) (some ⟨g, 0, none⟩) cap := by
  obtain ⟨h1, h2, h3, h4, h5⟩ := hr
  have hg' := grown_from_alloc hg
  have keep : ∀ {b : Nat} {cs : Array Value}, Blk wr b 26 cs → Blk w2 b 26 cs := fun hb => (hg'.block _ hb.lt (fun e => blk_ne_own h5 hb (by decide) e.symm)).trans hb
  have hl : (ys ++ [y]).length = ys.length + 1 := by simp
  have hs := h4.lt
  refine ⟨(h1.grown hg' h1.size (fun b hb => by have := (h5.lt b hb).1; omega)).setCell (by show w.heap.size ≤ w.heap.size + 2; omega) _, (keep h2).far (by show w.heap.size ≠ w.heap.size + 2; omega) _, (keep h3).far (by show w.heap.size + 1 ≠ w.heap.size + 2; omega) _, ?_, ?_⟩
  · rw [hl]
    exact (keep h4).set_ 1 _
  · rw [hl, List.map_append]
    exact ownsRow_only hown (fun b hb => Below.heap_setCell _ _ _ _ (fun e => blk_ne_own hown (keep h4) (by decide) (by rw [hb, e])))

end Go.Proofs.Ytofkcmihcgmmpaa
/-
  Marks on results, read again: the numbers lie in cells that a list names, each once. The words, and the walks of markIntS, heldIntS over such lists.
-/
namespace Go.Proofs.Ytofkcmihcgmmpaa
open Go.RowKit

/-- The cells ps hold k, k + 1, .. -/
def HoldsFrom (w : World) (k : Int) (ps : List Addr) : Prop := ∀ i (h : i < ps.length), w.cell? ps[i] = some (.int .i64 (k + (i : Int)))
/-- The cells ps hold k, k + 1, ..; the others are as they were. -/
structure SeqAt (lo hi : Nat) (k : Int) (ps : List Addr) (w w' : World) : Prop where
  marked : Marked lo hi w w'
  holds : HoldsFrom w' k ps
  other : ∀ p : Addr, p.block < w.heap.size → p ∉ ps → w'.cell? p = w.cell? p

section
variable {lo hi : Nat} {w w1 w' : World} {k : Int} {ps qs : List Addr}
theorem HoldsFrom.nil : HoldsFrom w k [] := fun i h => absurd h (by simp)
theorem HoldsFrom.left (h : HoldsFrom w k (ps ++ qs)) : HoldsFrom w k ps := fun i hi => by
  have := h i (by simp; omega)
  rwa [List.getElem_append_left hi] at this
theorem HoldsFrom.right (h : HoldsFrom w k (ps ++ qs)) : HoldsFrom w (k + (ps.length : Int)) qs := fun i hi => by
  have := h (ps.length + i) (by simp; omega)
  rw [List.getElem_append_right (by omega)] at this
  simp only [Nat.add_sub_cancel_left] at this
  rw [this]
  congr 2
  omega
theorem HoldsFrom.append (h : HoldsFrom w k ps) (h2 : HoldsFrom w (k + (ps.length : Int)) qs) : HoldsFrom w k (ps ++ qs) := fun i hi => by
  by_cases hl : i < ps.length
  · rw [List.getElem_append_left hl]
    exact h i hl
  · rw [List.getElem_append_right (by omega)]
    simp at hi
    rw [h2 (i - ps.length) (by omega)]
    congr 2
    omega
theorem HoldsFrom.lt (h : HoldsFrom w k ps) {p : Addr} (hp : p ∈ ps) : p.block < w.heap.size := by
  obtain ⟨i, hi, rfl⟩ := List.getElem_of_mem hp
  exact World.block_lt_of_cell? _ _ (h i hi)
theorem HoldsFrom.kept (h : HoldsFrom w k ps) (hc : ∀ p ∈ ps, w'.cell? p = w.cell? p) : HoldsFrom w' k ps := fun i hi => (hc _ (List.getElem_mem hi)).trans (h i hi)
theorem HoldsFrom.below (h : HoldsFrom w k ps) (hb : Below w.heap.size w w') : HoldsFrom w' k ps := h.kept fun _ hp => hb.cell (h.lt hp)
theorem SeqAt.below (h : Below w.heap.size w w') : SeqAt lo hi k [] w w' := ⟨Marked.of_below h, HoldsFrom.nil, fun _ hp _ => h.cell hp⟩
theorem SeqAt.store {p : Addr} {x : Int} (hp : lo ≤ p.block ∧ p.block < hi) (hc : w.cell? p = some (.int .i64 x)) (k : Int) : SeqAt lo hi k [p] w (w.setCell p (.int .i64 k)) := by
  refine ⟨Marked.store hp hc k, fun i hi => ?_, fun q _ hq => World.cell?_setCell_other _ _ _ _ (fun e => hq (by simp [e]))⟩
  obtain rfl : i = 0 := by simpa using hi
  simpa using World.cell?_setCell_same _ _ (.int .i64 k) hc
theorem SeqAt.append (h : SeqAt lo hi k ps w w1) (h2 : SeqAt lo hi (k + (ps.length : Int)) qs w1 w') (hd : ∀ p ∈ ps, p ∉ qs) : SeqAt lo hi k (ps ++ qs) w w' := by
  refine ⟨h.marked.trans h2.marked, (h.holds.kept fun p hp => h2.other p (h.holds.lt hp) (hd p hp)).append h2.holds, fun p hp hq => ?_⟩
  simp only [List.mem_append, not_or] at hq
  exact (h2.other p (Nat.lt_of_lt_of_le hp h.marked.only.size) hq.2).trans (h.other p hp hq.1)
theorem SeqAt.then_below (h : SeqAt lo hi k ps w w1) (hb : Below w1.heap.size w1 w') : SeqAt lo hi k ps w w' := by
  have := h.append (qs := []) (SeqAt.below (lo := lo) (hi := hi) hb) (fun _ _ hq => by simp at hq)
  simpa using this
theorem SeqAt.below_then (hb : Below w.heap.size w w1) (h : SeqAt lo hi k ps w1 w') : SeqAt lo hi k ps w w' := by
  have h0 : SeqAt lo hi k [] w w1 := SeqAt.below hb
  have := h0.append (by simpa using h) (fun _ hp => by simp at hp)
  simpa using this
end

/-- The first j groups of leaves. -/
def preL (el : Nat → List Addr) (j : Nat) : List Addr := ((List.range j).map el).flatten
theorem preL_zero (el : Nat → List Addr) : preL el 0 = [] := rfl
theorem preL_succ (el : Nat → List Addr) (j : Nat) : preL el (j + 1) = preL el j ++ el j := by
  unfold preL
  rw [List.range_succ, List.map_append, List.flatten_append]
  simp
theorem preL_split (el : Nat → List Addr) : ∀ n j, j ≤ n → ∃ rest, preL el n = preL el j ++ rest
  | 0, j, h => ⟨[], by rw [show j = 0 by omega]; rfl⟩
  | n + 1, j, h => by
    by_cases e : j = n + 1
    · exact ⟨[], by rw [e]; simp⟩
    · obtain ⟨r, hr⟩ := preL_split el n j (by omega)
      exact ⟨r ++ el n, by rw [preL_succ, hr, List.append_assoc]⟩
theorem preL_nodup {el : Nat → List Addr} {n j : Nat} (h : (preL el n).Nodup) (hj : j < n) : (preL el j ++ el j).Nodup := by
  obtain ⟨r, hr⟩ := preL_split el n (j + 1) hj
  rw [hr, List.nodup_append] at h
  rw [← preL_succ]
  exact h.1
theorem preL_holds {w : World} {k : Int} {el : Nat → List Addr} {n j : Nat} (h : HoldsFrom w k (preL el n)) (hj : j < n) : HoldsFrom w (k + ((preL el j).length : Int)) (el j) := by
  obtain ⟨r, hr⟩ := preL_split el n (j + 1) hj
  rw [hr] at h
  have := h.left
  rw [preL_succ] at this
  exact this.right
theorem mem_preL {el : Nat → List Addr} : ∀ {n : Nat} {p : Addr}, p ∈ preL el n ↔ ∃ j, j < n ∧ p ∈ el j
  | 0, p => by simp [preL]
  | n + 1, p => by
    rw [preL_succ, List.mem_append, mem_preL]
    constructor
    · rintro (⟨j, hj, hp⟩ | hp)
      · exact ⟨j, by omega, hp⟩
      · exact ⟨n, by omega, hp⟩
    · rintro ⟨j, hj, hp⟩
      by_cases e : j = n
      · exact .inr (e ▸ hp)
      · exact .inl ⟨j, by omega, hp⟩
/-- Groups that are once each and apart from each other. -/
theorem preL_nodup_of {el : Nat → List Addr} : ∀ {n : Nat}, (∀ j, j < n → (el j).Nodup) → (∀ i j, i < j → j < n → ∀ p ∈ el i, p ∉ el j) → (preL el n).Nodup
  | 0, _, _ => by simp [preL]
  | n + 1, h1, h2 => by
    rw [preL_succ, List.nodup_append]
    refine ⟨preL_nodup_of (fun j hj => h1 j (by omega)) (fun i j hij hj => h2 i j hij (by omega)), h1 n (by omega), fun a ha b hb e => ?_⟩
    obtain ⟨j, hj, hp⟩ := mem_preL.1 ha
    exact h2 j n hj (by omega) a hp (e ▸ hb)
theorem preL_length_le {el : Nat → List Addr} {n j : Nat} (h : j ≤ n) : (preL el j).length ≤ (preL el n).length := by
  obtain ⟨r, hr⟩ := preL_split el n j h
  rw [hr]
  simp

/-- A slice of n numbers in blocks from lo on and below hi that may be written; ps are its cells. -/
def LvInts (w : World) (lo hi : Nat) (v : Value) (n : Nat) (ps : List Addr) : Prop :=
  ∃ A c, v = .slice A n c ∧ n ≤ c ∧ ps.length = n ∧ (0 < n → ∃ b o, A = some ⟨b, o, none⟩ ∧ lo ≤ b ∧ b < hi ∧ ps = (List.range n).map (fun k => ⟨b, o + k, none⟩) ∧
    ∀ k, k < n → w.frozen? ⟨b, o + k, none⟩ = false ∧ ∃ x, w.cell? ⟨b, o + k, none⟩ = some (.int .i64 x))
theorem LvInts.marked {w w' : World} {lo hi lo' hi' n : Nat} {v : Value} {ps : List Addr} (h : LvInts w lo hi v n ps) (hm : Marked lo' hi' w w') : LvInts w' lo hi v n ps := by
  obtain ⟨A, c, rfl, hcc, hl, h⟩ := h
  refine ⟨A, c, rfl, hcc, hl, fun hn => ?_⟩
  obtain ⟨b, o, rfl, h1, h2, hp, hx⟩ := h hn
  refine ⟨b, o, rfl, h1, h2, hp, fun k hk => ?_⟩
  obtain ⟨hf, x, hc⟩ := hx k hk
  exact ⟨(hm.frozen _ (World.block_lt_of_cell? _ _ hc)).trans hf, hm.int hc⟩
theorem LvInts.mono {w : World} {lo hi lo' hi' n : Nat} {v : Value} {ps : List Addr} (h : LvInts w lo hi v n ps) (h1 : lo' ≤ lo) (h2 : hi ≤ hi') : LvInts w lo' hi' v n ps := by
  obtain ⟨A, c, rfl, hcc, hl, h⟩ := h
  refine ⟨A, c, rfl, hcc, hl, fun hn => ?_⟩
  obtain ⟨b, o, rfl, h3, h4, hp, hx⟩ := h hn
  exact ⟨b, o, rfl, by omega, by omega, hp, hx⟩
theorem LvInts.block {w : World} {lo hi n : Nat} {v : Value} {ps : List Addr} (h : LvInts w lo hi v n ps) {p : Addr} (hp : p ∈ ps) : lo ≤ p.block ∧ p.block < hi := by
  obtain ⟨A, c, rfl, _, hl, h⟩ := h
  have hn : 0 < n := by rw [← hl]; exact List.length_pos_of_mem hp
  obtain ⟨b, o, rfl, h1, h2, rfl, _⟩ := h hn
  simp only [List.mem_map, List.mem_range] at hp
  obtain ⟨k, _, rfl⟩ := hp
  exact ⟨h1, h2⟩
theorem LvInts.nodup {w : World} {lo hi n : Nat} {v : Value} {ps : List Addr} (h : LvInts w lo hi v n ps) : ps.Nodup := by
  obtain ⟨A, c, rfl, _, hl, h⟩ := h
  rcases Nat.eq_zero_or_pos n with h0 | hn
  · rw [h0] at hl
    rw [List.eq_nil_of_length_eq_zero hl]
    exact List.nodup_nil
  · obtain ⟨b, o, rfl, h1, h2, rfl, _⟩ := h hn
    rw [List.nodup_iff_pairwise_ne, List.pairwise_map]
    exact List.Pairwise.imp (fun {a b} hab e => by injection e with _ e2 _; omega) List.pairwise_lt_range
theorem OwnInts.leaves {w : World} {lo hi : Nat} {v : Value} {xs : List Int} (h : OwnInts w lo hi v xs) : ∃ ps, LvInts w lo hi v xs.length ps := by
  obtain ⟨A2, c2, e2, hcc, _⟩ := h.rd
  obtain ⟨A, c, rfl, hx⟩ := h.wr
  injection e2 with _ _ e2
  subst e2
  rcases Nat.eq_zero_or_pos xs.length with h0 | hn
  · exact ⟨[], A, c, rfl, hcc, by simp [h0], fun hn => absurd hn (by omega)⟩
  · obtain ⟨b, o, rfl, h1, h2, hx⟩ := hx hn
    exact ⟨(List.range xs.length).map (fun k => ⟨b, o + k, none⟩), _, c, rfl, hcc, by simp, fun _ => ⟨b, o, rfl, h1, h2, rfl, hx⟩⟩

theorem LvInts.rd {w : World} {lo hi n : Nat} {v : Value} {ps : List Addr} {k : Int} (h : LvInts w lo hi v n ps) (hh : HoldsFrom w k ps) : RdInts w w.heap.size v (seqI k n) := by
  obtain ⟨A, c, rfl, hcc, hl, h⟩ := h
  refine ⟨A, c, by rw [seqI_length], by rw [seqI_length]; exact hcc, fun hn => ?_⟩
  rw [seqI_length] at hn
  obtain ⟨b, o, rfl, h1, h2, hp, hx⟩ := h hn
  have hat : ∀ j (hj : j < n), w.cell? ⟨b, o + j, none⟩ = some (.int .i64 (k + (j : Int))) := fun j hj => by
    have := hh j (by omega)
    simpa [hp] using this
  refine ⟨b, o, rfl, World.block_lt_of_cell? _ _ (hat 0 hn), fun j hj => ?_⟩
  rw [seqI_at]
  exact hat j (by rwa [seqI_length] at hj)

end Go.Proofs.Ytofkcmihcgmmpaa
/-
  The program's renaming: the walks of varTerm and term.
-/
namespace Go.Proofs.Ytofkcmihcgmmpaa
open Go.RowKit

theorem varTerm_big (n : Int) (h0 : 0 ≤ n) (h1 : n ≤ 4611686018427387904) (w : World) : Calls Try.prog 57 #[.int .i64 n] w fun e w' => e = .returned (.int .i64 (-1 - n)) ∧ w = w' := by
  go_enter Try.func57, Try.ntmps57
  go_wp2
  go_ret
  exact ⟨rfl, rfl⟩

end Go.Proofs.Ytofkcmihcgmmpaa
/-
  The program's renaming: the walk of atom.
-/
namespace Go.Proofs.Ytofkcmihcgmmpaa
open Go.RowKit

theorem rowIs_only {w w' : World} {lo hi g n : Nat} {t : TypeId} {f : Nat → Value} (h : w.rowIs g t n f) (ho : Only lo hi w w') (hd : g < lo ∨ hi ≤ g) : w'.rowIs g t n f := by
  obtain ⟨c, hb, r⟩ := h
  exact ⟨c, (ho.block g (Array.getElem?_eq_some_iff.1 hb).1 hd).trans hb, r⟩
theorem RdInts.only {w w' : World} {lo hi B : Nat} {v : Value} {xs : List Int} (h : RdInts w B v xs) (ho : Only lo hi w w') (hB : B ≤ lo) : RdInts w' B v xs := by
  obtain ⟨A, c, rfl, hc, h⟩ := h
  refine ⟨A, c, rfl, hc, fun hn => ?_⟩
  obtain ⟨b, o, rfl, hlt, hk⟩ := h hn
  refine ⟨b, o, rfl, hlt, fun k hkl => ?_⟩
  have hc := hk k hkl
  rw [← hc]
  exact World.cell?_of_block (by exact ho.block b (World.block_lt_of_cell? _ _ hc) (.inl (by omega)))

/-- All blocks but two are as they were. -/
structure But2 (g r : Nat) (w w' : World) : Prop where
  os : w'.os = w.os
  tape : w'.tape = w.tape
  output : w'.output = w.output
  size : w.heap.size ≤ w'.heap.size
  block : ∀ k, k < w.heap.size → k ≠ g → k ≠ r → w'.heap[k]? = w.heap[k]?
theorem But2.refl (g r : Nat) (w : World) : But2 g r w w := ⟨rfl, rfl, rfl, Nat.le_refl _, fun _ _ _ _ => rfl⟩
theorem But2.only {g r : Nat} {w w1 w' : World} (h : But2 g r w w1) (ho : Only g (g + 1) w1 w') : But2 g r w w' :=
  ⟨ho.os.trans h.os, ho.tape.trans h.tape, ho.output.trans h.output, Nat.le_trans h.size ho.size, fun k hk h1 h2 => (ho.block k (Nat.lt_of_lt_of_le hk h.size) (by omega)).trans (h.block k hk h1 h2)⟩
theorem But2.set {g r j : Nat} {w w1 : World} (h : But2 g r w w1) (u : Value) : But2 g r w (w1.setCell ⟨r, j, none⟩ u) :=
  ⟨h.os, h.tape, h.output, by simpa using h.size, fun k hk h1 h2 => (Below.heap_setCell _ _ _ _ h2).trans (h.block k hk h1 h2)⟩
theorem Blk.but {g r b : Nat} {w w' : World} {t : TypeId} {cs : Array Value} (h : Blk w b t cs) (hb : But2 g r w w') (h1 : b ≠ g) (h2 : b ≠ r) : Blk w' b t cs := (hb.block b h.lt h1 h2).trans h

theorem renOut_at {s : Ren} {xs : List Int} {k : Nat} (h : k < xs.length) : (renOut s xs).getD k 0 = look (renStep (renList s (xs.take k)) xs[k]) xs[k] := by
  rw [← renList_take s h]
  simp [renOut, h]
theorem renStep_no {s : Ren} {t : Int} (h : isVarB t = false) : renStep s t = s := by simp [renStep, h]
theorem look_no {s : Ren} {t : Int} (h : isVarB t = false) : look s t = t := by simp [look, h]
theorem renStep_count (s : Ren) (t : Int) : (renStep s t).2 ≤ s.2 + 1 := by
  unfold renStep
  split <;> simp
theorem renList_count : ∀ (xs : List Int) (s : Ren), (renList s xs).2 ≤ s.2 + xs.length
  | [], s => by simp [renList]
  | t :: xs, s => by
    have h1 := renList_count xs (renStep s t)
    have h2 := renStep_count s t
    show (renList (renStep s t) xs).2 ≤ _
    simp only [List.length_cons]
    omega

end Go.Proofs.Ytofkcmihcgmmpaa
/-
  Marks on lists of literals and on rules that are results, read again: markLitS, heldLitS, markAtom, heldAtom, markRule, heldRule.
-/
namespace Go.Proofs.Ytofkcmihcgmmpaa
open Go.RowKit

/-- The leaves of literal k of a row at offset o of block b. -/
def litEl (b o : Nat) (qs : Nat → List Addr) (k : Nat) : List Addr := ⟨b, o + k * 3, none⟩ :: ⟨b, o + k * 3 + 1, none⟩ :: qs k
/-- A slice of literals in blocks from lo on and below hi that may be written; ps are its leaves. -/
def LvLits (w : World) (lo hi : Nat) (v : Value) (ls : List LLit) (ps : List Addr) : Prop :=
  ∃ A c, v = .slice A ls.length c ∧ ls.length ≤ c ∧ (ls.length = 0 → ps = []) ∧ (0 < ls.length → ∃ b o qs, A = some ⟨b, o, none⟩ ∧ lo ≤ b ∧ b < hi ∧ ps = preL (litEl b o qs) ls.length ∧
    ∀ k (h : k < ls.length), (w.frozen? ⟨b, o + k * 3, none⟩ = false ∧ w.frozen? ⟨b, o + k * 3 + 1, none⟩ = false) ∧ ∃ x y u2,
      w.cell? ⟨b, o + k * 3, none⟩ = some (.int .i64 x) ∧ w.cell? ⟨b, o + k * 3 + 1, none⟩ = some (.int .i64 y) ∧ w.cell? ⟨b, o + k * 3 + 2, none⟩ = some u2 ∧ LvInts w lo hi u2 ls[k].2.2.length (qs k))
theorem LvLits.marked {w w' : World} {lo hi lo' hi' : Nat} {v : Value} {ls : List LLit} {ps : List Addr} (h : LvLits w lo hi v ls ps) (hm : Marked lo' hi' w w') : LvLits w' lo hi v ls ps := by
  obtain ⟨A, c, rfl, hc, h0, h⟩ := h
  refine ⟨A, c, rfl, hc, h0, fun hn => ?_⟩
  obtain ⟨b, o, qs, rfl, h1, h2, hp, hx⟩ := h hn
  refine ⟨b, o, qs, rfl, h1, h2, hp, fun k hk => ?_⟩
  obtain ⟨⟨f0, f1⟩, x, y, u2, c0, c1, c2, hI⟩ := hx k hk
  obtain ⟨x', d0⟩ := hm.int c0
  obtain ⟨y', d1⟩ := hm.int c1
  have hI' := hI.marked hm
  obtain ⟨A2, c2', rfl, _⟩ := hI
  exact ⟨⟨(hm.frozen _ (World.block_lt_of_cell? _ _ c0)).trans f0, (hm.frozen _ (World.block_lt_of_cell? _ _ c1)).trans f1⟩, _, _, _, d0, d1, hm.slice c2, hI'⟩
theorem litEl_len {w : World} {lo hi n : Nat} {u : Value} {b o : Nat} {qs : Nat → List Addr} {k : Nat} (h : LvInts w lo hi u n (qs k)) : (litEl b o qs k).length = 2 + n := by
  obtain ⟨_, _, _, _, hl, _⟩ := h
  simp [litEl, hl]
  omega

theorem preL_lits_le (b o : Nat) (qs : Nat → List Addr) : ∀ j, j ≤ (preL (litEl b o qs) j).length
  | 0 => by simp [preL_zero]
  | j + 1 => by
    have := preL_lits_le b o qs j
    rw [preL_succ, List.length_append]
    simp [litEl]
    omega

/-- A rule of blocks from lo on and below hi that may be written; ps are its leaves. -/
def LvRule (w : World) (lo hi : Nat) (v : Value) (r : LRule) (ps : List Addr) : Prop :=
  ∃ p a b qs rs, v = .agg #[.int .i64 p, a, b] ∧ ps = qs ++ rs ∧ LvInts w lo hi a r.1.2.length qs ∧ LvLits w lo hi b r.2 rs
theorem LvRule.marked {w w' : World} {lo hi lo' hi' : Nat} {v : Value} {r : LRule} {ps : List Addr} (h : LvRule w lo hi v r ps) (hm : Marked lo' hi' w w') : LvRule w' lo hi v r ps := by
  obtain ⟨p, a, b, qs, rs, rfl, rfl, h1, h2⟩ := h
  exact ⟨p, a, b, qs, rs, rfl, rfl, h1.marked hm, h2.marked hm⟩

end Go.Proofs.Ytofkcmihcgmmpaa
/-
  A row that make laid and a loop fills, element by element, each element's own memory behind the one's ahead of it: so no two share a cell. The words; no walk.
-/
namespace Go.Proofs.Ytofkcmihcgmmpaa
open Go.RowKit

section
variable {α : Type}
/-- What holds at the loop that fills block g with xs: k elements are there; element j's own memory lies in blocks from f j on and below f (j + 1). -/
structure Fill (t : TypeId) (z0 z1 z2 : Value) (O : World → Nat → Nat → Value → Value → Value → α → Prop) (g : Nat) (wr : World) (xs : List α) (k : Nat) (f : Nat → Nat) : Prop where
  row : ∃ cur : Array Value, Blk wr g t cur ∧ (∀ j, j < k → ∀ hx : j < xs.length, ∃ u0 u1 u2, cur[j * 3]? = some u0 ∧ cur[j * 3 + 1]? = some u1 ∧ cur[j * 3 + 2]? = some u2 ∧ O wr (f j) (f (j + 1)) u0 u1 u2 xs[j]) ∧
    (∀ j, k ≤ j → j < xs.length → cur[j * 3]? = some z0 ∧ cur[j * 3 + 1]? = some z1 ∧ cur[j * 3 + 2]? = some z2)
  mono : ∀ j, j < k → f j ≤ f (j + 1)
  lo : g < f 0
  hi : f k ≤ wr.heap.size

variable {t : TypeId} {z0 z1 z2 : Value} {O : World → Nat → Nat → Value → Value → Value → α → Prop} {g : Nat} {w wr w4 : World} {xs : List α} {k : Nat} {f : Nat → Nat}
theorem Fill.start (h : Blk w g t (madeCells #[z0, z1, z2] (xs.length * 3))) (m : Nat) (hm : g < m) (hw : m ≤ w.heap.size) : Fill t z0 z1 z2 O g w xs 0 (fun _ => m) :=
  ⟨⟨_, h, fun j hj => absurd hj (by omega), fun j _ hj => by
    have e0 : j * 3 % 3 = 0 := by omega
    have e1 : (j * 3 + 1) % 3 = 1 := by omega
    have e2 : (j * 3 + 2) % 3 = 2 := by omega
    have l0 : j * 3 < xs.length * 3 := by omega
    have l1 : j * 3 + 1 < xs.length * 3 := by omega
    have l2 : j * 3 + 2 < xs.length * 3 := by omega
    refine ⟨?_, ?_, ?_⟩ <;> simp [madeCells, *]⟩, fun j hj => absurd hj (by omega), hm, hw⟩
theorem Fill.le (h : Fill t z0 z1 z2 O g wr xs k f) : ∀ {i j : Nat}, i ≤ j → j ≤ k → f i ≤ f j := by
  intro i j hij
  induction j with
  | zero => intro _; rw [show i = 0 by omega]; exact Nat.le_refl _
  | succ j ih =>
    intro hj
    by_cases e : i = j + 1
    · rw [e]; exact Nat.le_refl _
    · exact Nat.le_trans (ih (by omega) (by omega)) (h.mono j (by omega))
theorem Fill.room (h : Fill t z0 z1 z2 O g wr xs k f) (hlt : k < xs.length) (hb : w4.heap[g]? = wr.heap[g]?) :
    w4.cell? ⟨g, k * 3, none⟩ = some z0 ∧ w4.cell? ⟨g, k * 3 + 1, none⟩ = some z1 ∧ w4.cell? ⟨g, k * 3 + 2, none⟩ = some z2 ∧
    w4.frozen? ⟨g, k * 3, none⟩ = false ∧ w4.frozen? ⟨g, k * 3 + 1, none⟩ = false ∧ w4.frozen? ⟨g, k * 3 + 2, none⟩ = false := by
  obtain ⟨cur, hcur, _, hz⟩ := h.row
  have h4 : Blk w4 g t cur := hb.trans hcur
  obtain ⟨c0, c1, c2⟩ := hz k (Nat.le_refl _) hlt
  exact ⟨(h4.cell _).trans c0, (h4.cell _).trans c1, (h4.cell _).trans c2, h4.frozen _, h4.frozen _, h4.frozen _⟩
theorem Fill.kept (keep : ∀ {w w' : World} {lo hi : Nat} {u0 u1 u2 : Value} {x : α}, O w lo hi u0 u1 u2 x → (∀ g, lo ≤ g → g < hi → w'.heap[g]? = w.heap[g]?) → O w' lo hi u0 u1 u2 x)
    (h : Fill t z0 z1 z2 O g wr xs k f) (hb : w4.heap[g]? = wr.heap[g]?) (hk : ∀ b, f 0 ≤ b → b < f k → w4.heap[b]? = wr.heap[b]?) (hsz : wr.heap.size ≤ w4.heap.size) : Fill t z0 z1 z2 O g w4 xs k f := by
  obtain ⟨cur, hcur, hdone, hz⟩ := h.row
  refine ⟨⟨cur, hb.trans hcur, fun j hj hx => ?_, hz⟩, h.mono, h.lo, Nat.le_trans h.hi hsz⟩
  obtain ⟨v0, v1, v2, c0, c1, c2, hO⟩ := hdone j hj hx
  have g1 := h.le (Nat.zero_le j) (by omega)
  have g2 := h.le (show j + 1 ≤ k by omega) (Nat.le_refl _)
  exact ⟨v0, v1, v2, c0, c1, c2, keep hO fun b h1 h2 => hk b (by omega) (by omega)⟩
/-- One more element. -/
theorem Fill.step (keep : ∀ {w w' : World} {lo hi : Nat} {u0 u1 u2 : Value} {x : α}, O w lo hi u0 u1 u2 x → (∀ g, lo ≤ g → g < hi → w'.heap[g]? = w.heap[g]?) → O w' lo hi u0 u1 u2 x)
    (omono : ∀ {w : World} {lo hi lo' hi' : Nat} {u0 u1 u2 : Value} {x : α}, O w lo hi u0 u1 u2 x → lo' ≤ lo → hi ≤ hi' → O w lo' hi' u0 u1 u2 x)
    (h : Fill t z0 z1 z2 O g wr xs k f) (hlt : k < xs.length) (hb : w4.heap[g]? = wr.heap[g]?) (hk : ∀ b, f 0 ≤ b → b < f k → w4.heap[b]? = wr.heap[b]?) (hsz : wr.heap.size ≤ w4.heap.size)
    {u0 u1 u2 : Value} (ha : O w4 wr.heap.size w4.heap.size u0 u1 u2 xs[k]) :
    Fill t z0 z1 z2 O g (((w4.setCell ⟨g, k * 3, none⟩ u0).setCell ⟨g, k * 3 + 1, none⟩ u1).setCell ⟨g, k * 3 + 2, none⟩ u2) xs (k + 1) (fun j => if j ≤ k then f j else w4.heap.size) := by
  have hh := h.hi
  have hlo := h.lo
  have hf : ∀ b, b ≠ g → (((w4.setCell ⟨g, k * 3, none⟩ u0).setCell ⟨g, k * 3 + 1, none⟩ u1).setCell ⟨g, k * 3 + 2, none⟩ u2).heap[b]? = w4.heap[b]? := fun b hne => by
    rw [Below.heap_setCell _ _ _ _ hne, Below.heap_setCell _ _ _ _ hne, Below.heap_setCell _ _ _ _ hne]
  obtain ⟨cur, hcur, hdone, hz⟩ := h.row
  have h4 : Blk w4 g t cur := hb.trans hcur
  have hlast : cur.size > k * 3 + 2 := by
    have := (hz k (Nat.le_refl _) hlt).2.2
    exact (Array.getElem?_eq_some_iff.1 this).1
  refine ⟨⟨_, ((h4.set_ (k * 3) u0).set_ (k * 3 + 1) u1).set_ (k * 3 + 2) u2, fun j hj hx => ?_, fun j hj hx => ?_⟩, fun j hj => ?_, by simp; omega, by rw [if_neg (by omega)]; simp⟩
  · by_cases e : j = k
    · subst e
      refine ⟨u0, u1, u2, ?_, ?_, ?_, ?_⟩
      · simp [Array.getElem?_setIfInBounds]; omega
      · simp [Array.getElem?_setIfInBounds]; omega
      · simp [Array.getElem?_setIfInBounds]; omega
      · rw [if_pos (Nat.le_refl _), if_neg (by omega)]
        exact omono (keep ha fun b h1 _ => hf b (by have := h.le (Nat.zero_le j) (Nat.le_refl _); omega)) hh (Nat.le_refl _)
    · obtain ⟨v0, v1, v2, c0, c1, c2, hO⟩ := hdone j (by omega) hx
      refine ⟨v0, v1, v2, ?_, ?_, ?_, ?_⟩
      · rw [← c0]; simp only [Array.getElem?_setIfInBounds, Array.size_setIfInBounds]; rw [if_neg (by omega), if_neg (by omega), if_neg (by omega)]
      · rw [← c1]; simp only [Array.getElem?_setIfInBounds, Array.size_setIfInBounds]; rw [if_neg (by omega), if_neg (by omega), if_neg (by omega)]
      · rw [← c2]; simp only [Array.getElem?_setIfInBounds, Array.size_setIfInBounds]; rw [if_neg (by omega), if_neg (by omega), if_neg (by omega)]
      · rw [if_pos (by omega), if_pos (by omega)]
        refine keep hO fun b h1 h2 => ?_
        have g1 := h.le (Nat.zero_le j) (by omega)
        have g2 := h.le (show j + 1 ≤ k by omega) (Nat.le_refl _)
        rw [hf b (by omega)]
        exact hk b (by omega) (by omega)
  · obtain ⟨c0, c1, c2⟩ := hz j (by omega) hx
    refine ⟨?_, ?_, ?_⟩
    · rw [← c0]; simp only [Array.getElem?_setIfInBounds, Array.size_setIfInBounds]; rw [if_neg (by omega), if_neg (by omega), if_neg (by omega)]
    · rw [← c1]; simp only [Array.getElem?_setIfInBounds, Array.size_setIfInBounds]; rw [if_neg (by omega), if_neg (by omega), if_neg (by omega)]
    · rw [← c2]; simp only [Array.getElem?_setIfInBounds, Array.size_setIfInBounds]; rw [if_neg (by omega), if_neg (by omega), if_neg (by omega)]
  · by_cases e : j = k
    · subst e
      rw [if_pos (Nat.le_refl _), if_neg (by omega)]
      omega
    · rw [if_pos (by omega), if_pos (by omega)]
      exact h.mono j (by omega)
end

/-- A filled row of literals reads so, and its leaves are once each. -/
theorem Fill.lits {z0 z1 z2 : Value} {g : Nat} {wr : World} {ls : List LLit} {f : Nat → Nat} {c lo hi : Nat} (h : Fill 28 z0 z1 z2 OLit g wr ls ls.length f) (hc : ls.length ≤ c) (hlo : lo ≤ g) (hhi : wr.heap.size ≤ hi) :
    OwnLits wr lo hi (.slice (some ⟨g, 0, none⟩) ls.length c) ls ∧ ∃ ps, LvLits wr lo hi (.slice (some ⟨g, 0, none⟩) ls.length c) ls ps ∧ ps.Nodup ∧ ∀ p ∈ ps, p.block = g ∨ (f 0 ≤ p.block ∧ p.block < wr.heap.size) := by
  obtain ⟨cur, hcur, hdone, _⟩ := h.row
  have hgl := hcur.lt
  have hfl : ∀ j, j < ls.length → f 0 ≤ f j ∧ f (j + 1) ≤ wr.heap.size := fun j hj => ⟨h.le (Nat.zero_le j) (by omega), Nat.le_trans (h.le (show j + 1 ≤ ls.length by omega) (Nat.le_refl _)) h.hi⟩
  have hlo0 := h.lo
  refine ⟨⟨_, c, rfl, hc, fun _ => ⟨g, 0, rfl, hlo, by omega, fun j hj => ?_⟩⟩, ?_⟩
  · obtain ⟨u0, u1, u2, c0, c1, c2, e0, e1, hI⟩ := hdone j hj hj
    have := hfl j hj
    exact ⟨⟨hcur.frozen _, hcur.frozen _⟩, u0, u1, u2, by simpa using (hcur.cell (j * 3)).trans c0, by simpa using (hcur.cell (j * 3 + 1)).trans c1, by simpa using (hcur.cell (j * 3 + 2)).trans c2, e0, e1, hI.mono (by omega) (by omega)⟩
  · rcases Nat.eq_zero_or_pos ls.length with hz | hp
    · refine ⟨[], ⟨_, c, rfl, hc, fun _ => rfl, fun hn => absurd hn (by omega)⟩, List.nodup_nil, fun p hp => by simp at hp⟩
    · have hex : ∀ j, ∃ q : List Addr, ∀ (hj : j < ls.length), ∃ u2, cur[j * 3 + 2]? = some u2 ∧ LvInts wr (f j) (f (j + 1)) u2 ls[j].2.2.length q := fun j => by
        by_cases hj : j < ls.length
        · obtain ⟨u0, u1, u2, c0, c1, c2, e0, e1, hI⟩ := hdone j hj hj
          obtain ⟨q, hq⟩ := hI.leaves
          exact ⟨q, fun _ => ⟨u2, c2, hq⟩⟩
        · exact ⟨[], fun hj' => absurd hj' hj⟩
      obtain ⟨qs, hqs⟩ := Classical.axiomOfChoice hex
      have hblk : ∀ j, j < ls.length → ∀ p ∈ qs j, f j ≤ p.block ∧ p.block < f (j + 1) := fun j hj p hp => by
        obtain ⟨u2, _, hL⟩ := hqs j hj
        exact hL.block hp
      refine ⟨preL (litEl g 0 qs) ls.length, ⟨_, c, rfl, hc, fun hz => absurd hp (by omega), fun _ => ⟨g, 0, qs, rfl, hlo, by omega, rfl, fun j hj => ?_⟩⟩, ?_, fun p hp => ?_⟩
      · obtain ⟨u0, u1, u2, c0, c1, c2, rfl, rfl, hI⟩ := hdone j hj hj
        obtain ⟨u2', c2', hL⟩ := hqs j hj
        have hu : u2 = u2' := Option.some.inj (c2.symm.trans c2')
        subst hu
        have := hfl j hj
        refine ⟨⟨hcur.frozen _, hcur.frozen _⟩, _, _, u2, by simpa using (hcur.cell (j * 3)).trans c0, by simpa using (hcur.cell (j * 3 + 1)).trans c1, by simpa using (hcur.cell (j * 3 + 2)).trans c2, hL.mono (by omega) (by omega)⟩
      · refine preL_nodup_of (fun j hj => ?_) (fun i j hij hj p hpi hpj => ?_)
        · obtain ⟨u2, _, hL⟩ := hqs j hj
          have hb := hblk j hj
          have := hfl j hj
          refine List.nodup_cons.2 ⟨fun hm => ?_, List.nodup_cons.2 ⟨fun hm => ?_, hL.nodup⟩⟩
          · rcases List.mem_cons.1 hm with e | hm
            · injection e with _ e _
              omega
            · have := hb _ hm
              simp at this
              omega
          · have := hb _ hm
            simp at this
            omega
        · have hi := hblk i (by omega)
          have hj' := hblk j hj
          have h1 := hfl i (by omega)
          have h2 := hfl j hj
          have h3 := h.le (show i + 1 ≤ j by omega) (by omega)
          have hcase : ∀ k, ∀ q ∈ litEl g 0 qs k, q = ⟨g, 0 + k * 3, none⟩ ∨ q = ⟨g, 0 + k * 3 + 1, none⟩ ∨ q ∈ qs k := fun k q hq => by
            simpa [litEl] using hq
          rcases hcase i p hpi with rfl | rfl | hpi <;> rcases hcase j _ hpj with e | e | hpj
          · injection e with _ e _; omega
          · injection e with _ e _; omega
          · have := hj' _ hpj; simp at this; omega
          · injection e with _ e _; omega
          · injection e with _ e _; omega
          · have := hj' _ hpj; simp at this; omega
          · have := hi _ hpi; rw [e] at this; simp at this; omega
          · have := hi _ hpi; rw [e] at this; simp at this; omega
          · have := hi _ hpi; have := hj' _ hpj; omega
      · obtain ⟨j, hj, hpj⟩ := mem_preL.1 hp
        have hb := hblk j hj
        have := hfl j hj
        simp only [litEl, List.mem_cons] at hpj
        rcases hpj with rfl | rfl | hpj
        · exact .inl rfl
        · exact .inl rfl
        · have := hb _ hpj
          exact .inr (by omega)

end Go.Proofs.Ytofkcmihcgmmpaa
/-
  The program's renaming: the walks of ruleHasTerms and Renamed.
-/
namespace Go.Proofs.Ytofkcmihcgmmpaa
open Go.RowKit

theorem Blk.last (w : World) (o : Obj) (t : TypeId) (cs : Array Value) : Blk ((w.alloc o).alloc (.cells cs t)).drew (w.heap.size + 1) t cs := by
  have := Blk.new (w.alloc o) t cs
  rw [World.size_alloc] at this
  exact this
theorem Only.al {lo hi : Nat} {w W : World} (h : Only lo hi w W) (o : Obj) : Only lo hi w (W.alloc o) := h.trans (Only.of_below (below1 _ _))
theorem Only.setNew {lo hi : Nat} {w W : World} (h : Only lo hi w W) {p : Addr} (hp : w.heap.size ≤ p.block) (u : Value) : Only lo hi w (W.setCell p u) :=
  ⟨h.os, h.tape, h.output, by simpa using h.size, fun k hk ho => (Below.heap_setCell _ _ _ _ (by omega)).trans (h.block k hk ho)⟩

section
variable {w2 W3 : World} {g m la : Nat} {p : Int} {s0 : Ren} {xs : List Int} {A : Option Addr} {c : Nat}
/-- The row of a new body, before it is filled. -/
abbrev litRow (m : Nat) : Obj := Obj.cells (madeCells #[Value.int IntKind.i64 0, Value.int IntKind.i64 0, Value.slice none 0 0] (m * 3)) 28
abbrev outRow (p : Int) (A : Option Addr) (n c gB m : Nat) : Obj := Obj.cells #[Value.int IntKind.i64 p, Value.slice A n c, Value.slice (some ⟨gB, 0, none⟩) m m] 49
theorem OwnInts.al {w : World} {lo hi : Nat} {v : Value} {ys : List Int} (h : OwnInts w lo hi v ys) (hh : hi ≤ w.heap.size) (o : Obj) : OwnInts (w.alloc o) lo hi v ys := h.below (below1 _ _) hh
theorem OwnInts.set3 {w : World} {lo hi gO : Nat} {v : Value} {ys : List Int} (h : OwnInts w lo hi v ys) (hp : gO < lo) (u0 u1 u2 : Value) : OwnInts (((w.setCell ⟨gO, 0, none⟩ u0).setCell ⟨gO, 1, none⟩ u1).setCell ⟨gO, 2, none⟩ u2) lo hi v ys :=
  ((h.set (p := ⟨gO, 0, none⟩) (.inl hp) _).set (p := ⟨gO, 1, none⟩) (.inl hp) _).set (p := ⟨gO, 2, none⟩) (.inl hp) _
theorem Only.set3 {w W : World} {lo hi gO : Nat} (h : Only lo hi w W) (hp : w.heap.size ≤ gO) (u0 u1 u2 : Value) : Only lo hi w (((W.setCell ⟨gO, 0, none⟩ u0).setCell ⟨gO, 1, none⟩ u1).setCell ⟨gO, 2, none⟩ u2) :=
  ((h.setNew (p := ⟨gO, 0, none⟩) hp _).setNew (p := ⟨gO, 1, none⟩) hp _).setNew (p := ⟨gO, 2, none⟩) hp _
theorem Blk.set3 {w : World} {gO : Nat} {t : TypeId} {v0 v1 v2 : Value} (h : Blk w gO t #[v0, v1, v2]) (u0 u1 u2 : Value) : Blk (((w.setCell ⟨gO, 0, none⟩ u0).setCell ⟨gO, 1, none⟩ u1).setCell ⟨gO, 2, none⟩ u2) gO t #[u0, u1, u2] := by
  simpa using ((h.set_ 0 u0).set_ 1 u1).set_ 2 u2
theorem Blk.far3 {w : World} {g gO : Nat} {t : TypeId} {cs : Array Value} (h : Blk w g t cs) (hp : g ≠ gO) (u0 u1 u2 : Value) : Blk (((w.setCell ⟨gO, 0, none⟩ u0).setCell ⟨gO, 1, none⟩ u1).setCell ⟨gO, 2, none⟩ u2) g t cs :=
  ((h.far (p := ⟨gO, 0, none⟩) hp _).far (p := ⟨gO, 1, none⟩) hp _).far (p := ⟨gO, 2, none⟩) hp _
theorem size_set3 (w : World) (gO : Nat) (u0 u1 u2 : Value) : (((w.setCell ⟨gO, 0, none⟩ u0).setCell ⟨gO, 1, none⟩ u1).setCell ⟨gO, 2, none⟩ u2).heap.size = w.heap.size := by simp
/-- The new rule before it is filled. -/
abbrev ruleRow : Obj := Obj.cells #[Value.int IntKind.i64 0, Value.slice none 0 0, Value.slice none 0 0] 49
end

theorem But2.then_ {w wc wr : World} {g r : Nat} (hb : Below w.heap.size w wc) (h : But2 g r wc wr) (h1 : w.heap.size ≤ g) (h2 : w.heap.size ≤ r) : Below w.heap.size w wr :=
  hb.trans ⟨h.os, h.tape, h.output, h.size, fun k hk => h.block k (Nat.lt_of_lt_of_le hk hb.size) (by omega) (by omega)⟩
theorem But2.trans {w wc wr : World} {g r : Nat} (h : But2 g r w wc) (k : But2 g r wc wr) : But2 g r w wr :=
  ⟨k.os.trans h.os, k.tape.trans h.tape, k.output.trans h.output, Nat.le_trans h.size k.size, fun b hb h1 h2 => (k.block b (Nat.lt_of_lt_of_le hb h.size) h1 h2).trans (h.block b hb h1 h2)⟩
theorem But2.of_below {w w' : World} {g r : Nat} (h : Below w.heap.size w w') : But2 g r w w' := ⟨h.os, h.tape, h.output, h.size, fun k hk _ _ => h.block k hk⟩
theorem But2.set3 {g r a b c : Nat} {w w1 : World} (h : But2 g r w w1) (u0 u1 u2 : Value) : But2 g r w (((w1.setCell ⟨r, a, none⟩ u0).setCell ⟨r, b, none⟩ u1).setCell ⟨r, c, none⟩ u2) := ((h.set u0).set u1).set u2
theorem renBody_count : ∀ (ls : List LLit) (s : Ren), (renBody s ls).2 ≤ s.2 + totL ls
  | [], s => by simp [renBody]
  | l :: ls, s => by
    have h1 := renBody_count ls (renList s l.2.2)
    have h2 := renList_count l.2.2 s
    show (renBody (renList s l.2.2) ls).2 ≤ _
    simp only [totL, List.map_cons, List.sum_cons] at h1 ⊢
    omega
theorem totL_take_le (ls : List LLit) (k : Nat) : totL (ls.take k) ≤ totL ls := by
  have := congrArg (fun l => (l.map fun l : LLit => l.2.2.length).sum) (List.take_append_drop k ls)
  simp only [List.map_append, List.sum_append] at this
  unfold totL
  omega
theorem renLits_at {s : Ren} {ls xs : List LLit} (hxs : xs = renLits s ls) {k : Nat} (h : k < ls.length) (h' : k < xs.length) : xs[k] = (ls[k].1, ls[k].2.1, renOut (renBody s (ls.take k)) ls[k].2.2) := by
  subst hxs
  have e1 : ls.getD k (0, (0, [])) = ls[k] := by simp [h]
  simp [renLits, h]

theorem LvLits.length {w : World} {lo hi : Nat} {v : Value} {ls : List LLit} {ps : List Addr} (h : LvLits w lo hi v ls ps) : ps.length = 2 * ls.length + totL ls := by
  obtain ⟨A, c, rfl, hc, h0, h⟩ := h
  rcases Nat.eq_zero_or_pos ls.length with hz | hp
  · rw [h0 hz, List.eq_nil_of_length_eq_zero hz]
    simp [totL]
  · obtain ⟨b, o, qs, rfl, h1, h2, rfl, hx⟩ := h hp
    have : ∀ j, j ≤ ls.length → (preL (litEl b o qs) j).length = 2 * j + totL (ls.take j) := by
      intro j
      induction j with
      | zero => intro _; simp [preL_zero, totL]
      | succ j ih =>
        intro hj
        obtain ⟨_, x, y, u2, _, _, _, hI⟩ := hx j (by omega)
        rw [preL_succ, List.length_append, ih (by omega), litEl_len hI, totL_take ls j (by omega)]
        omega
    have := this ls.length (Nat.le_refl _)
    rwa [List.take_length] at this
theorem LvRule.length {w : World} {lo hi : Nat} {v : Value} {r : LRule} {ps : List Addr} (h : LvRule w lo hi v r ps) : ps.length ≤ 2 * szR r := by
  obtain ⟨p, a, b, qs, rs, rfl, rfl, ⟨_, _, _, _, hl, _⟩, h2⟩ := h
  rw [List.length_append, hl, h2.length]
  unfold szR
  omega

end Go.Proofs.Ytofkcmihcgmmpaa
/-
  A row of literals that grows: the words; the specification's renaming: the walk of l2Rule.
-/
namespace Go.Proofs.Ytofkcmihcgmmpaa
open Go.RowKit

/-- The cells of literals, a literal's three behind each other. -/
def flatL : List LLit → List Value → List Value
  | l :: ls, u :: us => .int .i64 l.1 :: .int .i64 l.2.1 :: u :: flatL ls us
  | _, _ => []
theorem flatL_length : ∀ (ls : List LLit) (us : List Value), us.length = ls.length → (flatL ls us).length = ls.length * 3
  | [], _, _ => by simp [flatL]
  | l :: ls, [], h => by simp at h
  | l :: ls, u :: us, h => by
    have := flatL_length ls us (by simpa using h)
    simp only [flatL, List.length_cons, this]
    omega
theorem flatL_at : ∀ (ls : List LLit) (us : List Value) (_ : us.length = ls.length) (k : Nat) (hk : k < ls.length) (hk' : k < us.length),
    (flatL ls us)[k * 3]? = some (.int .i64 ls[k].1) ∧ (flatL ls us)[k * 3 + 1]? = some (.int .i64 ls[k].2.1) ∧ (flatL ls us)[k * 3 + 2]? = some us[k]
  | [], _, _, k, hk, _ => absurd hk (by simp)
  | l :: ls, [], h, _, _, _ => by simp at h
  | l :: ls, u :: us, h, 0, _, _ => by simp [flatL]
  | l :: ls, u :: us, h, k + 1, hk, hk' => by
    have := flatL_at ls us (by simpa using h) k (by simpa using hk) (by simpa using hk')
    simpa [flatL, Nat.add_mul] using this
theorem flatL_snoc : ∀ (ls : List LLit) (us : List Value) (_ : us.length = ls.length) (l : LLit) (u : Value), flatL (ls ++ [l]) (us ++ [u]) = flatL ls us ++ [.int .i64 l.1, .int .i64 l.2.1, u]
  | [], [], _, l, u => by simp [flatL]
  | [], u' :: us, h, _, _ => by simp at h
  | l :: ls, [], h, _, _ => by simp at h
  | l :: ls, u :: us, h, m, b => by simp [flatL, flatL_snoc ls us (by simpa using h) m b]

/-- A row of literals of the call's own that grows, with its rows of integers us, in blocks from base on. -/
structure ColL (base : Nat) (wr : World) (ls : List LLit) (A : Option Addr) (c : Nat) (us : List Value) : Prop where
  len : us.length = ls.length
  own : ∀ i (h : i < ls.length) (h' : i < us.length), OwnInts wr base wr.heap.size us[i] ls[i].2.2
  row : wr.ownsRow base 28 3 (.slice A ls.length c) ls.length (flatL ls us)
section
variable {base : Nat} {wr w2 w4 : World} {ls : List LLit} {A : Option Addr} {c : Nat} {us : List Value}
theorem ColL.nil (base : Nat) (w : World) : ColL base w [] none 0 [] := ⟨rfl, fun i h => absurd h (by simp), by simpa [flatL] using World.ownsRow_nil w base 28 3⟩
theorem ColL.below (h : ColL base wr ls A c us) (hb : Below wr.heap.size wr w2) : ColL base w2 ls A c us :=
  ⟨h.len, fun i h1 h2 => ((h.own i h1 h2).below hb (Nat.le_refl _)).mono (Nat.le_refl _) hb.size, ownsRow_only h.row fun g hg => hb.block g (h.row.lt g hg).2⟩
theorem int_ne_lit {n : Nat} {v a : Value} {zs : List Value} {xs : List Int} {lo hi g : Nat} (hr : wr.ownsRow base 28 3 v n zs) (hv : v.ownBlock = some g) (ha : OwnInts wr lo hi a xs) : a.ownBlock ≠ some g := by
  rcases hr.2 with ⟨rfl, _⟩ | ⟨g1, c1, cur1, rfl, _, h1, _⟩
  · cases hv
  · have e : g1 = g := by simpa [Value.ownBlock] using hv
    subst e
    rcases ha.1.2 with ⟨rfl, _⟩ | ⟨g2, c2, cur2, rfl, _, h2, _⟩
    · simp [Value.ownBlock]
    · intro e
      have e : g2 = g1 := by simpa [Value.ownBlock] using e
      subst e
      rw [h1] at h2
      injection h2 with h2
      injection h2 with _ h2
      exact absurd h2 (by decide)
/-- One more literal. -/
theorem ColL.push {l : LLit} {u : Value} {g cap : Nat} {o : Obj} (h : ColL base wr ls A c us) (hb : Below wr.heap.size wr w2) (hu : OwnInts w2 base w2.heap.size u l.2.2)
    (hg : (w2.alloc o).grownBy w4 (Value.slice A ls.length c).ownBlock) (hown : w4.ownsRow base 28 3 (.slice (some ⟨g, 0, none⟩) (ls.length + 1) cap) (ls.length + 1) (flatL ls us ++ [.int .i64 l.1, .int .i64 l.2.1, u])) :
    ColL base w4 (ls ++ [l]) (some ⟨g, 0, none⟩) cap (us ++ [u]) := by
  have h2 := h.below hb
  have hg2 := grown_from_alloc hg
  have hl : (ls ++ [l]).length = ls.length + 1 := by simp
  have keep : ∀ {v : Value} {xs : List Int}, OwnInts w2 base w2.heap.size v xs → OwnInts w4 base w4.heap.size v xs := fun {v xs} hv =>
    (hv.kept (fun b hb' => hg2.block b (hv.lt hb').2.2 (fun e => int_ne_lit h2.row e.symm hv hb'))).mono (Nat.le_refl _) hg2.size
  refine ⟨by simp [h.len], fun i h1 h3 => ?_, ?_⟩
  · by_cases e : i < ls.length
    · have e' : i < us.length := by rw [h.len]; exact e
      rw [List.getElem_append_left e', List.getElem_append_left e]
      exact keep (h2.own i e e')
    · have e2 : i = ls.length := by simp at h1; omega
      subst e2
      simp [← h.len]
      simpa using keep hu
  · rw [hl, flatL_snoc ls us h.len]
    exact hown
theorem ColL.lits (h : ColL base wr ls A c us) (hn : ls.length ≤ c) : OwnLits wr base wr.heap.size (.slice A ls.length c) ls := by
  have hcells := @World.ownsRow.cells wr base 28 3 (.slice A ls.length c) ls.length (flatL ls us) h.row
  have hlt := h.row.lt
  have hl := h.len
  refine ⟨A, c, rfl, hn, fun hpos => ?_⟩
  rcases h.row.2 with ⟨e, h0⟩ | ⟨g, cap, cur, e, hb, hgg, _⟩
  · omega
  · injection e with e1 _ e3
    subst e1
    refine ⟨g, 0, rfl, hb, (hlt g rfl).2, fun k hk => ⟨⟨by simp [World.frozen?, hgg], by simp [World.frozen?, hgg]⟩, ?_⟩⟩
    obtain ⟨c0, c1, c2⟩ := flatL_at ls us hl k hk (by omega)
    have d0 := hcells (g := g) rfl _ _ c0
    have d1 := hcells (g := g) rfl _ _ c1
    have d2 := hcells (g := g) rfl _ _ c2
    rw [Go.WideShapes.add_plain] at d0 d1 d2
    exact ⟨_, _, _, d0, d1, d2, rfl, rfl, h.own k hk (by omega)⟩
theorem ColL.set {p : Addr} (h : ColL base wr ls A c us) (hp : p.block < base) (u : Value) : ColL base (wr.setCell p u) ls A c us :=
  ⟨h.len, fun i h1 h2 => ((h.own i h1 h2).set (.inl hp) u).mono (Nat.le_refl _) (by simp), ownsRow_only h.row fun g hg => Below.heap_setCell _ _ _ _ (by have := (h.row.lt g hg).1; omega)⟩
theorem ColL.cap (h : ColL base wr ls A c us) : ls.length ≤ c := by
  rcases h.row.2 with ⟨e, h0⟩ | ⟨g, cap, cur, e, hb, hgg, hn, _⟩
  · injection e with _ _ e
    omega
  · injection e with _ _ e
    omega
end

end Go.Proofs.Ytofkcmihcgmmpaa
/-
  A body drawn: rows of literals of the call's own that grow; the walk of l2Body.
-/
namespace Go.Proofs.Ytofkcmihcgmmpaa
open Go.RowKit

/-- The kinds of literals are kinds. -/
def KindsOk (ls : List LLit) : Prop := ∀ l ∈ ls, 0 ≤ l.1 ∧ l.1 ≤ 3 ∧ ∀ t ∈ l.2.2, -4 ≤ t ∧ t ≤ 5
theorem KindsOk.nil : KindsOk [] := fun l h => absurd h (by simp)
theorem KindsOk.snoc {ls : List LLit} {l : LLit} (h : KindsOk ls) (hl : 0 ≤ l.1 ∧ l.1 ≤ 3 ∧ ∀ t ∈ l.2.2, -4 ≤ t ∧ t ≤ 5) : KindsOk (ls ++ [l]) := fun m hm => by
  rcases List.mem_append.1 hm with hm | hm
  · exact h m hm
  · rw [List.mem_singleton.1 hm]; exact hl
theorem KindsOk.one {l : LLit} (hl : 0 ≤ l.1 ∧ l.1 ≤ 3 ∧ ∀ t ∈ l.2.2, -4 ≤ t ∧ t ≤ 5) : KindsOk [l] := KindsOk.snoc KindsOk.nil hl
/-- What a draw of literals keeps: the row and the atoms' rows lie from w on, the reader is read on. -/
structure DrL (w wr : World) (g : Nat) (bs : List Nat) (q : Nat) (A : Option Addr) (c : Nat) (ls : List LLit) (us : List Value) : Prop where
  col : ColL w.heap.size wr ls A c us
  kinds : KindsOk ls
  rdr : Rdr wr g bs q
  only : Only g (g + 1) w wr
section
variable {w wr w' w4 : World} {g q : Nat} {bs : List Nat} {A : Option Addr} {c : Nat} {ls : List LLit} {us : List Value}
theorem ColL.onlyG {base : Nat} (h : ColL base wr ls A c us) (ho : Only g (g + 1) wr w') (hg : g < base) : ColL base w' ls A c us :=
  ⟨h.len, fun i h1 h2 => ((h.own i h1 h2).only ho (.inr (by omega))).mono (Nat.le_refl _) ho.size, ownsRow_only h.row fun b hb => ho.block b (h.row.lt b hb).2 (by have := (h.row.lt b hb).1; omega)⟩
theorem ColL.empty {w : World} : ColL w.heap.size (w.alloc (.cells #[] 28)) [] (some ⟨w.heap.size, 0, none⟩) 0 [] :=
  ⟨rfl, fun i h => absurd h (by simp), World.ownsRow_made w #[] 0 (Nat.le_refl _) (by decide) rfl⟩
theorem DrL.empty (h : Rdr w g bs q) : DrL w (w.alloc (.cells #[] 28)) g bs q (some ⟨w.heap.size, 0, none⟩) 0 [] [] :=
  ⟨ColL.empty, KindsOk.nil, h.below (below1 _ _) h.lt, Only.of_below (below1 _ _)⟩
theorem DrL.go (h : DrL w wr g bs q A c ls us) (hg : g < w.heap.size) {q' : Nat} (hr : Rdr w' g bs q') (ho : Only g (g + 1) wr w') : DrL w w' g bs q' A c ls us :=
  ⟨h.col.onlyG ho hg, h.kinds, hr, h.only.trans ho⟩
theorem DrL.push {g2 cap : Nat} {l : LLit} {u : Value} {o : Obj} (h : DrL w wr g bs q A c ls us) (hkd : 0 ≤ l.1 ∧ l.1 ≤ 3 ∧ ∀ t ∈ l.2.2, -4 ≤ t ∧ t ≤ 5) (hgw : g < w.heap.size) (hu : OwnInts wr w.heap.size wr.heap.size u l.2.2) (hg : (wr.alloc o).grownBy w4 (Value.slice A ls.length c).ownBlock)
    (hown : w4.ownsRow w.heap.size 28 3 (.slice (some ⟨g2, 0, none⟩) (ls.length + 1) cap) (ls.length + 1) (flatL ls us ++ [.int .i64 l.1, .int .i64 l.2.1, u])) : DrL w w4 g bs q (some ⟨g2, 0, none⟩) cap (ls ++ [l]) (us ++ [u]) := by
  have hg2 := grown_from_alloc hg
  have hlow : ∀ b, b < w.heap.size → w4.heap[b]? = wr.heap[b]? := fun b hb => hg2.block b (by have := h.only.size; omega) (fun e => by have := (h.col.row.lt b e.symm).1; omega)
  exact ⟨h.col.push (Below.refl _ _) hu hg hown, h.kinds.snoc hkd, h.rdr.same fun k hk => hlow k (by omega), ⟨hg2.os.trans h.only.os, hg2.tape.trans h.only.tape, hg2.output.trans h.only.output, Nat.le_trans h.only.size hg2.size, fun b hb hn => (hlow b hb).trans (h.only.block b hb hn)⟩⟩
end

/-- A row of two numbers that a call lays. -/
theorem own_two (w : World) (base : Nat) (x y : Int) (hb : base ≤ w.heap.size) : OwnInts (w.alloc (.cells #[.int .i64 x, .int .i64 y] 3)) base (w.heap.size + 1) (.slice (some ⟨w.heap.size, 0, none⟩) 2 2) [x, y] :=
  OwnInts.of_rowIs (xs := [x, y]) (World.rowIs_alloc w #[.int .i64 x, .int .i64 y] 3 (fun j => .int .i64 ([x, y].getD j 0)) (fun i hi => by
    match i, hi with
    | 0, _ => rfl
    | 1, _ => rfl)) hb (Nat.lt_succ_self _) (by show 2 ≤ maxLen; unfold maxLen; omega)
theorem totL_snoc (ls : List LLit) (l : LLit) : totL (ls ++ [l]) = totL ls + l.2.2.length := by simp [totL]

set_option maxHeartbeats 4000000 in
set_option maxRecDepth 100000 in
theorem l2Body_any (g : Nat) (bs : List Nat) (p lo hi n : Nat) (no : Int) (v : Value) (ar : List Int) (w : World) (h : Rdr w g bs p) (hp : p ≤ 1048500) (ha : OwnInts w lo hi v ar) (hg : g < lo) (hh : hi ≤ w.heap.size) (hr : ∀ x ∈ ar, 0 ≤ x ∧ x ≤ 2) (h0 : 0 < ar.length) (hl : ar.length ≤ 1048576) (hn : n ≤ 3) :
    Calls Try.prog 59 #[.pointer (some ⟨g, 0, none⟩), v, .int .i64 n, .int .i64 no] w fun e w' => ∃ (A : Option Addr) (c : Nat) (ls : List LLit) (us : List Value) (q : Nat), e = .returned (.slice A ls.length c) ∧ ls.length ≤ 4 ∧ totL ls ≤ 8 ∧ q ≤ p + 40 ∧ DrL w w' g bs q A c ls us := by
  obtain ⟨i0, hi0, hz0, hz1, hz2⟩ := info_parts Try.infoLit
  have H := Lib.hid h
  have hgl := h.lt
  have HA := Lib.hid ha
  have HRG := Lib.hid hr
  obtain ⟨A0, c0, hv0⟩ := ha.form
  subst hv0
  clear h ha hr
  have CD := Lib.hid (fun (W : World) (q j : Nat) (hR : Rdr W g bs q) (hq : q ≤ 1048576) (hO : Only g (g + 1) w W) (hj : j < ar.length) => l2Draw_any g bs q lo hi j ar[j].toNat n (.slice A0 ar.length c0) ar W hR hq (HA.out.only hO (.inr (by omega))) hg (Nat.le_trans hh hO.size) hj (by have := HRG.out _ (List.getElem_mem hj); omega) (by have := HRG.out _ (List.getElem_mem hj); omega) hl hn)
  go_enter Try.func59, Try.ntmps59
  go_wp2_with (fail)
  have H1 := Lib.hid (DrL.empty H.out)
  refine (pick_any g bs p 2 _ H1.out.rdr (by omega) (by omega)).mono ?_
  rintro e w2 ⟨⟨x, rfl, hx⟩, hp2⟩
  have hxr : 0 ≤ x ∧ x < 2 := hx.1 (by omega)
  have hw1 : IntKind.i64.wrap (1 + x) = 1 + x := by
    unfold IntKind.wrap
    simp [IntKind.bits, IntKind.signed] <;> omega
  obtain ⟨i, hi1⟩ : ∃ i : Nat, 1 + x = (i : Int) := ⟨(1 + x).toNat, by omega⟩
  have hi2 : i ≤ 2 := by omega
  have H2 := Lib.hid (H1.out.go hgl hp2.1 hp2.2)
  have HI := Lib.hid hi1
  clear hp2 hx
  go_wp2_with (fail)
  obtain ⟨b0, hb0⟩ : ∃ b0, b0 = w.heap.size := ⟨_, rfl⟩
  rw [← hb0] at H2
  go_loopw [9, 10] (fun o i wr => ∃ (k : Nat) (A' : Option Addr) (c' : Nat) (ls : List LLit) (us : List Value) (q : Nat), k ≤ 2 ∧ i = .int .i64 k ∧ ls.length + k ≤ 2 ∧ totL ls ≤ 2 * ls.length ∧ q + 7 * k ≤ p + 15 ∧ o = .slice A' ls.length c' ∧ DrL w wr g bs q A' c' ls us) (fun _ i _ => (intOf i).toNat)
  case atStart => exact ⟨i, some ⟨b0, 0, none⟩, 0, [], [], p + 1, hi2, rfl, by simp; omega, by simp [totL], by omega, by rw [hb0]; rfl, H2.out⟩
  case round =>
    obtain ⟨k, A', c', ls, us, q, hk, rfl, hll, htl, hq, rfl, hr⟩ := hrel
    have HR := Lib.hid hr
    have hszr0 := hr.only.size
    clear hr
    by_cases hlt : 0 < k
    · obtain ⟨k, rfl⟩ : ∃ k', k = k' + 1 := ⟨k - 1, by omega⟩
      go_wp2_with (fail)
      refine (pick_any g bs q ar.length _ HR.out.rdr (by omega) (by omega)).mono ?_
      rintro e wpa ⟨⟨ja, rfl, hja⟩, hpa⟩
      have hjar : 0 ≤ ja ∧ ja < ar.length := hja.1 (by omega)
      obtain ⟨ja, rfl⟩ : ∃ j : Nat, ja = (j : Int) := ⟨ja.toNat, by omega⟩
      have Hpa := Lib.hid (HR.out.go hgl hpa.1 hpa.2)
      clear hpa hja
      go_wp2_with (fail)
      refine (CD.out wpa (q + 1) ja Hpa.out.rdr (by omega) Hpa.out.only (by omega)).mono ?_
      rintro e wda ⟨Ada, cda, xsa, qda, rfl, ⟨hxsa, hxta⟩, hqda, hoda, hrda, hOda⟩
      have hszpa := Hpa.out.only.size
      have Hda := Lib.hid (And.intro (Hpa.out.go hgl hrda hOda) (hoda.mono (show w.heap.size ≤ wpa.heap.size by omega) (Nat.le_refl _)))
      have hszda := Hda.out.1.only.size
      have HXTa := Lib.hid hxta
      clear hoda hrda hOda hxta
      go_wp2_with (at_builtin; refine wpList_append_lies _ rfl (.tmp 20) (.tmp 30) 47 rfl w.heap.size 28 i0 (.agg #[.int .i64 0, .int .i64 0, .slice none 0 0]) 3 40 Try.underlying47 hi0 hz0 hz1 hz2 rfl (by decide) (.slice A' ls.length c') ls.length (flatL ls us) rfl ?c1 ⟨_, 0, none⟩ 1 1 [.int .i64 0, .int .i64 ja, .slice Ada xsa.length cda] rfl rfl (World.news_of_block (cs := #[.int .i64 0, .int .i64 ja, .slice Ada xsa.length cda]) (heap_alloc_new wda _)) ?c2 (by omega) (by unfold maxLen; omega) (by omega) ?c3 _ rfl ?_)
      case c1 => exact Hda.out.1.col.row.alloc _
      case c2 => intro u hu; simp at hu; rcases hu with rfl | rfl | rfl <;> rfl
      case c3 => simp; omega
      intro ga capa w9a howna hgra _ _
      have HCa := Lib.hid (Hda.out.1.push (l := (0, ((ja : Int), xsa))) ⟨Int.le_refl 0, (by decide : (0 : Int) ≤ 3), HXTa.out⟩ hgl Hda.out.2 hgra howna)
      obtain ⟨lsa, hlsa⟩ : ∃ ls2, ls2 = ls ++ [((0 : Int), ((ja : Int), xsa))] := ⟨_, rfl⟩
      obtain ⟨usa, husa⟩ : ∃ us2, us2 = us ++ [Value.slice Ada xsa.length cda] := ⟨_, rfl⟩
      have hlea : ls.length + 1 = lsa.length := by rw [hlsa]; simp
      have htla : totL lsa ≤ totL ls + 2 := by rw [hlsa, totL_snoc]; show totL ls + xsa.length ≤ _; omega
      have hlla : lsa.length ≤ ls.length + 1 := by omega
      have hlma : ls.length + 1 ≤ lsa.length := by omega
      rw [hlea]
      rw [← hlsa, ← husa] at HCa
      clear howna hgra hlsa husa hlea
      go_wp2_with (fail)
      go_roundw
      case rel => exact ⟨k, _, _, lsa, usa, qda, by omega, by go_num, by omega, by omega, by omega, rfl, HCa.out⟩
      case measure => simp [intOf]
    · have hk0 : k = 0 := by omega
      subst hk0
      go_wp2_with (fail)
      refine (pick_any g bs q 4 _ HR.out.rdr (by omega) (by omega)).mono ?_
      rintro e wf ⟨⟨y, rfl, _⟩, hpf⟩
      have HF := Lib.hid (HR.out.go hgl hpf.1 hpf.2)
      have hszf := HF.out.only.size
      clear hpf
      by_cases hy : y < no
      · have hyb : decide (y < no) = true := by simpa using hy
        clear hy
        obtain ⟨q, hqq⟩ : ∃ q', q' = q + 1 := ⟨_, rfl⟩
        rw [← hqq] at HF
        have hq1 : q ≤ p + 16 := by omega
        clear hqq
        go_wp2_with (fail)
        refine (pick_any g bs q ar.length _ HF.out.rdr (by omega) (by omega)).mono ?_
        rintro e wpb ⟨⟨jb, rfl, hjb⟩, hpb⟩
        have hjbr : 0 ≤ jb ∧ jb < ar.length := hjb.1 (by omega)
        obtain ⟨jb, rfl⟩ : ∃ j : Nat, jb = (j : Int) := ⟨jb.toNat, by omega⟩
        have Hpb := Lib.hid (HF.out.go hgl hpb.1 hpb.2)
        clear hpb hjb
        go_wp2_with (fail)
        refine (CD.out wpb (q + 1) jb Hpb.out.rdr (by omega) Hpb.out.only (by omega)).mono ?_
        rintro e wdb ⟨Adb, cdb, xsb, qdb, rfl, ⟨hxsb, hxtb⟩, hqdb, hodb, hrdb, hOdb⟩
        have hszpb := Hpb.out.only.size
        have Hdb := Lib.hid (And.intro (Hpb.out.go hgl hrdb hOdb) (hodb.mono (show w.heap.size ≤ wpb.heap.size by omega) (Nat.le_refl _)))
        have hszdb := Hdb.out.1.only.size
        have HXTb := Lib.hid hxtb
        clear hodb hrdb hOdb hxtb
        go_wp2_with (at_builtin; refine wpList_append_lies _ rfl (.tmp 36) (.tmp 46) 47 rfl w.heap.size 28 i0 (.agg #[.int .i64 0, .int .i64 0, .slice none 0 0]) 3 40 Try.underlying47 hi0 hz0 hz1 hz2 rfl (by decide) (.slice A' ls.length c') ls.length (flatL ls us) rfl ?c1 ⟨_, 0, none⟩ 1 1 [.int .i64 1, .int .i64 jb, .slice Adb xsb.length cdb] rfl rfl (World.news_of_block (cs := #[.int .i64 1, .int .i64 jb, .slice Adb xsb.length cdb]) (heap_alloc_new wdb _)) ?c2 (by omega) (by unfold maxLen; omega) (by omega) ?c3 _ rfl ?_)
        case c1 => exact Hdb.out.1.col.row.alloc _
        case c2 => intro u hu; simp at hu; rcases hu with rfl | rfl | rfl <;> rfl
        case c3 => simp; omega
        intro gb capb w9b hownb hgrb _ _
        have HCb := Lib.hid (Hdb.out.1.push (l := (1, ((jb : Int), xsb))) ⟨(by decide : (0 : Int) ≤ 1), (by decide : (1 : Int) ≤ 3), HXTb.out⟩ hgl Hdb.out.2 hgrb hownb)
        obtain ⟨lsb, hlsb⟩ : ∃ ls2, ls2 = ls ++ [((1 : Int), ((jb : Int), xsb))] := ⟨_, rfl⟩
        obtain ⟨usb, husb⟩ : ∃ us2, us2 = us ++ [Value.slice Adb xsb.length cdb] := ⟨_, rfl⟩
        have hleb : ls.length + 1 = lsb.length := by rw [hlsb]; simp
        have htlb : totL lsb ≤ totL ls + 2 := by rw [hlsb, totL_snoc]; show totL ls + xsb.length ≤ _; omega
        have hllb : lsb.length ≤ ls.length + 1 := by omega
        have hlmb : ls.length + 1 ≤ lsb.length := by omega
        rw [hleb]
        rw [← hlsb, ← husb] at HCb
        clear hownb hgrb hlsb husb hleb
        go_wp2_with (fail)
        refine (pick_any g bs qdb 6 _ HCb.out.rdr (by omega) (by omega)).mono ?_
        rintro e wtb ⟨⟨yb, rfl, _⟩, hptb⟩
        have Htb := Lib.hid (HCb.out.go hgl hptb.1 hptb.2)
        have hsztb := Htb.out.only.size
        clear hptb
        by_cases hyb : yb = 0
        · have hyb : (yb == 0) = true := by simp [hyb]
          clear hyb
          go_wp2_with (fail)
          have Hu := Lib.hid (Htb.out.go hgl (Htb.out.rdr.below (below1 wtb (.cells #[.int .i64 2, .int .i64 3] 3)) Htb.out.rdr.lt) (Only.of_below (below1 wtb (.cells #[.int .i64 2, .int .i64 3] 3))))
          refine (num_any g bs (qdb + 1) _ _ [2, 3] 2 _ Hu.out.rdr (by omega) (Blk.new _ _ _) rfl (by omega) rfl (by simp) (by simp)).mono ?_
          rintro e wk ⟨⟨kd, rfl, hkd⟩, hpk⟩
          have HKD := Lib.hid (show 0 ≤ kd ∧ kd ≤ 3 by simp only [List.mem_cons, List.not_mem_nil, or_false] at hkd; omega)
          clear hkd
          have Hk := Lib.hid (Hu.out.go hgl hpk.1 hpk.2)
          have hszk := Hk.out.only.size
          clear hpk
          go_wp2_with (fail)
          have Hv := Lib.hid (Hk.out.go hgl (Hk.out.rdr.below (below1 wk (.cells #[.int .i64 1, .int .i64 (-2), .int .i64 2] 3)) Hk.out.rdr.lt) (Only.of_below (below1 wk (.cells #[.int .i64 1, .int .i64 (-2), .int .i64 2] 3))))
          refine (num_any g bs (qdb + 1 + 1) _ _ [1, -2, 2] 3 _ Hv.out.rdr (by omega) (Blk.new _ _ _) rfl (by omega) rfl (by simp) (by simp)).mono ?_
          rintro e wn ⟨⟨z, rfl, hz⟩, hpn⟩
          have HZT := Lib.hid (show ∀ t ∈ [(-1 : Int), z], -4 ≤ t ∧ t ≤ 5 from fun t ht => by simp only [List.mem_cons, List.not_mem_nil, or_false] at ht hz; omega)
          clear hz
          have Hn := Lib.hid (Hv.out.go hgl hpn.1 hpn.2)
          have hszn := Hn.out.only.size
          clear hpn
          go_upto_region 10 with (fail)
          obtain ⟨wr, hwr⟩ : ∃ wr, wr = wn.alloc (.cells #[.int .i64 (-1), .int .i64 z] 3) := ⟨_, rfl⟩
          have ho2 : OwnInts wr w.heap.size (wn.heap.size + 1) (.slice (some ⟨wn.heap.size, 0, none⟩) 2 2) [-1, z] := by rw [hwr]; exact own_two wn _ (-1) z hszn
          have br : Below wn.heap.size wn wr := by rw [hwr]; exact below1 _ _
          have hsze : wr.heap.size = wn.heap.size + 1 := by rw [hwr]; simp
          rw [← hwr]
          clear hwr
          obtain ⟨wx, hwx⟩ : ∃ wx, wx = wr.alloc (.cells #[.int .i64 kd, .int .i64 0, .slice (some ⟨wn.heap.size, 0, none⟩) 2 2] 28) := ⟨_, rfl⟩
          have hwrs : wr.heap.size = wn.heap.size + 1 := hsze
          have ox : Blk wx (wn.heap.size + 1) 28 #[.int .i64 kd, .int .i64 0, .slice (some ⟨wn.heap.size, 0, none⟩) 2 2] := by rw [hwx, ← hwrs]; exact Blk.new _ _ _
          have bx : Below wr.heap.size wr wx := by rw [hwx]; exact below1 _ _
          have hszx : wr.heap.size ≤ wx.heap.size := bx.size
          have hszr : wn.heap.size ≤ wr.heap.size := br.size
          have bnx : Below wn.heap.size wn wx := bthen br bx
          have HX := Lib.hid ((Hn.out.go hgl (Hn.out.rdr.below bnx Hn.out.rdr.lt) (Only.of_below bnx)))
          have HO2 := Lib.hid ((ho2.below bx (Nat.le_of_eq hwrs.symm)).mono (Nat.le_refl _) (show wn.heap.size + 1 ≤ wx.heap.size by omega))
          have x0 : wx.cell? ⟨wn.heap.size + 1, 0, none⟩ = some (.int .i64 kd) := ox.cell 0
          have x1 : wx.cell? ⟨wn.heap.size + 1, 1, none⟩ = some (.int .i64 0) := ox.cell 1
          have x2 : wx.cell? ⟨wn.heap.size + 1, 2, none⟩ = some (.slice (some ⟨wn.heap.size, 0, none⟩) 2 2) := ox.cell 2
          rw [← hwx]
          clear hwx hwrs hsze ox bx bnx br ho2
          go_wp2_with (at_builtin; refine wpList_append_lies _ rfl (.tmp 60) (.tmp 62) 47 rfl w.heap.size 28 i0 (.agg #[.int .i64 0, .int .i64 0, .slice none 0 0]) 3 40 Try.underlying47 hi0 hz0 hz1 hz2 rfl (by decide) (.slice _ lsb.length _) lsb.length (flatL lsb usb) rfl ?d1 ⟨_, 0, none⟩ 1 1 [.int .i64 kd, .int .i64 0, .slice (some ⟨wn.heap.size, 0, none⟩) 2 2] rfl rfl (World.news_of_block (cs := #[.int .i64 kd, .int .i64 0, .slice (some ⟨wn.heap.size, 0, none⟩) 2 2]) (heap_alloc_new wx _)) ?d2 (by omega) (by unfold maxLen; omega) (by omega) ?d3 _ rfl ?_)
          case d1 => exact HX.out.col.row.alloc _
          case d2 => intro u hu; simp at hu; rcases hu with rfl | rfl | rfl <;> rfl
          case d3 => simp; omega
          intro gz capz wz hownz hgrz _ _
          have HZ := Lib.hid (HX.out.push (l := (kd, ((0 : Int), [(-1 : Int), z]))) ⟨HKD.out.1, HKD.out.2, HZT.out⟩ hgl HO2.out hgrz hownz)
          have htz := totL_snoc lsb (kd, ((0 : Int), [(-1 : Int), z]))
          simp only [List.length_cons, List.length_nil] at htz
          have HT := Lib.hid htz
          clear htz hownz hgrz
          go_wp2_with (fail)
          go_ret
          exact ⟨_, _, _, _, _, (by rw [List.length_append]; rfl), (by rw [List.length_append]; show lsb.length + 1 ≤ 4; omega), (by have := HT.out; omega), by omega, HZ.out⟩
        · have hyb : (yb == 0) = false := by simp [hyb]
          clear hyb
          go_wp2_with (fail)
          go_ret
          exact ⟨_, _, lsb, usb, _, rfl, by omega, by omega, by omega, Htb.out⟩
      · have hyb : decide (y < no) = false := by simpa using hy
        clear hy
        obtain ⟨q, hqq⟩ : ∃ q', q' = q + 1 := ⟨_, rfl⟩
        rw [← hqq] at HF
        have hq1 : q ≤ p + 16 := by omega
        clear hqq
        go_wp2_with (fail)
        refine (pick_any g bs q 6 _ HF.out.rdr (by omega) (by omega)).mono ?_
        rintro e wtc ⟨⟨yc, rfl, _⟩, hptc⟩
        have Htc := Lib.hid (HF.out.go hgl hptc.1 hptc.2)
        have hsztc := Htc.out.only.size
        clear hptc
        by_cases hyc : yc = 0
        · have hyb : (yc == 0) = true := by simp [hyc]
          clear hyc
          go_wp2_with (fail)
          have Hu := Lib.hid (Htc.out.go hgl (Htc.out.rdr.below (below1 wtc (.cells #[.int .i64 2, .int .i64 3] 3)) Htc.out.rdr.lt) (Only.of_below (below1 wtc (.cells #[.int .i64 2, .int .i64 3] 3))))
          refine (num_any g bs (q + 1) _ _ [2, 3] 2 _ Hu.out.rdr (by omega) (Blk.new _ _ _) rfl (by omega) rfl (by simp) (by simp)).mono ?_
          rintro e wk ⟨⟨kd, rfl, hkd⟩, hpk⟩
          have HKD := Lib.hid (show 0 ≤ kd ∧ kd ≤ 3 by simp only [List.mem_cons, List.not_mem_nil, or_false] at hkd; omega)
          clear hkd
          have Hk := Lib.hid (Hu.out.go hgl hpk.1 hpk.2)
          have hszk := Hk.out.only.size
          clear hpk
          go_wp2_with (fail)
          have Hv := Lib.hid (Hk.out.go hgl (Hk.out.rdr.below (below1 wk (.cells #[.int .i64 1, .int .i64 (-2), .int .i64 2] 3)) Hk.out.rdr.lt) (Only.of_below (below1 wk (.cells #[.int .i64 1, .int .i64 (-2), .int .i64 2] 3))))
          refine (num_any g bs (q + 1 + 1) _ _ [1, -2, 2] 3 _ Hv.out.rdr (by omega) (Blk.new _ _ _) rfl (by omega) rfl (by simp) (by simp)).mono ?_
          rintro e wn ⟨⟨z, rfl, hz⟩, hpn⟩
          have HZT := Lib.hid (show ∀ t ∈ [(-1 : Int), z], -4 ≤ t ∧ t ≤ 5 from fun t ht => by simp only [List.mem_cons, List.not_mem_nil, or_false] at ht hz; omega)
          clear hz
          have Hn := Lib.hid (Hv.out.go hgl hpn.1 hpn.2)
          have hszn := Hn.out.only.size
          clear hpn
          go_upto_region 10 with (fail)
          obtain ⟨wr, hwr⟩ : ∃ wr, wr = wn.alloc (.cells #[.int .i64 (-1), .int .i64 z] 3) := ⟨_, rfl⟩
          have ho2 : OwnInts wr w.heap.size (wn.heap.size + 1) (.slice (some ⟨wn.heap.size, 0, none⟩) 2 2) [-1, z] := by rw [hwr]; exact own_two wn _ (-1) z hszn
          have br : Below wn.heap.size wn wr := by rw [hwr]; exact below1 _ _
          have hsze : wr.heap.size = wn.heap.size + 1 := by rw [hwr]; simp
          rw [← hwr]
          clear hwr
          obtain ⟨wx, hwx⟩ : ∃ wx, wx = wr.alloc (.cells #[.int .i64 kd, .int .i64 0, .slice (some ⟨wn.heap.size, 0, none⟩) 2 2] 28) := ⟨_, rfl⟩
          have hwrs : wr.heap.size = wn.heap.size + 1 := hsze
          have ox : Blk wx (wn.heap.size + 1) 28 #[.int .i64 kd, .int .i64 0, .slice (some ⟨wn.heap.size, 0, none⟩) 2 2] := by rw [hwx, ← hwrs]; exact Blk.new _ _ _
          have bx : Below wr.heap.size wr wx := by rw [hwx]; exact below1 _ _
          have hszx : wr.heap.size ≤ wx.heap.size := bx.size
          have hszr : wn.heap.size ≤ wr.heap.size := br.size
          have bnx : Below wn.heap.size wn wx := bthen br bx
          have HX := Lib.hid ((Hn.out.go hgl (Hn.out.rdr.below bnx Hn.out.rdr.lt) (Only.of_below bnx)))
          have HO2 := Lib.hid ((ho2.below bx (Nat.le_of_eq hwrs.symm)).mono (Nat.le_refl _) (show wn.heap.size + 1 ≤ wx.heap.size by omega))
          have x0 : wx.cell? ⟨wn.heap.size + 1, 0, none⟩ = some (.int .i64 kd) := ox.cell 0
          have x1 : wx.cell? ⟨wn.heap.size + 1, 1, none⟩ = some (.int .i64 0) := ox.cell 1
          have x2 : wx.cell? ⟨wn.heap.size + 1, 2, none⟩ = some (.slice (some ⟨wn.heap.size, 0, none⟩) 2 2) := ox.cell 2
          rw [← hwx]
          clear hwx hwrs hsze ox bx bnx br ho2
          go_wp2_with (at_builtin; refine wpList_append_lies _ rfl (.tmp 60) (.tmp 62) 47 rfl w.heap.size 28 i0 (.agg #[.int .i64 0, .int .i64 0, .slice none 0 0]) 3 40 Try.underlying47 hi0 hz0 hz1 hz2 rfl (by decide) (.slice A' ls.length c') ls.length (flatL ls us) rfl ?d1 ⟨_, 0, none⟩ 1 1 [.int .i64 kd, .int .i64 0, .slice (some ⟨wn.heap.size, 0, none⟩) 2 2] rfl rfl (World.news_of_block (cs := #[.int .i64 kd, .int .i64 0, .slice (some ⟨wn.heap.size, 0, none⟩) 2 2]) (heap_alloc_new wx _)) ?d2 (by omega) (by unfold maxLen; omega) (by omega) ?d3 _ rfl ?_)
          case d1 => exact HX.out.col.row.alloc _
          case d2 => intro u hu; simp at hu; rcases hu with rfl | rfl | rfl <;> rfl
          case d3 => simp; omega
          intro gz capz wz hownz hgrz _ _
          have HZ := Lib.hid (HX.out.push (l := (kd, ((0 : Int), [(-1 : Int), z]))) ⟨HKD.out.1, HKD.out.2, HZT.out⟩ hgl HO2.out hgrz hownz)
          have htz := totL_snoc ls (kd, ((0 : Int), [(-1 : Int), z]))
          simp only [List.length_cons, List.length_nil] at htz
          have HT := Lib.hid htz
          clear htz hownz hgrz
          go_wp2_with (fail)
          go_ret
          exact ⟨_, _, _, _, _, (by rw [List.length_append]; rfl), (by rw [List.length_append]; show ls.length + 1 ≤ 4; omega), (by have := HT.out; omega), by omega, HZ.out⟩
        · have hyb : (yc == 0) = false := by simp [hyc]
          clear hyc
          go_wp2_with (fail)
          go_ret
          exact ⟨_, _, ls, us, _, rfl, by omega, by omega, by omega, Htc.out⟩

end Go.Proofs.Ytofkcmihcgmmpaa
/-
  A rule drawn: the walk of l2Make.
-/
namespace Go.Proofs.Ytofkcmihcgmmpaa
open Go.RowKit

theorem l2Body_own (g : Nat) (bs : List Nat) (p lo hi n : Nat) (no : Int) (v : Value) (ar : List Int) (w : World) (h : Rdr w g bs p) (hp : p ≤ 1048500) (ha : OwnInts w lo hi v ar) (hg : g < lo) (hh : hi ≤ w.heap.size) (hr : ∀ x ∈ ar, 0 ≤ x ∧ x ≤ 2) (h0 : 0 < ar.length) (hl : ar.length ≤ 1048576) (hn : n ≤ 3) :
    Calls Try.prog 59 #[.pointer (some ⟨g, 0, none⟩), v, .int .i64 n, .int .i64 no] w fun e w' => ∃ (A : Option Addr) (c : Nat) (ls : List LLit) (q : Nat), e = .returned (.slice A ls.length c) ∧ ls.length ≤ 4 ∧ totL ls ≤ 8 ∧ KindsOk ls ∧ q ≤ p + 40 ∧ OwnLits w' w.heap.size w'.heap.size (.slice A ls.length c) ls ∧ Rdr w' g bs q ∧ Only g (g + 1) w w' :=
  (l2Body_any g bs p lo hi n no v ar w h hp ha hg hh hr h0 hl hn).mono fun _ _ ⟨A, c, ls, _, q, e, h1, h2, h3, hd⟩ => ⟨A, c, ls, q, e, h1, h2, hd.kinds, h3, hd.col.lits hd.col.cap, hd.rdr, hd.only⟩

/-- What l2Make keeps while it tries. -/
structure MkAt (w wr : World) (g : Nat) (bs : List Nat) (q : Nat) : Prop where
  res : Blk wr w.heap.size 49 #[.int .i64 0, .slice none 0 0, .slice none 0 0]
  rdr : Rdr wr g bs q
  only : Only g (g + 1) w wr
section
variable {w wr w' : World} {g q : Nat} {bs : List Nat}
theorem MkAt.start (h : Rdr w g bs q) : MkAt w (w.alloc (.cells #[.int .i64 0, .slice none 0 0, .slice none 0 0] 49)) g bs q :=
  ⟨Blk.new _ _ _, h.below (below1 _ _) h.lt, Only.of_below (below1 _ _)⟩
theorem MkAt.go (h : MkAt w wr g bs q) (hg : g < w.heap.size) {q' : Nat} (hr : Rdr w' g bs q') (ho : Only g (g + 1) wr w') : MkAt w w' g bs q' :=
  ⟨h.res.only ho (.inr (by omega)), hr, h.only.trans ho⟩
theorem MkAt.done {m : Nat} {ls : List LLit} {xs : List Int} {a b : Value} (h : MkAt w wr g bs q) (hg : g < w.heap.size) (x : Value) (hm : w.heap.size + 1 ≤ m) (ha : OwnInts wr (w.heap.size + 1) m a xs) (hb : OwnLits wr m wr.heap.size b ls)
    (hw : w' = ((wr.setCell ⟨w.heap.size, 0, none⟩ x).setCell ⟨w.heap.size, 1, none⟩ a).setCell ⟨w.heap.size, 2, none⟩ b) :
    OwnInts w' w.heap.size m a xs ∧ OwnLits w' m w'.heap.size b ls ∧ Rdr w' g bs q ∧ Only g (g + 1) w w' ∧ Blk w' w.heap.size 49 #[x, a, b] ∧ w.heap.size ≤ m ∧ wr.heap.size = w'.heap.size := by
  subst hw
  obtain ⟨W, hW⟩ : ∃ W, W = ((wr.setCell ⟨w.heap.size, 0, none⟩ x).setCell ⟨w.heap.size, 1, none⟩ a).setCell ⟨w.heap.size, 2, none⟩ b := ⟨_, rfl⟩
  rw [← hW]
  have hk : ∀ k, k ≠ w.heap.size → W.heap[k]? = wr.heap[k]? := fun k hk => by
    rw [hW]
    exact ((Below.heap_setCell _ _ _ k hk).trans (Below.heap_setCell _ _ _ k hk)).trans (Below.heap_setCell _ _ _ k hk)
  have hsz : W.heap.size = wr.heap.size := by rw [hW]; simp
  have hblk : Blk W w.heap.size 49 #[x, a, b] := by
    have := ((h.res.set_ 0 x).set_ 1 a).set_ 2 b
    rw [hW]
    simpa using this
  refine ⟨?_, ?_, h.rdr.same fun k hk' => hk k (by omega), ⟨?_, ?_, ?_, by rw [hsz]; exact h.only.size, fun k hk' hn => (hk k (by omega)).trans (h.only.block k hk' hn)⟩, hblk, by omega, hsz.symm⟩
  · exact (ha.keep fun k h1 h2 => hk k (by omega)).mono (Nat.le_succ _) (Nat.le_refl _)
  · rw [hsz]
    exact hb.keep fun k h1 h2 => hk k (by omega)
  · rw [hW]; exact h.only.os
  · rw [hW]; exact h.only.tape
  · rw [hW]; exact h.only.output
theorem OwnLits.none0 (w : World) (lo hi : Nat) : OwnLits w lo hi (.slice none 0 0) [] := ⟨none, 0, rfl, Nat.le_refl _, fun h => absurd h (by simp)⟩
end

set_option maxHeartbeats 4000000 in
set_option maxRecDepth 100000 in
theorem l2Make_any (g : Nat) (bs : List Nat) (p lo hi fr : Nat) (no : Int) (v : Value) (ar : List Int) (w : World) (h : Rdr w g bs p) (hp : p ≤ 1048000) (ha : OwnInts w lo hi v ar) (hg : g < lo) (hh : hi ≤ w.heap.size) (hr : ∀ x ∈ ar, 0 ≤ x ∧ x ≤ 2) (hf : fr < ar.length) (hl : ar.length ≤ 1048576) :
    Calls Try.prog 54 #[.pointer (some ⟨g, 0, none⟩), v, .int .i64 fr, .int .i64 no] w fun e w' => ∃ (a b : Value) (r : LRule) (q m : Nat), e = .returned (.agg #[.int .i64 r.1.1, a, b]) ∧ r.1.2.length ≤ 2 ∧ r.2.length ≤ 4 ∧ totL r.2 ≤ 8 ∧ KindsOk r.2 ∧ q ≤ p + 300 ∧ w.heap.size ≤ m ∧ m ≤ w'.heap.size ∧
      OwnInts w' w.heap.size m a r.1.2 ∧ OwnLits w' m w'.heap.size b r.2 ∧ Rdr w' g bs q ∧ Only g (g + 1) w w' := by
  have H := Lib.hid h
  have hgl := h.lt
  have HA := Lib.hid ha
  have HRG := Lib.hid hr
  obtain ⟨A0, c0, hv0⟩ := ha.form
  subst hv0
  clear h ha hr
  obtain ⟨d, hd1, hd2, hd3⟩ : ∃ d : Nat, IntKind.i64.wrap ((ar.length : Int) - (fr : Int)) = (d : Int) ∧ 0 < d ∧ fr + d ≤ ar.length := ⟨ar.length - fr, by unfold IntKind.wrap; simp [IntKind.bits, IntKind.signed]; omega, by omega, by omega⟩
  have CD := Lib.hid (fun (W : World) (q j n : Nat) (hR : Rdr W g bs q) (hq : q ≤ 1048576) (hO : Only g (g + 1) w W) (hj : j < ar.length) (hn : n ≤ 3) => l2Draw_any g bs q lo hi j ar[j].toNat n (.slice A0 ar.length c0) ar W hR hq (HA.out.only hO (.inr (by omega))) hg (Nat.le_trans hh hO.size) hj (by have := HRG.out _ (List.getElem_mem hj); omega) (by have := HRG.out _ (List.getElem_mem hj); omega) hl hn)
  have CB := Lib.hid (fun (W : World) (q n : Nat) (hR : Rdr W g bs q) (hq : q ≤ 1048500) (hO : Only g (g + 1) w W) (hn : n ≤ 3) => l2Body_own g bs q lo hi n no (.slice A0 ar.length c0) ar W hR hq (HA.out.only hO (.inr (by omega))) hg (Nat.le_trans hh hO.size) HRG.out (by omega) hl hn)
  have HS := Lib.hid (MkAt.start H.out)
  go_enter Try.func54, Try.ntmps54
  go_wp2_with (fail)
  go_loopw [9] (fun i wr => ∃ (k q : Nat), k ≤ 6 ∧ i = .int .i64 k ∧ q ≤ p + 48 * k ∧ MkAt w wr g bs q) (fun i _ => 6 - (intOf i).toNat)
  case atStart => exact ⟨0, p, by omega, rfl, by omega, HS.out⟩
  case round =>
    obtain ⟨k, q, hk, rfl, hq, hr⟩ := hrel
    have HR := Lib.hid hr
    have hszr0 := hr.only.size
    clear hr
    by_cases hlt : k < 6
    · have hkb : decide ((k : Int) < 6) = true := by simp; omega
      go_wp2_with (fail)
      refine (pick_any g bs q 3 _ HR.out.rdr (by omega) (by omega)).mono ?_
      rintro e w1 ⟨⟨x, rfl, hx⟩, hp1⟩
      have hxr : 0 ≤ x ∧ x < 3 := hx.1 (by omega)
      obtain ⟨vs, hvs, hvs3⟩ : ∃ vs : Nat, IntKind.i64.wrap (1 + x) = (vs : Int) ∧ vs ≤ 3 := ⟨(1 + x).toNat, by unfold IntKind.wrap; simp [IntKind.bits, IntKind.signed]; omega, by omega⟩
      have H1 := Lib.hid (HR.out.go hgl hp1.1 hp1.2)
      clear hp1 hx
      go_wp2_with (fail)
      refine (pick_any g bs (q + 1) d _ H1.out.rdr (by omega) (by omega)).mono ?_
      rintro e w2 ⟨⟨y, rfl, hy⟩, hp2⟩
      have hyr : 0 ≤ y ∧ y < d := hy.1 (by omega)
      obtain ⟨j, hj1, hj2⟩ : ∃ j : Nat, IntKind.i64.wrap ((fr : Int) + y) = (j : Int) ∧ j < ar.length := ⟨((fr : Int) + y).toNat, by unfold IntKind.wrap; simp [IntKind.bits, IntKind.signed]; omega, by omega⟩
      have H2 := Lib.hid (H1.out.go hgl hp2.1 hp2.2)
      have hsz2 : w.heap.size + 1 ≤ w2.heap.size := H2.out.res.lt
      clear hp2 hy
      go_wp2_with (fail)
      refine (CD.out w2 (q + 1 + 1) j vs H2.out.rdr (by omega) H2.out.only hj2 (by omega)).mono ?_
      rintro e w3 ⟨A, c, xs, q3, rfl, ⟨hxs, _⟩, hq3, ho3, hr3, hO3⟩
      have H3 := Lib.hid (H2.out.go hgl hr3 hO3)
      have HO3 := Lib.hid (ho3.mono hsz2 (Nat.le_refl _))
      have hsz3 : w.heap.size + 1 ≤ w3.heap.size := H3.out.res.lt
      clear ho3 hr3 hO3
      go_wp2_with (fail)
      refine (CB.out w3 q3 vs H3.out.rdr (by omega) H3.out.only (by omega)).mono ?_
      rintro e w4 ⟨Ab, cb, ls, q4, rfl, hls, htl, hkd, hq4, ho4, hr4, hO4⟩
      have HKD := Lib.hid hkd
      clear hkd
      have H4 := Lib.hid (H3.out.go hgl hr4 hO4)
      have HO4 := Lib.hid (And.intro (HO3.out.only hO4 (.inr (by omega))) (And.intro ho4 hO4.size))
      have hm3 : w.heap.size + 1 ≤ w3.heap.size := hsz3
      have hsz4 : w.heap.size + 1 ≤ w4.heap.size := H4.out.res.lt
      clear ho4 hr4 hO4
      go_wp2_with (fail)
      obtain ⟨wx, hwx⟩ : ∃ wx, wx = w4.alloc (.cells #[.int .i64 (j : Int), .slice A xs.length c, .slice Ab ls.length cb] 49) := ⟨_, rfl⟩
      have ox : Blk wx w4.heap.size 49 #[.int .i64 (j : Int), .slice A xs.length c, .slice Ab ls.length cb] := by rw [hwx]; exact Blk.new _ _ _
      have bx : Below w4.heap.size w4 wx := by rw [hwx]; exact below1 _ _
      rw [← hwx]
      have HRR := Lib.hid (show RdRule wx wx.heap.size (.agg #[.int .i64 (j : Int), .slice A xs.length c, .slice Ab ls.length cb]) (((j : Int), xs), ls) from ⟨_, _, rfl, ((HO4.out.1.below bx HO4.out.2.2).mono (Nat.le_refl _) (Nat.le_trans HO4.out.2.2 bx.size)).rd, ((HO4.out.2.1.below bx (Nat.le_refl _)).mono (Nat.le_refl _) bx.size).rd⟩)
      clear hwx
      refine (specRuleSafe_any _ (((j : Int), xs), ls) wx HRR.out (by show xs.length + (ls.length + totL ls) ≤ 1048576; omega)).mono ?_
      rintro e w5 ⟨rfl, hb5⟩
      have b5 : Below w4.heap.size w4 w5 := bthen bx hb5
      have H5 := Lib.hid (H4.out.go hgl (H4.out.rdr.below b5 H4.out.rdr.lt) (Only.of_below b5))
      have HO5 := Lib.hid (And.intro (HO4.out.1.below b5 HO4.out.2.2) (And.intro ((HO4.out.2.1.below b5 (Nat.le_refl _)).mono (Nat.le_refl _) b5.size) (Nat.le_trans HO4.out.2.2 b5.size)))
      have o5 := ox.below hb5 ox.lt
      have x0 : w5.cell? ⟨w4.heap.size, 0, none⟩ = some (.int .i64 (j : Int)) := o5.cell 0
      have x1 : w5.cell? ⟨w4.heap.size, 1, none⟩ = some (.slice A xs.length c) := o5.cell 1
      have x2 : w5.cell? ⟨w4.heap.size, 2, none⟩ = some (.slice Ab ls.length cb) := o5.cell 2
      have j0 : w5.cell? ⟨w.heap.size, 0, none⟩ = some (.int .i64 0) := H5.out.res.cell 0
      have j1 : w5.cell? ⟨w.heap.size, 1, none⟩ = some (.slice none 0 0) := H5.out.res.cell 1
      have j2 : w5.cell? ⟨w.heap.size, 2, none⟩ = some (.slice none 0 0) := H5.out.res.cell 2
      have l0 := H5.out.res.frozen 0
      have l1 := H5.out.res.frozen 1
      have l2 := H5.out.res.frozen 2
      obtain ⟨sb, hsb⟩ : ∃ sb, sb = ruleSafe (((j : Int), xs), ls) := ⟨_, rfl⟩
      rw [← hsb]
      clear hsb b5 hb5 ox bx o5
      cases sb with
      | true =>
        go_wp2_with (fail)
        obtain ⟨W, hW⟩ : ∃ W, W = ((w5.setCell ⟨w.heap.size, 0, none⟩ (.int .i64 (j : Int))).setCell ⟨w.heap.size, 1, none⟩ (.slice A xs.length c)).setCell ⟨w.heap.size, 2, none⟩ (.slice Ab ls.length cb) := ⟨_, rfl⟩
        rw [← hW]
        obtain ⟨e1, e2, e3, e4, e5, e6, e7⟩ := H5.out.done hgl (.int .i64 (j : Int)) hm3 HO5.out.1 HO5.out.2.1 hW
        have e8 : w3.heap.size ≤ W.heap.size := by rw [← e7]; exact HO5.out.2.2
        have d0 := e5.cell 0
        have d1 := e5.cell 1
        have d2 := e5.cell 2
        refine bodyPost_ret (v := .agg #[.int .i64 (j : Int), .slice A xs.length c, .slice Ab ls.length cb]) (by simp [results, Try.results54, go_sem, d0, d1, d2]) rfl ?_
        exact ⟨_, _, (((j : Int), xs), ls), q4, _, rfl, hxs, hls, htl, HKD.out, by omega, e6, e8, e1, e2, e3, e4⟩
      | false =>
        go_wp2_with (fail)
        go_roundw
        case rel => exact ⟨k + 1, q4, by omega, by go_num, by omega, H5.out⟩
        case measure => simp [intOf]; omega
    · have hk6 : k = 6 := by omega
      subst hk6
      go_wp2_with (fail)
      refine (CD.out wr q fr 0 HR.out.rdr (by omega) HR.out.only hf (by omega)).mono ?_
      rintro e w4 ⟨A, c, xs, q4, rfl, ⟨hxs, _⟩, hq4, ho4, hr4, hO4⟩
      have H4 := Lib.hid (HR.out.go hgl hr4 hO4)
      have HO4 := Lib.hid (ho4.mono HR.out.res.lt (Nat.le_refl _))
      have j0 : w4.cell? ⟨w.heap.size, 0, none⟩ = some (.int .i64 0) := H4.out.res.cell 0
      have j1 : w4.cell? ⟨w.heap.size, 1, none⟩ = some (.slice none 0 0) := H4.out.res.cell 1
      have j2 : w4.cell? ⟨w.heap.size, 2, none⟩ = some (.slice none 0 0) := H4.out.res.cell 2
      have l0 := H4.out.res.frozen 0
      have l1 := H4.out.res.frozen 1
      have l2 := H4.out.res.frozen 2
      clear ho4 hr4 hO4
      go_wp2_with (fail)
      obtain ⟨W, hW⟩ : ∃ W, W = ((w4.setCell ⟨w.heap.size, 0, none⟩ (.int .i64 (fr : Int))).setCell ⟨w.heap.size, 1, none⟩ (.slice A xs.length c)).setCell ⟨w.heap.size, 2, none⟩ (.slice none 0 0) := ⟨_, rfl⟩
      rw [← hW]
      obtain ⟨e1, e2, e3, e4, e5, e6, e7⟩ := H4.out.done hgl (.int .i64 (fr : Int)) H4.out.res.lt HO4.out (OwnLits.none0 _ _ _) hW
      have d0 := e5.cell 0
      have d1 := e5.cell 1
      have d2 := e5.cell 2
      refine bodyPost_ret (v := .agg #[.int .i64 (fr : Int), .slice A xs.length c, .slice none 0 0]) (by simp [results, Try.results54, go_sem, d0, d1, d2]) rfl ?_
      exact ⟨_, _, (((fr : Int), xs), []), q4, _, rfl, hxs, by simp, by simp [totL], KindsOk.nil, by omega, e6, Nat.le_of_eq e7, e1, e2, e3, e4⟩

end Go.Proofs.Ytofkcmihcgmmpaa
