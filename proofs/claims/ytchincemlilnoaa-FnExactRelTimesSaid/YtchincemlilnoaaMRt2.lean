/-
  Texts that the claim's last one imports, laid together: part 2 of 6. No condition of its own.
-/
import Derived.Deep.Quiet
import Derived.BigQuiet
import Derived.Laws.BitsAllLaws
import Derived.Deep.RegionHeld3
import Derived.Deep.DeepCutAuto
import Derived.Shelf.Sort.Plain
import Derived.Shelf.Slices.CompactI
import Derived.Test.YtchincemlilnoaaChecked
import Derived.StillTailTactics
import Derived.Shelf.Slices.In.SortNone
import Derived.Test.YtchincemlilnoaaMRt1
/-
  Regions that draw their order and whose callees return plain values and keep all that was there: one walk of the text's order serves every order. The class of worlds: those that keep what was there.
-/
namespace Go.Proofs.Ytchincemlilnoaa
open Go.RowKit

/-- A world that keeps all that was there in w0. -/
def Later (w0 : World) : Type := { W : World // Below w0.heap.size w0 W }

instance (w0 : World) : Nonempty (Later w0) := ⟨⟨w0, Below.refl _ _⟩⟩

theorem wp_region_later {P : Program} {id : Nat} {Q : Exit → Act → World → Prop} {a : Act} {w0 : World} {l : List Oper} (hm : P.follows .mixedOrders = true) (hB : Region.lexB .any l.toArray = true)
    (h : wpQuiet P l.toArray (fun w' => ∃ x : Later w0, w' = x.val) (fun a' => ∀ w', (∃ x : Later w0, w' = x.val) → Q .normal a' w') l a) : (Code.region id l.toArray true).wp P Q a w0 :=
  wp_region_quiet (C := fun w' => ∃ x : Later w0, w' = x.val) hm hB ⟨⟨_, (Below.refl _ _).drew⟩, rfl⟩ (by simpa using h)

theorem later_cell {w0 : World} {a : Addr} {v : Value} (h : w0.cell? a = some v) (x : Later w0) : x.val.cell? a = some v := (x.2.cell (World.block_lt_of_cell? _ _ h)).trans h
/-- A callee's contract, met in a later world. -/
theorem later_of {P : Program} {f : FuncId} {args : Array Value} {w0 : World} {x : Later w0} {v : Value} (h : Calls P f args x.val fun e w' => e = .returned v ∧ Below x.val.heap.size x.val w') :
    Calls P f args x.val fun e w'' => e = .returned v ∧ ∃ y : Later w0, w'' = y.val :=
  h.mono fun _ w' ⟨he, hb⟩ => ⟨he, ⟨w', bthen x.2 hb⟩, rfl⟩
theorem later_same {P : Program} {f : FuncId} {args : Array Value} {w0 : World} {x : Later w0} {v : Value} (h : Calls P f args x.val fun e w' => e = .returned v ∧ x.val = w') :
    Calls P f args x.val fun e w'' => e = .returned v ∧ ∃ y : Later w0, w'' = y.val :=
  h.mono fun _ _ ⟨he, hb⟩ => ⟨he, x, hb.symm⟩

end Go.Proofs.Ytchincemlilnoaa
/-
  Sets of variables: as words of four bits (the program's), as rows of four bools (the specification's). The words, and the walks of argVars, bodyVars, ruleVars.
-/
namespace Go.Proofs.Ytchincemlilnoaa
open Go.RowKit

/-- One more term's variable. -/
def orV (m : Nat) (t : Int) : Nat := if isVarB t then m ||| 2 ^ (-1 - t).toNat else m
def maskFrom (m : Nat) (xs : List Int) : Nat := xs.foldl orV m
def maskOf (xs : List Int) : Nat := maskFrom 0 xs
def bodyMask (ls : List LLit) : Nat := ls.foldl (fun m l => m ||| maskOf l.2.2) 0
def yesMask (ls : List LLit) : Nat := ls.foldl (fun m l => if l.1 = 0 then m ||| maskOf l.2.2 else m) 0
def ruleMask (r : LRule) : Nat := maskOf r.1.2 ||| bodyMask r.2

theorem orV_or (a b : Nat) (t : Int) : orV (a ||| b) t = a ||| orV b t := by
  unfold orV
  split
  · rw [Nat.or_assoc]
  · rfl
theorem maskFrom_or (a b : Nat) : ∀ xs : List Int, maskFrom (a ||| b) xs = a ||| maskFrom b xs
  | [] => rfl
  | t :: xs => by
    show maskFrom (orV (a ||| b) t) xs = a ||| maskFrom (orV b t) xs
    rw [orV_or, maskFrom_or a (orV b t) xs]
theorem maskFrom_eq (a : Nat) (xs : List Int) : maskFrom a xs = a ||| maskOf xs := by
  have := maskFrom_or a 0 xs
  rwa [Nat.or_zero] at this
theorem or_lt16 {a b : Nat} (ha : a < 16) (hb : b < 16) : a ||| b < 16 := Nat.or_lt_two_pow (n := 4) ha hb
theorem pow_var_lt {t : Int} (h : isVarB t = true) : 2 ^ (-1 - t).toNat < 16 := by
  have h4 : (-1 - t).toNat < 4 := by simp [isVarB] at h; omega
  exact Nat.pow_lt_pow_right (by omega) h4
theorem orV_lt {m : Nat} {t : Int} (hm : m < 16) : orV m t < 16 := by
  unfold orV
  split
  · rename_i h
    exact or_lt16 hm (pow_var_lt h)
  · exact hm
theorem maskFrom_lt : ∀ (xs : List Int) {m : Nat}, m < 16 → maskFrom m xs < 16
  | [], _, h => h
  | _ :: xs, _, h => maskFrom_lt xs (orV_lt h)
theorem maskOf_lt (xs : List Int) : maskOf xs < 16 := maskFrom_lt xs (by omega)
theorem maskOf_take {xs : List Int} {k : Nat} (h : k < xs.length) : maskOf (xs.take (k + 1)) = orV (maskOf (xs.take k)) xs[k] := by
  unfold maskOf maskFrom
  rw [take_snoc xs k h, List.foldl_append]
  rfl
theorem bodyMask_take {ls : List LLit} {k : Nat} (h : k < ls.length) : bodyMask (ls.take (k + 1)) = bodyMask (ls.take k) ||| maskOf ls[k].2.2 := by
  unfold bodyMask
  rw [take_snoc ls k h, List.foldl_append]
  rfl
theorem yesMask_take {ls : List LLit} {k : Nat} (h : k < ls.length) : yesMask (ls.take (k + 1)) = if ls[k].1 = 0 then yesMask (ls.take k) ||| maskOf ls[k].2.2 else yesMask (ls.take k) := by
  unfold yesMask
  rw [take_snoc ls k h, List.foldl_append]
  rfl
theorem bodyMask_lt : ∀ (n : Nat) (ls : List LLit), n ≤ ls.length → bodyMask (ls.take n) < 16
  | 0, _, _ => by simp [bodyMask]
  | n + 1, ls, h => by
    rw [bodyMask_take (by omega)]
    exact or_lt16 (bodyMask_lt n ls (by omega)) (maskOf_lt _)
theorem yesMask_lt : ∀ (n : Nat) (ls : List LLit), n ≤ ls.length → yesMask (ls.take n) < 16
  | 0, _, _ => by simp [yesMask]
  | n + 1, ls, h => by
    rw [yesMask_take (by omega)]
    split
    · exact or_lt16 (yesMask_lt n ls (by omega)) (maskOf_lt _)
    · exact yesMask_lt n ls (by omega)
theorem bodyMask_lt' (ls : List LLit) : bodyMask ls < 16 := by
  have := bodyMask_lt ls.length ls (Nat.le_refl _)
  rwa [List.take_length] at this
theorem yesMask_lt' (ls : List LLit) : yesMask ls < 16 := by
  have := yesMask_lt ls.length ls (Nat.le_refl _)
  rwa [List.take_length] at this
theorem ruleMask_lt (r : LRule) : ruleMask r < 16 := or_lt16 (maskOf_lt _) (bodyMask_lt' _)

theorem or_word {a b : Nat} (ha : a < 16) (hb : b < 16) : bits .or .u64 (a : Int) (b : Int) = ((a ||| b : Nat) : Int) := u64_or_nat a b (by omega) (by omega)
/-- The walk's word for one more variable. -/
theorem orV_word {m : Nat} {t : Int} (hm : m < 16) (h : isVarB t = true) : bits .or .u64 (m : Int) (IntKind.u64.wrap (1 * 2 ^ (-1 - t).toNat)) = ((orV m t : Nat) : Int) := by
  have h4 : (-1 - t).toNat < 4 := by simp [isVarB] at h; omega
  have hw : IntKind.u64.wrap (1 * 2 ^ (-1 - t).toNat) = ((2 ^ (-1 - t).toNat : Nat) : Int) := by
    generalize (-1 - t).toNat = n at h4
    match n, h4 with
    | 0, _ => rfl
    | 1, _ => rfl
    | 2, _ => rfl
    | 3, _ => rfl
  rw [hw, or_word hm (pow_var_lt h)]
  simp [orV, h]

theorem later_int {P : Program} {f : FuncId} {args : Array Value} {w0 : World} {x : Later w0} {u v : Value} (h : Calls P f args x.val fun e w' => e = .returned u ∧ Below x.val.heap.size x.val w') (e : u = v) :
    Calls P f args x.val fun e w'' => e = .returned v ∧ ∃ y : Later w0, w'' = y.val := later_of (e ▸ h)

end Go.Proofs.Ytchincemlilnoaa
/-
  The walks of yesVars and of the program's RuleSafe.
-/
namespace Go.Proofs.Ytchincemlilnoaa
open Go.RowKit

/-- What RuleSafe answers. -/
def ruleSafe (r : LRule) : Bool := bits .andNot .u64 ((ruleMask r : Nat) : Int) ((yesMask r.2 : Nat) : Int) == 0

end Go.Proofs.Ytchincemlilnoaa
/-
  The specification's sets of variables: rows of four bools. The walks of l2Mark, l2Marks.
-/
namespace Go.Proofs.Ytchincemlilnoaa
open Go.RowKit

/-- Block g is the row of the bits of m. -/
def MkRow (w : World) (g m : Nat) : Prop := Blk w g 4 #[.bool (m.testBit 0), .bool (m.testBit 1), .bool (m.testBit 2), .bool (m.testBit 3)]
theorem MkRow.cell {w : World} {g m : Nat} (h : MkRow w g m) {i : Nat} (hi : i < 4) : w.cell? ⟨g, i, none⟩ = some (.bool (m.testBit i)) := by
  rw [Blk.cell h i]
  match i, hi with
  | 0, _ => rfl
  | 1, _ => rfl
  | 2, _ => rfl
  | 3, _ => rfl
theorem MkRow.frozen {w : World} {g m : Nat} (h : MkRow w g m) (i : Nat) : w.frozen? ⟨g, i, none⟩ = false := Blk.frozen h i
theorem MkRow.lt {w : World} {g m : Nat} (h : MkRow w g m) : g < w.heap.size := Blk.lt h
theorem MkRow.below {B : Nat} {w w' : World} {g m : Nat} (h : MkRow w g m) (hb : Below B w w') (hg : g < B) : MkRow w' g m := Blk.below h hb hg
theorem MkRow.set {w : World} {g m : Nat} (h : MkRow w g m) {j : Nat} (hj : j < 4) : MkRow (w.setCell ⟨g, j, none⟩ (.bool true)) g (m ||| 2 ^ j) := by
  have h2 := Blk.set_ h j (.bool true)
  unfold MkRow
  match j, hj with
  | 0, _ => simpa [Nat.testBit_or, show Nat.testBit 1 1 = false from rfl, show Nat.testBit 1 2 = false from rfl, show Nat.testBit 1 3 = false from rfl] using h2
  | 1, _ => simpa [Nat.testBit_or, show Nat.testBit 2 1 = true from rfl, show Nat.testBit 2 2 = false from rfl, show Nat.testBit 2 3 = false from rfl] using h2
  | 2, _ => simpa [Nat.testBit_or, show Nat.testBit 4 1 = false from rfl, show Nat.testBit 4 2 = true from rfl, show Nat.testBit 4 3 = false from rfl] using h2
  | 3, _ => simpa [Nat.testBit_or, show Nat.testBit 8 1 = false from rfl, show Nat.testBit 8 2 = false from rfl, show Nat.testBit 8 3 = true from rfl] using h2
theorem maskFrom_take {xs : List Int} {m k : Nat} (h : k < xs.length) : maskFrom m (xs.take (k + 1)) = orV (maskFrom m (xs.take k)) xs[k] := by
  unfold maskFrom
  rw [take_snoc xs k h, List.foldl_append]
  rfl
theorem MkRow.var {w : World} {g m : Nat} (h : MkRow w g m) {t : Int} {j : Nat} (hj : j < 4) (ht : t = -1 - (j : Int)) : MkRow (w.setCell ⟨g, j, none⟩ (.bool true)) g (orV m t) := by
  have hv : isVarB t = true := by simp [isVarB]; omega
  have hn : (-1 - t).toNat = j := by omega
  unfold orV
  rw [if_pos hv, hn]
  exact h.set hj

theorem MkRow.only {lo hi : Nat} {w w' : World} {g m : Nat} (h : MkRow w g m) (ho : Only lo hi w w') (hg : g < lo ∨ hi ≤ g) : MkRow w' g m := (ho.block g h.lt hg).trans h
theorem made4 : madeCells #[Value.bool false] 4 = #[.bool false, .bool false, .bool false, .bool false] := by
  apply Array.ext
  · simp [madeCells]
  · intro i h1 h2
    simp [madeCells]
    match i, h2 with
    | 0, _ => rfl
    | 1, _ => rfl
    | 2, _ => rfl
    | 3, _ => rfl
theorem MkRow.made (w : World) : MkRow (w.alloc (.cells (madeCells #[.bool false] 4) 4)) w.heap.size 0 := by
  rw [made4]
  exact Blk.new w _ _
theorem Try.infoBool : (Try.prog.info? 4).map (fun i => (i.zero, i.size, i.bytes)) = some (some (.bool false), 1, 1) := by kernel_rfl

end Go.Proofs.Ytchincemlilnoaa
/-
  The walk of the specification's RuleSafe.
-/
namespace Go.Proofs.Ytchincemlilnoaa
open Go.RowKit

def safeTo (a b k : Nat) : Bool := (List.range k).all fun i => !(a.testBit i && !b.testBit i)
theorem safe_bits : ∀ a b : Fin 16, (bits .andNot .u64 ((a.val : Nat) : Int) ((b.val : Nat) : Int) == 0) = safeTo a.val b.val 4 := by decide +kernel
theorem ruleSafe_eq (r : LRule) : ruleSafe r = safeTo (ruleMask r) (yesMask r.2) 4 := safe_bits ⟨ruleMask r, ruleMask_lt r⟩ ⟨yesMask r.2, yesMask_lt' r.2⟩
theorem safeTo_step {a b k : Nat} (h : safeTo a b k = true) (e : (a.testBit k && !b.testBit k) = false) : safeTo a b (k + 1) = true := by
  unfold safeTo at h ⊢
  rw [List.range_succ, List.all_append, h, Bool.true_and]
  simp only [List.all_cons, List.all_nil, e]
  rfl
theorem safeTo_not {a b k : Nat} (hk : k < 4) (e : (a.testBit k && !b.testBit k) = true) : safeTo a b 4 = false := by
  unfold safeTo
  rw [List.all_eq_false]
  exact ⟨k, List.mem_range.2 hk, by simp [e]⟩

end Go.Proofs.Ytchincemlilnoaa
/-
  The walks of the program's words of what variables have: bindingShift, with, constant, value.
-/
namespace Go.Proofs.Ytchincemlilnoaa
open Go.RowKit

theorem shl_word {v : Nat} (hv : v < 4) {c : Int} (hc : -1 ≤ c ∧ c ≤ 5) : (c + 1) * 2 ^ ((3 - v) * 4) % 4294967296 = ((shlB v c : Nat) : Int) := by
  unfold shlB
  match v, hv with
  | 0, _ => show (c + 1) * 4096 % 4294967296 = (((c + 1).toNat * 4096 : Nat) : Int); omega
  | 1, _ => show (c + 1) * 256 % 4294967296 = (((c + 1).toNat * 256 : Nat) : Int); omega
  | 2, _ => show (c + 1) * 16 % 4294967296 = (((c + 1).toNat * 16 : Nat) : Int); omega
  | 3, _ => show (c + 1) * 1 % 4294967296 = (((c + 1).toNat * 1 : Nat) : Int); omega
theorem or_word32 {a b : Nat} (ha : a < 65536) (hb : b < 65536) : bits .or .u32 (a : Int) (b : Int) = ((a ||| b : Nat) : Int) := u32_or_nat a b (by omega) (by omega)
theorem field_word {m v : Nat} (hm : m < 65536) : bits .and .u32 ((m : Int) / 2 ^ ((3 - v) * 4)) 15 = ((fieldB m v : Nat) : Int) := by
  have h := u32_and_nat (m / 2 ^ ((3 - v) * 4)) 15 (Nat.lt_of_le_of_lt (Nat.div_le_self _ _) (by omega)) (by omega)
  have e : (15 : Nat) = 2 ^ 4 - 1 := rfl
  rw [e, Nat.and_two_pow_sub_one_eq_mod] at h
  simpa [fieldB] using h
theorem fieldB_lt (m v : Nat) : fieldB m v < 16 := Nat.mod_lt _ (by omega)

end Go.Proofs.Ytchincemlilnoaa
/-
  The walks of bindingOf, values, numbers.
-/
namespace Go.Proofs.Ytchincemlilnoaa
open Go.RowKit

theorem bs_getD {bs : List Int} {j : Nat} (hl : bs.length = 4) (hj : j < 4) : bs.getD j (-1) = bs.getD j 0 := by
  rw [List.getD_eq_getElem?_getD, List.getD_eq_getElem?_getD, List.getElem?_eq_getElem (by omega)]
  rfl

theorem make4i (W : World) : (Instr.makeSlice 42 (.int .i64 4) (.int .i64 4)).run Try.prog W = .ok (.slice (some ⟨W.heap.size, 0, none⟩) 4 4) (W.alloc (.cells (madeCells #[.int .i64 0] 4) 3)) :=
  run_make_row' (P := Try.prog) 42 3 (.int .i64 0) 8 Try.underlying42 Try.infoInt rfl .i64 .i64 4 (by omega) (by omega) W

end Go.Proofs.Ytchincemlilnoaa
/-
  The program's Bound.
-/
namespace Go.Proofs.Ytchincemlilnoaa
open Go.RowKit

end Go.Proofs.Ytchincemlilnoaa
/-
  Both BodySafe.
-/
namespace Go.Proofs.Ytchincemlilnoaa
open Go.RowKit

def litFine (l : LLit) : Bool := decide (0 ≤ l.1 ∧ l.1 ≤ 3) && l.2.2.all termOk
def bodySafe (ls : List LLit) : Bool := (ls.all litFine && decide (ls.length ≤ 4)) && ruleSafe ((0, []), ls)
theorem litFine_kind {l : LLit} (h : ¬ (0 ≤ l.1 ∧ l.1 ≤ 3)) : litFine l = false := by simp [litFine, h]
theorem litFine_terms {l : LLit} (h : l.2.2.all termOk = false) : litFine l = false := by unfold litFine; rw [h, Bool.and_false]
theorem litFine_yes {l : LLit} (h : 0 ≤ l.1 ∧ l.1 ≤ 3) (h2 : l.2.2.all termOk = true) : litFine l = true := by unfold litFine; rw [h2, decide_eq_true h]; rfl
theorem ruleMask_body (ls : List LLit) : ruleMask ((0, []), ls) = bodyMask ls := by simp [ruleMask, maskOf, maskFrom]
theorem bodySafe_not {ls : List LLit} {k : Nat} (hk : k < ls.length) (e : litFine ls[k] = false) : bodySafe ls = false := by
  unfold bodySafe
  rw [all_not hk e]
  rfl
end Go.Proofs.Ytchincemlilnoaa
/-
  The specification's HeadOf.
-/
namespace Go.Proofs.Ytchincemlilnoaa
open Go.RowKit

theorem zeroI (w : World) (lo hi : Nat) : OwnInts w lo hi (.slice none 0 0) [] := ⟨World.ownsRow_nil _ _ _ _, fun g hg => by cases hg⟩

end Go.Proofs.Ytchincemlilnoaa
/-
  The program's HeadOf.
-/
namespace Go.Proofs.Ytchincemlilnoaa
open Go.RowKit

theorem areConstants_is {xs : List Int} {b : Bool} (e : xs.all constOk = b) (v : Value) (B : Nat) (w : World) (h : RdInts w B v xs) (hr : xs.length ≤ 1048576) :
    Calls Try.prog 49 #[v] w fun e w' => e = .returned (.bool b) ∧ w = w' := e ▸ areConstants_any v xs B w h hr

end Go.Proofs.Ytchincemlilnoaa
/-
  Matching an atom with a fact, plain mathematics.
-/
namespace Go.Proofs.Ytchincemlilnoaa
open Go.RowKit

/-- One term against one constant. -/
def stepM (bs : List Int) (t c : Int) : Option (List Int) :=
  if termVal bs t = c then some bs else if termVal bs t = -1 then some (bs.set (-1 - t).toNat c) else none
def matchTo (bs xs ys : List Int) : Nat → Option (List Int)
  | 0 => some bs
  | k + 1 => (matchTo bs xs ys k).bind fun b => stepM b (xs.getD k 0) (ys.getD k 0)
def matchL (a f : LFact) (bs : List Int) : Option (List Int) :=
  if a.1 = f.1 ∧ a.2.length = f.2.length then matchTo bs a.2 f.2 a.2.length else none

theorem stepM_ok {bs b : List Int} (h : bindOk bs = true) {t c : Int} (hc : -1 ≤ c ∧ c ≤ 5) (e : stepM bs t c = some b) : bindOk b = true := by
  unfold stepM at e
  split at e
  · injection e with e
    rwa [← e]
  · split at e
    · injection e with e
      rw [← e]
      exact bindOk_set h hc _
    · cases e
theorem matchTo_step {bs xs ys b : List Int} {k : Nat} (h : matchTo bs xs ys k = some b) (h1 : k < xs.length) (h2 : k < ys.length) : matchTo bs xs ys (k + 1) = stepM b xs[k] ys[k] := by
  show (matchTo bs xs ys k).bind _ = _
  rw [h]
  simp [h1, h2]
theorem matchTo_none {bs xs ys : List Int} {k : Nat} (h : matchTo bs xs ys k = none) : ∀ n, k ≤ n → matchTo bs xs ys n = none
  | 0, hn => by
    have : k = 0 := by omega
    subst this
    exact h
  | n + 1, hn => by
    by_cases e : k = n + 1
    · rw [← e]; exact h
    · show (matchTo bs xs ys n).bind _ = none
      rw [matchTo_none h n (by omega)]
      rfl
theorem matchL_eq {a f : LFact} {bs : List Int} (h1 : a.1 = f.1) (h2 : a.2.length = f.2.length) : matchL a f bs = matchTo bs a.2 f.2 a.2.length := if_pos ⟨h1, h2⟩
theorem matchL_pred {a f : LFact} {bs : List Int} (h : a.1 ≠ f.1) : matchL a f bs = none := if_neg fun e => h e.1
theorem matchL_len {a f : LFact} {bs : List Int} (h : a.2.length ≠ f.2.length) : matchL a f bs = none := if_neg fun e => h e.2
theorem matchL_stop {a f : LFact} {bs : List Int} {k : Nat} (h1 : a.1 = f.1) (h2 : a.2.length = f.2.length) (hk : k < a.2.length) (e : matchTo bs a.2 f.2 (k + 1) = none) : matchL a f bs = none := by
  rw [matchL_eq h1 h2]
  exact matchTo_none e _ hk
theorem stepM_same {bs : List Int} {t c : Int} (h : termVal bs t = c) : stepM bs t c = some bs := if_pos h
theorem stepM_new {bs : List Int} {t c : Int} (h : termVal bs t = -1) (hc : c ≠ -1) : stepM bs t c = some (bs.set (-1 - t).toNat c) := by
  unfold stepM
  rw [if_neg (by omega), if_pos h]
theorem stepM_no {bs : List Int} {t c : Int} (h : termVal bs t ≠ c) (h2 : termVal bs t ≠ -1) : stepM bs t c = none := by
  unfold stepM
  rw [if_neg h, if_neg h2]
theorem termVal_free {bs : List Int} {t : Int} (ht : termOk t = true) (h : termVal bs t = -1) : -4 ≤ t ∧ t ≤ -1 ∧ bs.getD (-1 - t).toNat (-1) = -1 := by
  have htb := termOk_at ht
  have h0 : t < 0 := by
    rcases Int.lt_or_le t 0 with h1 | h1
    · exact h1
    · rw [termVal_const h1] at h
      omega
  rw [termVal_var h0] at h
  exact ⟨htb.1, by omega, h⟩

end Go.Proofs.Ytchincemlilnoaa
/-
  The specification's l3Copy, l3Match.
-/
namespace Go.Proofs.Ytchincemlilnoaa
open Go.RowKit

/-- A row of one's own that is not empty: its block, its cells. -/
theorem OwnInts.at_ {w : World} {lo hi c n : Nat} {A : Option Addr} {xs : List Int} (h : OwnInts w lo hi (.slice A n c) xs) (hn : 0 < xs.length) :
    ∃ g, A = some ⟨g, 0, none⟩ ∧ lo ≤ g ∧ g < hi ∧ g < w.heap.size ∧ (∀ k (hk : k < xs.length), w.cell? ⟨g, k, none⟩ = some (.int .i64 xs[k])) ∧ ∀ k, w.frozen? ⟨g, k, none⟩ = false := by
  obtain ⟨g, cap, e, _, _⟩ := h.1.form hn
  injection e with e1 e2 e3
  subst e1
  subst e2
  obtain ⟨l1, l2, l3⟩ := h.lt (g := g) rfl
  obtain ⟨A', c', e, _, hx⟩ := h.rd
  injection e with e1 _ _
  obtain ⟨b, o, e2, _, hx⟩ := hx hn
  rw [← e1] at e2
  injection e2 with e2
  injection e2 with e2 e3 _
  subst e2
  subst e3
  exact ⟨g, rfl, l1, l2, l3, fun k hk => by simpa using hx k hk, fun k => World.ownsRow.frozenAt h.1 k⟩

theorem OwnInts.atG {w : World} {lo hi c n g : Nat} {xs : List Int} (h : OwnInts w lo hi (.slice (some ⟨g, 0, none⟩) n c) xs) (hn : 0 < xs.length) :
    lo ≤ g ∧ g < hi ∧ g < w.heap.size ∧ (∀ k (hk : k < xs.length), w.cell? ⟨g, k, none⟩ = some (.int .i64 xs[k])) ∧ ∀ k, w.frozen? ⟨g, k, none⟩ = false := by
  obtain ⟨g', e, h'⟩ := h.at_ hn
  injection e with e
  injection e with e _ _
  subst e
  exact h'

set_option maxHeartbeats 1000000 in
set_option maxRecDepth 100000 in
theorem l3Copy_any (v : Value) (xs : List Int) (w : World) (h : RdInts w w.heap.size v xs) (hr : xs.length ≤ 1048576) :
    Calls Try.prog 55 #[v] w fun e w' => ∃ A' c', e = .returned (.slice A' xs.length c') ∧ OwnInts w' w.heap.size w'.heap.size (.slice A' xs.length c') xs ∧ Below w.heap.size w w' := by
  obtain ⟨i0, hi0, hz0, hz1, hz2⟩ := info_parts Try.infoInt
  have H := Lib.hid h
  obtain ⟨A, c, rfl, hc, _⟩ := h
  have C0 := Lib.hid (ColI.empty (Below.refl w.heap.size w))
  go_enter Try.func55, Try.ntmps55
  go_wp2_with (fail)
  go_loopw [3, 4] (fun o i wr => ∃ (k : Nat) (A' : Option Addr) (c' : Nat), k ≤ xs.length ∧ i = .int .i64 k ∧ o = .slice A' (xs.take k).length c' ∧ ColI w wr (xs.take k) A' c') (fun _ i _ => xs.length - (intOf i).toNat)
  case atStart => exact ⟨0, _, 0, Nat.zero_le _, rfl, rfl, C0.out⟩
  case round =>
    obtain ⟨k, A', c', hk, rfl, rfl, hr'⟩ := hrel
    have hln : (xs.take k).length ≤ k := by simp; omega
    by_cases hlt : k < xs.length
    · have hre := H.out.below hr'.below (Nat.le_refl _)
      obtain ⟨A3, c3, e3, _, hx⟩ := hre
      injection e3 with e3 _ e4
      subst e3 e4
      obtain ⟨b, o, rfl, hbB, hx⟩ := hx (by omega)
      have hck : wr.cell? ⟨b, o + k, none⟩ = some (.int .i64 xs[k]) := hx k hlt
      have HS := Lib.hid (take_snoc xs k hlt)
      have HP := Lib.hid hr'
      clear hx hr'
      obtain ⟨x, hx⟩ : ∃ x, x = xs[k] := ⟨_, rfl⟩
      rw [← hx] at hck HS
      clear hx
      obtain ⟨zs, hzs⟩ : ∃ zs, zs = xs.take k := ⟨_, rfl⟩
      have HZ := Lib.hid hzs
      rw [← hzs] at HP hln ⊢
      clear hzs
      go_wp2_with (at_builtin; refine wpList_append_lies _ rfl (.tmp 12) (.tmp 17) 42 rfl w.heap.size 3 i0 (.int .i64 0) 1 8 Try.underlying42 hi0 hz0 hz1 hz2 rfl (by decide) (.slice A' zs.length c') zs.length (zs.map (Value.int .i64)) rfl ?c1 ⟨_, 0, none⟩ 1 1 [.int .i64 x] rfl rfl (news1s _ _ _ _ (by simp)) ?c2 (by omega) (by unfold maxLen; omega) (by omega) ?c3 _ rfl ?_)
      case c1 => exact HP.out.own.1.alloc _
      case c2 => first | rfl | (intro u hu; simp at hu; subst hu; rfl)
      case c3 => have := HP.out.below.size; simp; omega
      intro g cap w4 hown hg _ _
      have hcol := HP.out.push (Below.refl _ _) hg hown
      rw [HZ.out, ← HS.out] at hcol
      have hlen : zs.length + 1 = (xs.take (k + 1)).length := by rw [HS.out, HZ.out]; simp
      rw [hlen]
      have HC := Lib.hid hcol
      clear hcol hlen hown hg
      go_wp2_with (fail)
      go_roundw
      case rel => exact ⟨k + 1, _, _, by omega, by go_num, rfl, HC.out⟩
      case measure => simp [intOf]; omega
    · have hkn : k = xs.length := by omega
      have HZ := Lib.hid (show xs.take k = xs by rw [hkn, List.take_length])
      have HO := Lib.hid hr'
      rw [HZ.out] at HO ⊢
      clear hkn hr'
      go_wp2_with (fail)
      go_ret
      exact ⟨_, _, rfl, HO.out.own, HO.out.below⟩

end Go.Proofs.Ytchincemlilnoaa
/-
  The order of facts: its plain mathematics, and the walks of cmp.Compare, cmp.Or, slices.Compare, the specification's l1Way.
-/
namespace Go.Proofs.Ytchincemlilnoaa
open Go.RowKit

def cmpI (a b : Int) : Int := if a < b then -1 else if b < a then 1 else 0
def cmpL : List Int → List Int → Int
  | [], [] => 0
  | [], _ :: _ => -1
  | _ :: _, [] => 1
  | x :: xs, y :: ys => if x = y then cmpL xs ys else cmpI x y
def factOrder (f g : LFact) : Int := if f.1 = g.1 then cmpL f.2 g.2 else cmpI f.1 g.1

theorem cmpL_at {xs ys : List Int} {k : Nat} (h1 : k < xs.length) (h2 : k < ys.length) : cmpL (xs.drop k) (ys.drop k) = if xs[k] = ys[k] then cmpL (xs.drop (k + 1)) (ys.drop (k + 1)) else cmpI xs[k] ys[k] := by
  rw [List.drop_eq_getElem_cons h1, List.drop_eq_getElem_cons h2]
  rfl
theorem cmpL_long {xs ys : List Int} {k : Nat} (h1 : k < xs.length) (h2 : ys.length ≤ k) : cmpL (xs.drop k) (ys.drop k) = 1 := by
  rw [List.drop_eq_getElem_cons h1, List.drop_eq_nil_of_le h2]
  rfl
theorem cmpL_short {xs ys : List Int} {k : Nat} (h1 : xs.length ≤ k) (h2 : k < ys.length) : cmpL (xs.drop k) (ys.drop k) = -1 := by
  rw [List.drop_eq_nil_of_le h1, List.drop_eq_getElem_cons h2]
  rfl
theorem cmpL_end {xs ys : List Int} {k : Nat} (h1 : xs.length ≤ k) (h2 : ys.length ≤ k) : cmpL (xs.drop k) (ys.drop k) = 0 := by
  rw [List.drop_eq_nil_of_le h1, List.drop_eq_nil_of_le h2]
  rfl
theorem cmpI_ne {a b : Int} (h : a ≠ b) : cmpI a b ≠ 0 := by
  unfold cmpI
  split
  · omega
  · split <;> omega
theorem cmpI_zero {a b : Int} (h : cmpI a b = 0) : a = b := by
  unfold cmpI at h
  split at h
  · omega
  · split at h <;> omega
theorem cmpI_self (a : Int) : cmpI a a = 0 := by simp [cmpI]
/-- 'the first k of both are the same', as the order has it. -/
def CmpTo (xs ys : List Int) (k : Nat) : Prop := cmpL xs ys = cmpL (xs.drop k) (ys.drop k)

theorem isNaN_any (a : Int) (w : World) : Calls Try.prog 88 #[.int .i64 a] w fun e w' => e = .returned (.bool false) ∧ w = w' := by
  have h : (a != a) = false := by simp
  go_enter Try.func88, Try.ntmps88
  go_wp2_with (fail)
  go_ret
  exact ⟨rfl, rfl⟩

set_option maxHeartbeats 400000 in
theorem cmpCompare_any (a b : Int) (w : World) : Calls Try.prog 81 #[.int .i64 a, .int .i64 b] w fun e w' => e = .returned (.int .i64 (cmpI a b)) ∧ w = w' := by
  by_cases h1 : a < b
  · have HE := Lib.hid (show cmpI a b = -1 by simp [cmpI, h1])
    go_enter Try.func81, Try.ntmps81
    go_wp2_with (go_at_call 88; refine (isNaN_any _ _).mono ?_; rintro e w' ⟨rfl, rfl⟩)
    go_ret
    exact ⟨ret_int HE.out.symm, rfl⟩
  · by_cases h2 : b < a
    · have HE := Lib.hid (show cmpI a b = 1 by simp [cmpI, h1, h2])
      go_enter Try.func81, Try.ntmps81
      go_wp2_with (go_at_call 88; refine (isNaN_any _ _).mono ?_; rintro e w' ⟨rfl, rfl⟩)
      go_ret
      exact ⟨ret_int HE.out.symm, rfl⟩
    · have HE := Lib.hid (show cmpI a b = 0 by simp [cmpI, h1, h2])
      go_enter Try.func81, Try.ntmps81
      go_wp2_with (go_at_call 88; refine (isNaN_any _ _).mono ?_; rintro e w' ⟨rfl, rfl⟩)
      go_ret
      exact ⟨ret_int HE.out.symm, rfl⟩

theorem l1Way_any (a b : Int) (w : World) : Calls Try.prog 80 #[.int .i64 a, .int .i64 b] w fun e w' => e = .returned (.int .i64 (cmpI a b)) ∧ w = w' := by
  by_cases h1 : a < b
  · have HE := Lib.hid (show cmpI a b = -1 by simp [cmpI, h1])
    go_enter Try.func80, Try.ntmps80
    go_wp2_with (fail)
    go_ret
    exact ⟨ret_int HE.out.symm, rfl⟩
  · by_cases h2 : b < a
    · have HE := Lib.hid (show cmpI a b = 1 by simp [cmpI, h1, h2])
      go_enter Try.func80, Try.ntmps80
      go_wp2_with (fail)
      go_ret
      exact ⟨ret_int HE.out.symm, rfl⟩
    · have HE := Lib.hid (show cmpI a b = 0 by simp [cmpI, h1, h2])
      go_enter Try.func80, Try.ntmps80
      go_wp2_with (fail)
      go_ret
      exact ⟨ret_int HE.out.symm, rfl⟩

set_option maxHeartbeats 400000 in
theorem slicesCompare_any (va vb : Value) (xs ys : List Int) (w : World) (ha : RdInts w w.heap.size va xs) (hb : RdInts w w.heap.size vb ys) (hr : xs.length * 8 ≤ 140737488351232) (hr2 : ys.length * 8 ≤ 140737488351232) :
    Calls Try.prog 50 #[va, vb] w fun e w' => e = .returned (.int .i64 (cmpL xs ys)) ∧ w = w' := by
  obtain ⟨A, c, rfl, hc, ha⟩ := ha
  obtain ⟨A2, c2, rfl, hc2, hb⟩ := hb
  go_enter Try.func50, Try.ntmps50
  go_wp2_with (fail)
  go_loop [5, 6, 7, 8, 11] (fun _ _ _ _ i => ∃ k : Nat, k ≤ xs.length ∧ i = .int .i64 k ∧ (0 < k → k ≤ ys.length) ∧ CmpTo xs ys k) (fun _ _ _ _ i => xs.length - (intOf i).toNat)
  case atStart => exact ⟨0, Nat.zero_le _, rfl, fun h => absurd h (by omega), rfl⟩
  case round =>
    obtain ⟨k, hk, rfl, hky, hs⟩ := hrel
    by_cases hlt : k < xs.length
    · obtain ⟨b, o, rfl, hbB, hx⟩ := ha (by omega)
      have hck := hx k hlt
      by_cases hlt2 : k < ys.length
      · obtain ⟨b2, o2, rfl, hbB2, hx2⟩ := hb (by omega)
        have hck2 := hx2 k hlt2
        have hge : ¬ ys.length ≤ k := by omega
        clear hx hx2 ha hb
        by_cases he : xs[k] = ys[k]
        · have HS := Lib.hid (show CmpTo xs ys (k + 1) by unfold CmpTo at hs ⊢; rw [hs, cmpL_at hlt hlt2, if_pos he])
          have h0 : (cmpI xs[k] ys[k] != 0) = false := by rw [he, cmpI_self]; rfl
          clear he hs hky
          go_wp2_with (go_at_call 81; refine (cmpCompare_any _ _ _).mono ?_; rintro e w' ⟨rfl, rfl⟩)
          go_round
          case rel => exact ⟨k + 1, by omega, by go_num, fun _ => by omega, HS.out⟩
          case measure => simp [intOf]; omega
        · have HS := Lib.hid (show cmpL xs ys = cmpI xs[k] ys[k] by unfold CmpTo at hs; rw [hs, cmpL_at hlt hlt2, if_neg he])
          have h0 : (cmpI xs[k] ys[k] != 0) = true := by simp [cmpI_ne he]
          clear he hs hky
          go_wp2_with (go_at_call 81; refine (cmpCompare_any _ _ _).mono ?_; rintro e w' ⟨rfl, rfl⟩)
          go_ret
          exact ⟨ret_int HS.out.symm, rfl⟩
      · have HS := Lib.hid (show cmpL xs ys = 1 by unfold CmpTo at hs; rw [hs, cmpL_long hlt (by omega)])
        have hge : ys.length ≤ k := by omega
        clear hs hky hx ha hb
        go_wp2_with (fail)
        go_ret
        exact ⟨ret_int HS.out.symm, rfl⟩
    · have hkn : xs.length = k := by omega
      by_cases hlt2 : xs.length < ys.length
      · have HS := Lib.hid (show cmpL xs ys = -1 by unfold CmpTo at hs; rw [hs, cmpL_short (by omega) (by omega)])
        clear hs hky hkn ha hb
        go_wp2_with (fail)
        go_ret
        exact ⟨ret_int HS.out.symm, rfl⟩
      · have HS := Lib.hid (show cmpL xs ys = 0 by
          unfold CmpTo at hs
          rcases Nat.eq_zero_or_pos k with h0 | h0
          · rw [hs, cmpL_end (by omega) (by omega)]
          · rw [hs, cmpL_end (by omega) (by have := hky h0; omega)])
        clear hs hky hkn ha hb
        go_wp2_with (fail)
        go_ret
        exact ⟨ret_int HS.out.symm, rfl⟩

end Go.Proofs.Ytchincemlilnoaa
/-
  The walks of FactOrder: the program's (with cmp.Or) and the specification's.
-/
namespace Go.Proofs.Ytchincemlilnoaa
open Go.RowKit

def orI (a b : Int) : Int := if a = 0 then b else a

theorem factOrder_or (f g : LFact) : orI (cmpI f.1 g.1) (cmpL f.2 g.2) = factOrder f g := by
  unfold orI factOrder
  by_cases h : f.1 = g.1
  · rw [if_pos h, h, cmpI_self, if_pos rfl]
  · rw [if_neg h, if_neg (cmpI_ne h)]

end Go.Proofs.Ytchincemlilnoaa
/-
  The walk of the specification's FactOrder.
-/
namespace Go.Proofs.Ytchincemlilnoaa
open Go.RowKit

end Go.Proofs.Ytchincemlilnoaa
/-
  The walks of FactsHas: the program's and the specification's.
-/
namespace Go.Proofs.Ytchincemlilnoaa
open Go.RowKit

/-- One fact of a list, as a walk reads it. -/
theorem RdFacts.get {w : World} {B c : Nat} {A : Option Addr} {fs : List LFact} (h : RdFacts w B (.slice A fs.length c) fs) {k : Nat} (hk : k < fs.length) : ∃ b o A3 c3, A = some ⟨b, o, none⟩ ∧ b < B ∧
    w.cell? ⟨b, o + k * 2, none⟩ = some (.int .i64 fs[k].1) ∧ w.cell? ⟨b, o + k * 2 + 1, none⟩ = some (.slice A3 fs[k].2.length c3) ∧ RdInts w B (.slice A3 fs[k].2.length c3) fs[k].2 := by
  obtain ⟨A', c', e, hc, h⟩ := h
  injection e with e1 e2 e3
  subst e1
  obtain ⟨b, o, rfl, hb, hx⟩ := h (by omega)
  obtain ⟨a, h1, h2, h3⟩ := hx k hk
  have h4 := h3
  obtain ⟨A3, c3, rfl, _⟩ := h3
  exact ⟨b, o, A3, c3, rfl, hb, h1, h2, h4⟩

def factsHas (fs : List LFact) (f : LFact) : Bool := fs.any fun g => factOrder g f == 0
/-- 'none of the first k is the same'. -/
def HasNot (fs : List LFact) (f : LFact) (k : Nat) : Prop := factsHas (fs.take k) f = false
theorem HasNot.step {fs : List LFact} {f : LFact} {k : Nat} (h : HasNot fs f k) (hk : k < fs.length) (e : factOrder fs[k] f ≠ 0) : HasNot fs f (k + 1) := by
  unfold HasNot factsHas at h ⊢
  rw [take_snoc fs k hk, List.any_append, h]
  simp [e]
theorem HasNot.done {fs : List LFact} {f : LFact} (h : HasNot fs f fs.length) : factsHas fs f = false := by
  unfold HasNot at h
  rwa [List.take_length] at h
theorem has_yes {fs : List LFact} {f : LFact} {k : Nat} (hk : k < fs.length) (e : factOrder fs[k] f = 0) : factsHas fs f = true := by
  unfold factsHas
  rw [List.any_eq_true]
  exact ⟨fs[k], List.getElem_mem hk, by simp [e]⟩

end Go.Proofs.Ytchincemlilnoaa
/-
  Both Holds.
-/
namespace Go.Proofs.Ytchincemlilnoaa
open Go.RowKit

/-- LitSame, LitLess: both have constants, and are the same, or the first is less. -/
def cmpB (k a b : Int) : Bool := (decide (0 ≤ a) && decide (0 ≤ b)) && (if k = 2 then decide (a = b) else decide (a < b))
def litHolds (fs : List LFact) (l : LLit) (bs : List Int) : Bool :=
  if l.1 = 2 ∨ l.1 = 3 then decide (l.2.2.length = 2) && cmpB l.1 (termVal bs (l.2.2.getD 0 0)) (termVal bs (l.2.2.getD 1 0))
  else (headOk l.2 bs && decide (0 ≤ l.1 ∧ l.1 ≤ 1)) && (factsHas fs (headOf l.2 bs) == decide (l.1 = 0))
def holdsB (fs : List LFact) (l : LLit) (bs : List Int) : Bool := (bindOk bs && l.2.2.all termOk) && litHolds fs l bs

theorem cmpB_neg {k a b : Int} (h : a < 0) : cmpB k a b = false := by unfold cmpB; rw [decide_eq_false (show ¬ 0 ≤ a by omega)]; rfl
theorem cmpB_neg2 {k a b : Int} (h : b < 0) : cmpB k a b = false := by unfold cmpB; rw [decide_eq_false (show ¬ 0 ≤ b by omega), Bool.and_false]; rfl
theorem cmpB_same {a b : Int} (h : 0 ≤ a) (h2 : 0 ≤ b) : cmpB 2 a b = decide (a = b) := by unfold cmpB; rw [decide_eq_true h, decide_eq_true h2]; simp
theorem cmpB_less {a b : Int} (h : 0 ≤ a) (h2 : 0 ≤ b) : cmpB 3 a b = decide (a < b) := by unfold cmpB; rw [decide_eq_true h, decide_eq_true h2]; simp

/-- Two values, and what a comparison of them answers. -/
theorem cmpB_cases (k a b : Int) (hk : k = 2 ∨ k = 3) : (a < 0 ∧ cmpB k a b = false) ∨ (0 ≤ a ∧ b < 0 ∧ cmpB k a b = false) ∨ (0 ≤ a ∧ 0 ≤ b ∧ cmpB k a b = (if k = 2 then a == b else decide (a < b))) := by
  rcases Int.lt_or_le a 0 with h | h
  · exact .inl ⟨h, cmpB_neg h⟩
  · rcases Int.lt_or_le b 0 with h2 | h2
    · exact .inr (.inl ⟨h, h2, cmpB_neg2 h2⟩)
    · refine .inr (.inr ⟨h, h2, ?_⟩)
      rcases hk with rfl | rfl
      · rw [cmpB_same h h2]
        rfl
      · rw [cmpB_less h h2]
        rfl

end Go.Proofs.Ytchincemlilnoaa
/-
  Both Holds: literals that an atom holds, or does not.
-/
namespace Go.Proofs.Ytchincemlilnoaa
open Go.RowKit

theorem l1In_is {n lo hi : Int} {b : Bool} (h : decide (lo ≤ n ∧ n ≤ hi) = b) (w : World) : Calls Try.prog 47 #[.int .i64 n, .int .i64 lo, .int .i64 hi] w fun e w' => e = .returned (.bool b) ∧ w = w' := h ▸ l1In_any n lo hi w

end Go.Proofs.Ytchincemlilnoaa
/-
  The specification's l3Row, l3None, l3Try.
-/
namespace Go.Proofs.Ytchincemlilnoaa
open Go.RowKit

set_option maxHeartbeats 1000000 in
set_option maxRecDepth 100000 in
theorem l3Row_any (v v2 : Value) (xs ys : List Int) (w : World) (h : RdInts w w.heap.size v xs) (h2 : RdInts w w.heap.size v2 ys) (hn : xs.length ≤ 1048576) (hn2 : ys.length ≤ 1048576) :
    Calls Try.prog 46 #[v, v2] w fun e w' => e = .returned (.int .i64 (cmpL xs ys)) ∧ Below w.heap.size w w' := by
  obtain ⟨A, c, rfl, hc, ha⟩ := h
  obtain ⟨A2, c2, rfl, hc2, hb⟩ := h2
  go_enter Try.func46, Try.ntmps46
  go_wp2_with (fail)
  go_loopw [5] (fun i wr => ∃ k : Nat, k ≤ xs.length ∧ k ≤ ys.length ∧ i = .int .i64 k ∧ CmpTo xs ys k ∧ Below w.heap.size w wr) (fun i _ => xs.length - (intOf i).toNat)
  case atStart => exact ⟨0, Nat.zero_le _, Nat.zero_le _, rfl, rfl, Below.refl _ _⟩
  case round =>
    obtain ⟨k, hk, hk2, rfl, hs, hbe⟩ := hrel
    by_cases hlt : k < xs.length
    · have hd : decide ((k : Int) < (xs.length : Int)) = true := by simp; omega
      by_cases hlt2 : k < ys.length
      · obtain ⟨b, o, rfl, hbB, hx⟩ := ha (by omega)
        obtain ⟨b2, o2, rfl, hbB2, hx2⟩ := hb (by omega)
        have hck : wr.cell? ⟨b, o + k, none⟩ = some (.int .i64 xs[k]) := (hbe.cell (p := ⟨b, o + k, none⟩) hbB).trans (hx k hlt)
        have hck2 : wr.cell? ⟨b2, o2 + k, none⟩ = some (.int .i64 ys[k]) := (hbe.cell (p := ⟨b2, o2 + k, none⟩) hbB2).trans (hx2 k hlt2)
        clear hx hx2 ha hb
        by_cases he : xs[k] = ys[k]
        · have HS := Lib.hid (show CmpTo xs ys (k + 1) by unfold CmpTo at hs ⊢; rw [hs, cmpL_at hlt hlt2, if_pos he])
          have h0 : (xs[k] != ys[k]) = false := by simp [he]
          clear he hs
          go_wp2_with (fail)
          go_quiet (fail)
          go_wp2_with (fail)
          go_roundw
          case rel => exact ⟨k + 1, by omega, by omega, by go_num, HS.out, bdrewN hbe _⟩
          case measure => simp [intOf]; omega
        · have HS := Lib.hid (show cmpL xs ys = cmpI xs[k] ys[k] by unfold CmpTo at hs; rw [hs, cmpL_at hlt hlt2, if_neg he])
          have h0 : (xs[k] != ys[k]) = true := by simp [he]
          clear he hs
          go_wp2_with (fail)
          go_quiet (fail)
          go_wp2_with (fail)
          go_quiet ((go_at_call 80; exact quiet_add_left (l1Way_any _ _ _)))
          go_wp2_with (fail)
          go_ret
          exact ⟨ret_int HS.out.symm, bdrewN (bdrewN hbe _) _⟩
      · have HS := Lib.hid (show cmpL xs ys = cmpI xs.length ys.length by
          unfold CmpTo at hs
          rw [hs, cmpL_long hlt (by omega), cmpI, if_neg (by omega), if_pos (by omega)])
        clear hs ha hb
        go_wp2_with (go_at_call 80; refine (l1Way_any _ _ _).mono ?_; rintro e w' ⟨rfl, rfl⟩)
        go_ret
        exact ⟨ret_int HS.out.symm, hbe⟩
    · have hd : decide ((k : Int) < (xs.length : Int)) = false := by simp; omega
      have HS := Lib.hid (show cmpL xs ys = cmpI xs.length ys.length by
        unfold CmpTo at hs
        by_cases h3 : xs.length < ys.length
        · rw [hs, cmpL_short (by omega) (by omega), cmpI, if_pos (by omega)]
        · rw [hs, cmpL_end (by omega) (by omega), cmpI, if_neg (by omega), if_neg (by omega)])
      clear hs ha hb
      go_wp2_with (go_at_call 80; refine (l1Way_any _ _ _).mono ?_; rintro e w' ⟨rfl, rfl⟩)
      go_ret
      exact ⟨ret_int HS.out.symm, hbe⟩

end Go.Proofs.Ytchincemlilnoaa
/-
  DERIVED: THE SHELF's CONTRACTS AT THIS DUMP, IN PLAIN WORDS (tools/lay-plain.mjs out of 'YtchincemlilnoaaIntsLay.lean', which tools/lay-shelf.mjs wrote): THE SAME DECLARATIONS UNDER THE SAME NAMES: 'import', 'namespace', 'open', 'def', 'theorem' AND NOTHING ELSE: no command of the shelf's: FOR A HAND-IN. Each laying: the table of numbers ('.._ren') and one theorem, a field a fact of the dump's own or the kernel's comparison; each contract: ONE APPLICATION.
-/
namespace Go.Proofs
open Go.Shelf
def Try.sortI_ren : Go.Shelf.Ren := ⟨fun | 189 => 82 | 125 => 90 | 257 => 89 | 128 => 100 | 129 => 101 | 294 => 91 | 295 => 92 | 296 => 93 | 297 => 94 | 298 => 95 | 299 => 96 | 216 => 97 | 300 => 98 | 301 => 99 | 328 => 102 | 329 => 103 | 330 => 104 | 331 => 105 | 332 => 106 | 215 => 88 | 343 => 107 | n => n, fun | 28 => 42 | 3 => 3 | 46 => 90 | 0 => 0 | 51 => 101 | 53 => 103 | 4 => 4 | 183 => 93 | 182 => 92 | 131 => 98 | 5 => 5 | 9 => 9 | 218 => 104 | 222 => 108 | 228 => 110 | 229 => 111 | n => n, fun | n => n⟩
theorem Try.sortI : Go.Proofs.Lays.n189 Try.prog Try.sortI_ren := {
  mixed := by kernel_rfl
  f125 := Try.func90.trans (congrArg some (by kernel_rfl))
  f128 := Try.func100.trans (congrArg some (by kernel_rfl))
  f129 := Try.func101.trans (congrArg some (by kernel_rfl))
  f189 := Try.func82.trans (congrArg some (by kernel_rfl))
  f215 := Try.func88.trans (congrArg some (by kernel_rfl))
  f216 := Try.func97.trans (congrArg some (by kernel_rfl))
  f257 := Try.func89.trans (congrArg some (by kernel_rfl))
  f294 := Try.func91.trans (congrArg some (by kernel_rfl))
  f295 := Try.func92.trans (congrArg some (by kernel_rfl))
  f296 := Try.func93.trans (congrArg some (by kernel_rfl))
  f297 := Try.func94.trans (congrArg some (by kernel_rfl))
  f298 := Try.func95.trans (congrArg some (by kernel_rfl))
  f299 := Try.func96.trans (congrArg some (by kernel_rfl))
  f300 := Try.func98.trans (congrArg some (by kernel_rfl))
  f301 := Try.func99.trans (congrArg some (by kernel_rfl))
  f328 := Try.func102.trans (congrArg some (by kernel_rfl))
  f329 := Try.func103.trans (congrArg some (by kernel_rfl))
  f330 := Try.func104.trans (congrArg some (by kernel_rfl))
  f331 := Try.func105.trans (congrArg some (by kernel_rfl))
  f332 := Try.func106.trans (congrArg some (by kernel_rfl))
  f343 := Try.func107.trans (congrArg some (by kernel_rfl))
  t0 := Try.underlying0
  a0 := Try.isAgg0
  z0 := Try.sizeOf0
  v0 := Try.zeroValue0
  t3 := Try.underlying3
  a3 := Try.isAgg3
  z3 := Try.sizeOf3
  v3 := Try.zeroValue3
  t4 := Try.underlying4
  a4 := Try.isAgg4
  z4 := Try.sizeOf4
  v4 := Try.zeroValue4
  t5 := Try.underlying5
  a5 := Try.isAgg5
  z5 := Try.sizeOf5
  v5 := Try.zeroValue5
  t9 := Try.underlying9
  a9 := Try.isAgg9
  z9 := Try.sizeOf9
  v9 := Try.zeroValue9
  t28 := Try.underlying42
  a28 := Try.isAgg42
  z28 := Try.sizeOf42
  v28 := Try.zeroValue42
  t46 := Try.underlying90
  a46 := Try.isAgg90
  z46 := Try.sizeOf90
  v46 := Try.zeroValue90
  t51 := Try.underlying101
  a51 := Try.isAgg101
  z51 := Try.sizeOf101
  v51 := Try.zeroValue101
  t53 := Try.underlying103
  a53 := Try.isAgg103
  z53 := Try.sizeOf103
  v53 := Try.zeroValue103
  t131 := Try.underlying98
  a131 := Try.isAgg98
  z131 := Try.sizeOf98
  v131 := Try.zeroValue98
  t182 := Try.underlying92
  a182 := Try.isAgg92
  z182 := Try.sizeOf92
  v182 := Try.zeroValue92
  t183 := Try.underlying93
  a183 := Try.isAgg93
  z183 := Try.sizeOf93
  v183 := Try.zeroValue93
  t218 := Try.underlying104
  a218 := Try.isAgg104
  z218 := Try.sizeOf104
  v218 := Try.zeroValue104
  t222 := Try.underlying108
  a222 := Try.isAgg108
  z222 := Try.sizeOf108
  v222 := Try.zeroValue108
  t228 := Try.underlying110
  a228 := Try.isAgg110
  z228 := Try.sizeOf110
  v228 := Try.zeroValue110
  t229 := Try.underlying111
  a229 := Try.isAgg111
  z229 := Try.sizeOf111
  v229 := Try.zeroValue111 }
def Try.compactI_ren : Go.Shelf.Ren := ⟨fun | 20 => 83 | n => n, fun | 22 => 42 | 3 => 3 | 4 => 4 | 0 => 0 | n => n, fun | n => n⟩
theorem Try.compactI : Go.Proofs.Lays2.n20 Try.prog Try.compactI_ren := {
  mixed := by kernel_rfl
  f20 := Try.func83.trans (congrArg some (by kernel_rfl))
  t0 := Try.underlying0
  a0 := Try.isAgg0
  z0 := Try.sizeOf0
  v0 := Try.zeroValue0
  t3 := Try.underlying3
  a3 := Try.isAgg3
  z3 := Try.sizeOf3
  v3 := Try.zeroValue3
  t4 := Try.underlying4
  a4 := Try.isAgg4
  z4 := Try.sizeOf4
  v4 := Try.zeroValue4
  t22 := Try.underlying42
  a22 := Try.isAgg42
  z22 := Try.sizeOf42
  v22 := Try.zeroValue42
  i3 := by kernel_rfl }
end Go.Proofs
/-
  Rows of slices of integers as results of laws: compared, marked, held.
-/
namespace Go.Proofs.Ytchincemlilnoaa
open Go.RowKit

def totSS (xss : List (List Int)) : Nat := (xss.map List.length).sum
def szRows (xss : List (List Int)) : Nat := xss.length + totSS xss
theorem totSS_at : ∀ (xss : List (List Int)) (k : Nat) (h : k < xss.length), xss[k].length ≤ totSS xss
  | x :: xss, 0, _ => by simp [totSS]
  | x :: xss, k + 1, h => by
    have := totSS_at xss k (by simpa using h)
    simp only [totSS, List.map_cons, List.sum_cons, List.getElem_cons_succ] at this ⊢
    omega
theorem totSS_take (xss : List (List Int)) (k : Nat) (h : k < xss.length) : totSS (xss.take (k + 1)) = totSS (xss.take k) + xss[k].length := by
  unfold totSS
  rw [take_snoc xss k h, List.map_append, List.sum_append]
  simp
theorem totSS_take_le : ∀ (xss : List (List Int)) (k : Nat), totSS (xss.take k) ≤ totSS xss
  | [], k => by simp
  | x :: xss, 0 => by simp [totSS]
  | x :: xss, k + 1 => by
    have := totSS_take_le xss k
    simp only [totSS, List.take_succ_cons, List.map_cons, List.sum_cons] at this ⊢
    omega
theorem totSS_few {xss : List (List Int)} {n m : Nat} (hn : xss.length ≤ n) (hm : ∀ x ∈ xss, x.length ≤ m) : totSS xss ≤ n * m := by
  have key : ∀ (l : List (List Int)), (∀ x ∈ l, x.length ≤ m) → totSS l ≤ l.length * m := by
    intro l
    induction l with
    | nil => intro _; simp [totSS]
    | cons x l ih =>
      intro h
      have h1 := h x List.mem_cons_self
      have h2 := ih fun y hy => h y (List.mem_cons_of_mem _ hy)
      simp only [totSS, List.map_cons, List.sum_cons, List.length_cons, Nat.add_mul] at h2 ⊢
      omega
  exact Nat.le_trans (key xss hm) (Nat.mul_le_mul_right m hn)

set_option maxHeartbeats 1000000 in
set_option maxRecDepth 100000 in
theorem eqIntSS_any (va vb : Value) (xs ys : List (List Int)) (w : World) (ha : RdRows w w.heap.size va xs) (hb : RdRows w w.heap.size vb ys) (hxy : xs = ys) (h1 : szRows xs ≤ 1048576) :
    Calls Try.prog 51 #[va, vb] w fun e w' => e = .returned (.bool (decide (xs = ys))) ∧ Below w.heap.size w w' := by
  subst hxy
  rw [decide_eq_true (rfl : xs = xs)]
  unfold szRows at h1
  have HA := Lib.hid ha
  have HB := Lib.hid hb
  obtain ⟨A, c, rfl, hc, _⟩ := ha
  obtain ⟨A2, c2, rfl, hc2, _⟩ := hb
  have hl1 : ((xs.length : Int) != (xs.length : Int)) = false := by simp
  go_enter Try.func51, Try.ntmps51
  go_wp2_with fail
  go_loopw [5] (fun i wr => ∃ k : Nat, k ≤ xs.length ∧ i = .int .i64 k ∧ Below w.heap.size w wr) (fun i _ => xs.length - (intOf i).toNat)
  case atStart => exact ⟨0, Nat.zero_le _, rfl, Below.refl _ _⟩
  case round =>
    obtain ⟨k, hk, rfl, hbe⟩ := hrel
    by_cases hlt : k < xs.length
    · obtain ⟨b, o, A3, c3, rfl, hbB, k0, r0⟩ := (HA.out.on hbe).get hlt
      obtain ⟨b2, o2, A4, c4, rfl, hbB2, k2, r2⟩ := (HB.out.on hbe).get hlt
      have hln := totSS_at xs k hlt
      have M0 := later_cell k0
      have M1 := later_cell k2
      have CE := Lib.hid (fun q : Later wr => (eqIntS_any (.slice A3 xs[k].length c3) (.slice A4 xs[k].length c4) xs[k] xs[k] q.val (r0.on q.2) (r2.on q.2) (by omega) (by omega)))
      simp only [decide_true] at CE
      clear k0 k2 r0 r2
      go_wp2_with fail
      refine wp_region_later (by kernel_rfl) (by kernel_rfl) ?_
      repeat (go_big_quiet_step ((go_at_call 33; exact later_of (CE.out _))))
      refine wpQuiet_nil ?_
      rintro _ ⟨xq, rfl⟩
      go_wp2_with fail
      go_roundw
      case rel => exact ⟨k + 1, by omega, by go_num, bthen hbe xq.2⟩
      case measure => simp [intOf]; omega
    · go_wp2_with fail
      go_ret
      exact ⟨rfl, hbe⟩

/-- The rows that marks from k on leave. -/
def markR : Int → List (List Int) → List (List Int)
  | _, [] => []
  | k, x :: xs => seqI k x.length :: markR (k + (x.length : Int)) xs
theorem markR_length : ∀ (k : Int) (xs : List (List Int)), (markR k xs).length = xs.length
  | _, [] => rfl
  | k, x :: xs => by simp [markR, markR_length _ xs]
theorem markR_snoc : ∀ (k : Int) (xs : List (List Int)) (x : List Int), markR k (xs ++ [x]) = markR k xs ++ [seqI (k + (totSS xs : Int)) x.length]
  | k, [], x => by simp [markR, totSS]
  | k, y :: xs, x => by
    have h := markR_snoc (k + (y.length : Int)) xs x
    have e : k + (y.length : Int) + (totSS xs : Int) = k + (totSS (y :: xs) : Int) := by simp [totSS]; omega
    rw [e] at h
    simp [markR, h]
theorem markR_at {xss : List (List Int)} {k : Int} {j : Nat} (h : j < xss.length) (h' : j < (markR k xss).length) : (markR k xss)[j] = seqI (k + (totSS (xss.take j) : Int)) xss[j].length := by
  have hp : ∀ (xs ys : List (List Int)) (k : Int), ∃ zs, markR k (xs ++ ys) = markR k xs ++ zs := by
    intro xs
    induction xs with
    | nil => intro ys k; exact ⟨_, rfl⟩
    | cons x xs ih =>
      intro ys k
      obtain ⟨zs, hz⟩ := ih ys (k + (x.length : Int))
      exact ⟨zs, by simp [markR, hz]⟩
  have e : xss = xss.take (j + 1) ++ xss.drop (j + 1) := (List.take_append_drop _ _).symm
  have hl : (markR k (xss.take j)).length = j := by rw [markR_length]; simp; omega
  obtain ⟨zs, hz⟩ := hp (xss.take (j + 1)) (xss.drop (j + 1)) k
  rw [← e, take_snoc xss j h, markR_snoc] at hz
  have : (markR k xss)[j]? = some (seqI (k + (totSS (xss.take j) : Int)) xss[j].length) := by
    rw [hz, List.append_assoc, List.getElem?_append_right (by omega), hl]
    simp
  rw [List.getElem?_eq_getElem h'] at this
  exact Option.some.inj this
/-- The first j are marked. -/
def markedR (xss : List (List Int)) (k : Int) (j : Nat) : List (List Int) := markR k (xss.take j) ++ xss.drop j
theorem markedR_step {xss : List (List Int)} {k : Int} {j : Nat} (h : j < xss.length) : (markedR xss k j).set j (seqI (k + (totSS (xss.take j) : Int)) xss[j].length) = markedR xss k (j + 1) := by
  have hl : (markR k (xss.take j)).length = j := by rw [markR_length]; simp; omega
  unfold markedR
  rw [List.drop_eq_getElem_cons h, List.set_append_right _ _ (by omega), hl, Nat.sub_self, List.set_cons_zero, take_snoc xss j h, markR_snoc]
  simp
theorem markedR_at {xss : List (List Int)} {k : Int} {j : Nat} (h : j < xss.length) (h' : j < (markedR xss k j).length) : (markedR xss k j)[j] = xss[j] := by
  have hl : (markR k (xss.take j)).length = j := by rw [markR_length]; simp; omega
  have e : (markedR xss k j)[j]? = some xss[j] := by
    unfold markedR
    rw [List.getElem?_append_right (by omega), hl]
    simp [h]
  rw [List.getElem?_eq_getElem h'] at e
  exact Option.some.inj e
theorem markedR_length {xss : List (List Int)} {k : Int} {j : Nat} (h : j ≤ xss.length) : (markedR xss k j).length = xss.length := by simp [markedR, markR_length]; omega

/-- A row of slices of the call's own, the slices named. -/
structure OwnRA (w : World) (lo hi : Nat) (v : Value) (xss : List (List Int)) (av : List Value) : Prop where
  args : OwnArgs w lo hi av xss
  row : w.ownsRow lo 42 1 v xss.length av
  lt : ∀ g, v.ownBlock = some g → g < hi
theorem OwnRA.step {w w3 : World} {lo hi j : Nat} {v : Value} {xss : List (List Int)} {av : List Value} {ys : List Int} (h : OwnRA w lo hi v xss av) (hj : j < xss.length) (hja : j < av.length)
    (hI : OwnInts w3 lo hi av[j] ys) (hg : w.grownBy w3 av[j].ownBlock) : OwnRA w3 lo hi v (xss.set j ys) av := by
  obtain ⟨ha, hr, hlt⟩ := h
  have hlen := ha.len
  have hapart : ∀ i i' (hi' : i < av.length) (hi'' : i' < av.length), i ≠ i' → ∀ b, av[i].ownBlock = some b → av[i'].ownBlock ≠ some b := by
    intro i i' h1 h2 hne b hb hb'
    have hp := List.pairwise_iff_getElem.1 ha.apart
    rcases Nat.lt_or_gt_of_ne hne with hl | hl
    · exact hp i i' h1 h2 hl b hb hb'
    · exact hp i' i h2 h1 hl b hb' hb
  refine ⟨⟨by simp [hlen], fun i h1 h2 => ?_, ha.apart⟩, ?_, hlt⟩
  · by_cases e : i = j
    · subst e
      simpa using hI
    · have h0 := ha.own i (by simpa using h1) h2
      rw [List.getElem_set_ne (Ne.symm e)]
      exact h0.kept fun b hb => hg.block b (h0.lt hb).2.2 fun e2 => hapart i j h2 hja e b hb e2.symm
  · rw [List.length_set]
    exact ownsRow_only hr fun b hb => hg.block b (hr.lt b hb).2 fun e2 => rowsI_ne hr hb (ha.own j hj hja) e2.symm

/-- The marks from k on stand in a row of slices, and end at z. -/
def HdRows (w : World) (lo hi : Nat) (v : Value) (xss : List (List Int)) (k z : Int) : Prop := OwnRows w lo hi v (markR k xss) ∧ z = k + (totSS xss : Int) ∧ 0 ≤ k ∧ k ≤ 4294967296 ∧ szRows xss ≤ 1073741824
theorem HdRows.below {w w' : World} {lo hi B : Nat} {v : Value} {xss : List (List Int)} {k z : Int} (h : HdRows w lo hi v xss k z) (hb : Below B w w') (hB : hi ≤ B) : HdRows w' lo hi v xss k z := ⟨h.1.below hb hB, h.2⟩
theorem HdRows.only {w w' : World} {lo hi lo' hi' : Nat} {v : Value} {xss : List (List Int)} {k z : Int} (h : HdRows w lo hi v xss k z) (ho : Only lo' hi' w w') (hd : hi ≤ lo' ∨ hi' ≤ lo) : HdRows w' lo hi v xss k z := ⟨h.1.only ho hd, h.2⟩

set_option maxHeartbeats 1000000 in
set_option maxRecDepth 100000 in
theorem um_rows {v : Value} {xss : List (List Int)} {lo hi : Nat} {w : World} (k : Int) (h : OwnRows w lo hi v xss) (hk0 : 0 ≤ k) (hk : k ≤ 4294967296) (hs : szRows xss ≤ 1073741824) :
    Calls Try.prog 61 #[v, .int .i64 k] w fun e w' => ∃ z, e = .returned (.int .i64 z) ∧ k ≤ z ∧ z ≤ k + szRows xss ∧ HdRows w' lo hi v xss k z ∧ Only lo hi w w' := by
  have HS := Lib.hid hs
  unfold szRows at hs
  obtain ⟨A, c, rfl⟩ := h.form
  obtain ⟨av, h1, h2, h3⟩ := h
  have H := Lib.hid (show OwnRA w lo hi (.slice A xss.length c) xss av from ⟨h1, h2, h3⟩)
  have hal := h1.len
  have HAL := Lib.hid hal
  clear h1 h2 h3 hal
  go_enter Try.func61, Try.ntmps61
  go_wp2_with fail
  go_loopw [1, 5] (fun m i wr => ∃ (j : Nat) (z : Int), j ≤ xss.length ∧ i = .int .i64 j ∧ m = .int .i64 z ∧ z = k + (totSS (xss.take j) : Int) ∧ OwnRA wr lo hi (.slice A xss.length c) (markedR xss k j) av ∧ Only lo hi w wr) (fun _ i _ => xss.length - (intOf i).toNat)
  case atStart =>
    have e : markedR xss k 0 = xss := by simp [markedR, markR]
    exact ⟨0, k, Nat.zero_le _, rfl, rfl, by simp [totSS], by rw [e]; exact H.out, Only.refl _ _ _⟩
  case round =>
    obtain ⟨j, z, hj, rfl, rfl, hz, ho, hon⟩ := hrel
    by_cases hlt : j < xss.length
    · have hml := markedR_length (k := k) (Nat.le_of_lt hlt)
      have hja : j < av.length := by rw [HAL.out]; exact hlt
      have hoj := ho.args.own j (by omega) hja
      rw [markedR_at hlt (by omega)] at hoj
      obtain ⟨A2, c2, hav⟩ := hoj.form
      have hcell : ∃ g, A = some ⟨g, 0, none⟩ ∧ wr.cell? ⟨g, j, none⟩ = some (.slice A2 xss[j].length c2) := by
        have hcells := @World.ownsRow.cells wr lo 42 1 _ _ av ho.row
        rcases ho.row.2 with ⟨e, e0⟩ | ⟨g, cap, cur, e, _⟩
        · omega
        · injection e with e1 _ _
          refine ⟨g, e1, ?_⟩
          have := hcells (g := g) (by rw [e1]; rfl) j (av[j]'hja) (by simp [hja])
          rw [Go.WideShapes.add_plain, Nat.zero_add, hav] at this
          exact this
      obtain ⟨g, rfl, hck⟩ := hcell
      have hln := totSS_at xss j hlt
      have hlt2 := totSS_take_le xss j
      have hst := totSS_take xss j hlt
      have HO := Lib.hid ho
      have HN := Lib.hid hon
      have CM := Lib.hid (markIntS_any (.slice A2 xss[j].length c2) xss[j] z lo hi wr (hav ▸ hoj) (by omega) (by omega))
      have HZ := Lib.hid hz
      have HAV := Lib.hid hav
      have HJ := Lib.hid hoj
      have HST := Lib.hid hst
      clear ho hon hoj hz hav hml hst
      go_wp2_with (go_at_call 34; refine CM.out.mono ?_; rintro e w2 ⟨rfl, o2, g2⟩; have H2 := Lib.hid (And.intro o2 g2); clear o2 g2)
      have HF := Lib.hid (show OwnRA w2 lo hi (.slice (some ⟨g, 0, none⟩) xss.length c) (markedR xss k (j + 1)) av ∧ Only lo hi w w2 from by
        obtain ⟨o2, g2⟩ := H2.out
        have hml := markedR_length (k := k) (Nat.le_of_lt hlt)
        have hs2 := HO.out.step (by omega) hja (by rw [HAV.out]; exact o2) (by rw [HAV.out]; exact g2)
        rw [HZ.out, markedR_step hlt] at hs2
        exact ⟨hs2, HN.out.trans (Only.of_grown g2 fun b hb => by have := HJ.out.lt (g := b) (by rw [HAV.out]; exact hb); omega)⟩)
      go_roundw
      case rel => exact ⟨j + 1, _, by omega, by go_num, rfl, by rw [HST.out, HZ.out]; omega, HF.out.1, HF.out.2⟩
      case measure => simp [intOf]; omega
    · have hjn : j = xss.length := by omega
      have HF := Lib.hid (show HdRows wr lo hi (.slice A xss.length c) xss k z ∧ Only lo hi w wr ∧ k ≤ z ∧ z ≤ k + szRows xss from by
        rw [hjn, List.take_length] at hz
        rw [hjn] at ho
        have e : markedR xss k xss.length = markR k xss := by simp [markedR]
        rw [e] at ho
        exact ⟨⟨⟨av, ho.args, ho.row, ho.lt⟩, hz, hk0, hk, HS.out⟩, hon, by omega, by unfold szRows; omega⟩)
      clear hjn hz ho hon
      go_wp2_with fail
      go_ret
      exact ⟨z, rfl, HF.out.2.2.1, HF.out.2.2.2, HF.out.1, HF.out.2.1⟩

set_option maxHeartbeats 1000000 in
set_option maxRecDepth 100000 in
theorem uh_rows {v : Value} {xss : List (List Int)} {lo hi : Nat} {w : World} {k z : Int} (h : HdRows w lo hi v xss k z) (hh : hi ≤ w.heap.size) :
    Calls Try.prog 62 #[v, .int .i64 k] w fun e w' => e = .returned (.int .i64 z) ∧ Below w.heap.size w w' := by
  obtain ⟨ho, hz, hk0, hk, hs⟩ := h
  unfold szRows at hs
  have hml := markR_length k xss
  have H := Lib.hid (ho.rd.more hh)
  obtain ⟨A, c, rfl⟩ := ho.form
  have HML := Lib.hid hml
  have HZ := Lib.hid hz
  rw [hml] at H ⊢
  clear ho hml hz
  go_enter Try.func62, Try.ntmps62
  go_wp2_with fail
  go_loopw [1, 5] (fun m i wr => ∃ (j : Nat) (y : Int), j ≤ xss.length ∧ i = .int .i64 j ∧ m = .int .i64 y ∧ y = k + (totSS (xss.take j) : Int) ∧ wr = w) (fun _ i _ => xss.length - (intOf i).toNat)
  case atStart => exact ⟨0, k, by simp [totSS]⟩
  case round =>
    obtain ⟨j, y, hj, rfl, rfl, hy, rfl⟩ := hrel
    by_cases hlt : j < xss.length
    · have hlt' : j < (markR k xss).length := by rw [HML.out]; exact hlt
      have hat := H.out
      rw [← HML.out] at hat
      obtain ⟨b, o, A2, c2, rfl, hbB, k0, r0⟩ := hat.get hlt'
      rw [markR_at hlt hlt', seqI_length] at k0
      rw [markR_at hlt hlt', ← hy, seqI_length] at r0
      have hln := totSS_at xss j hlt
      have hlt2 := totSS_take_le xss j
      have CM := Lib.hid (heldIntS_any (.slice A2 xss[j].length c2) xss[j].length y wr r0 (by omega) (by omega))
      have HST := Lib.hid (totSS_take xss j hlt)
      have HY := Lib.hid hy
      have hneg : decide (y + (xss[j].length : Int) < 0) = false := decide_eq_false (by omega)
      clear r0 hat hy
      go_wp2_with (go_at_call 85; refine CM.out.mono ?_; rintro e w2 ⟨rfl, rfl⟩)
      go_roundw
      case rel => exact ⟨j + 1, _, by omega, by go_num, rfl, by rw [HST.out, HY.out]; omega, by first | trivial | rfl⟩
      case measure => simp [intOf]; omega
    · have HF := Lib.hid (show y = z by rw [HZ.out, hy, show j = xss.length by omega, List.take_length])
      clear hy
      go_wp2_with fail
      go_ret
      exact ⟨ret_int HF.out, Below.refl _ _⟩

end Go.Proofs.Ytchincemlilnoaa
/-
  Marks on integers, in the one form that the laws' walks ask.
-/
namespace Go.Proofs.Ytchincemlilnoaa
open Go.RowKit

/-- The marks from k on stand in a row of integers, and end at z. -/
def HdInts (w : World) (lo hi : Nat) (v : Value) (xs : List Int) (k z : Int) : Prop := OwnInts w lo hi v (seqI k xs.length) ∧ z = k + xs.length ∧ 0 ≤ k ∧ k ≤ 4294967296 ∧ xs.length ≤ 1073741824
theorem HdInts.below {w w' : World} {lo hi B : Nat} {v : Value} {xs : List Int} {k z : Int} (h : HdInts w lo hi v xs k z) (hb : Below B w w') (hB : hi ≤ B) : HdInts w' lo hi v xs k z := ⟨h.1.below hb hB, h.2⟩
theorem HdInts.only {w w' : World} {lo hi lo' hi' : Nat} {v : Value} {xs : List Int} {k z : Int} (h : HdInts w lo hi v xs k z) (ho : Only lo' hi' w w') (hd : hi ≤ lo' ∨ hi' ≤ lo) : HdInts w' lo hi v xs k z := ⟨h.1.only ho hd, h.2⟩

theorem um_ints {v : Value} {xs : List Int} {lo hi : Nat} {w : World} (k : Int) (h : OwnInts w lo hi v xs) (hk0 : 0 ≤ k) (hk : k ≤ 4294967296) (hs : xs.length ≤ 1073741824) :
    Calls Try.prog 34 #[v, .int .i64 k] w fun e w' => ∃ z, e = .returned (.int .i64 z) ∧ k ≤ z ∧ z ≤ k + xs.length ∧ HdInts w' lo hi v xs k z ∧ Only lo hi w w' :=
  (markIntS_any v xs k lo hi w h hk0 (by omega)).mono fun _ _ ⟨he, ho, hg⟩ =>
    ⟨_, he, by omega, Int.le_refl _, ⟨ho, rfl, hk0, hk, hs⟩, Only.of_grown hg (fun g hg' => by have := h.lt hg'; omega)⟩

theorem uh_ints {v : Value} {xs : List Int} {lo hi : Nat} {w : World} {k z : Int} (h : HdInts w lo hi v xs k z) (hh : hi ≤ w.heap.size) :
    Calls Try.prog 85 #[v, .int .i64 k] w fun e w' => e = .returned (.int .i64 z) ∧ Below w.heap.size w w' :=
  (heldIntS_any v xs.length k w (h.1.rd.more hh) h.2.2.1 (by have := h.2.2.2.1; have := h.2.2.2.2; omega)).mono fun _ _ ⟨he, hw⟩ => ⟨by rw [he, h.2.1], hw ▸ Below.refl _ _⟩

end Go.Proofs.Ytchincemlilnoaa
/-
  Relations: the words; the walks of the laws' helpers on rows of slices and on relations.
-/
namespace Go.Proofs.Ytchincemlilnoaa
open Go.RowKit

abbrev LRel := Int × List (List Int)
/-- The struct value v reads as a relation, in blocks below B. -/
def RdRel (w : World) (B : Nat) (v : Value) (r : LRel) : Prop := ∃ a, v = .agg #[.int .i64 r.1, a] ∧ RdRows w B a r.2
theorem RdRel.below {w w' : World} {B B' : Nat} {v : Value} {r : LRel} (h : RdRel w B v r) (hb : Below B' w w') (hB : B ≤ B') : RdRel w' B v r := by
  obtain ⟨a, rfl, h⟩ := h
  exact ⟨a, rfl, h.below hb hB⟩
theorem RdRel.more {w : World} {B B' : Nat} {v : Value} {r : LRel} (h : RdRel w B v r) (hB : B ≤ B') : RdRel w B' v r := by
  obtain ⟨a, rfl, h⟩ := h
  exact ⟨a, rfl, h.more hB⟩
theorem RdRel.on {w w' : World} {v : Value} {r : LRel} (h : RdRel w w.heap.size v r) (hb : Below w.heap.size w w') : RdRel w' w'.heap.size v r := (h.below hb (Nat.le_refl _)).more hb.size

/-- A relation that a statement has laid in a box: box g, its rows in blocks from lo on and below hi, g not among them. -/
structure BoxRel (O : World → Nat → Nat → Value → List (List Int) → Prop) (w0 wx : World) (g lo hi : Nat) (r : LRel) (A : Option Addr) (c : Nat) : Prop where
  below : Below w0.heap.size w0 wx
  box : Blk wx g 27 #[.int .i64 r.1, .slice A r.2.length c]
  rows : O wx lo hi (.slice A r.2.length c) r.2
  glo : w0.heap.size ≤ g
  glt : g < wx.heap.size
  lole : w0.heap.size ≤ lo
  hile : hi ≤ wx.heap.size
  apart : g < lo ∨ hi ≤ g
theorem BoxRel.made {O : World → Nat → Nat → Value → List (List Int) → Prop} (hO : ∀ {w w' : World} {lo hi lo' hi' : Nat} {v : Value} {xss : List (List Int)}, O w lo hi v xss → Only lo' hi' w w' → (hi ≤ lo' ∨ hi' ≤ lo) → O w' lo hi v xss)
    {w0 W : World} {g lo hi c : Nat} {r : LRel} {A : Option Addr} (hb : Below w0.heap.size w0 W) (hx : Blk W g 27 #[.int .i64 0, .slice none 0 0]) (ho : O W lo hi (.slice A r.2.length c) r.2) (h1 : w0.heap.size ≤ g) (h2 : w0.heap.size ≤ lo) (h3 : hi ≤ W.heap.size) (h4 : g < lo ∨ hi ≤ g) :
    BoxRel O w0 ((W.setCell ⟨g, 0, none⟩ (.int .i64 r.1)).setCell ⟨g, 1, none⟩ (.slice A r.2.length c)) g lo hi r A c := by
  refine ⟨(hb.setCell (by simpa using h1) _).setCell (by simpa using h1) _, by simpa using (hx.set_ 0 (.int .i64 r.1)).set_ 1 (.slice A r.2.length c), ?_, h1, by simpa using hx.lt, h2, by simpa using h3, h4⟩
  have k1 := hO ho (Only.setCell (Only.refl g (g + 1) W) (p := ⟨g, 0, none⟩) ⟨Nat.le_refl _, by simp⟩ (.int .i64 r.1)) (by omega)
  exact hO k1 (Only.setCell (Only.refl g (g + 1) _) (p := ⟨g, 1, none⟩) ⟨Nat.le_refl _, by simp⟩ (.slice A r.2.length c)) (by omega)

/-- A row of slices that make has laid and a loop fills: the first are there, the rest is nil. -/
structure FillS (w wr : World) (xss : List (List Int)) (k : Nat) (av : List Value) : Prop where
  below : Below w.heap.size w wr
  len : av.length = k
  args : OwnArgs wr (w.heap.size + 1) wr.heap.size av (xss.take k)
  row : wr.rowIs w.heap.size 42 xss.length (fun j => av.getD j (.slice none 0 0))
  lt : w.heap.size < wr.heap.size
theorem FillS.start {w : World} {xss : List (List Int)} {w1 : World} (hb : Below w.heap.size w w1) (hlt : w.heap.size < w1.heap.size) (h : w1.rowIs w.heap.size 42 xss.length (fun _ => .slice none 0 0)) : FillS w w1 xss 0 [] :=
  ⟨hb, rfl, by simpa using OwnArgs.nil, by simpa using h, hlt⟩
theorem rowIs_at {w w' : World} {g n : Nat} {t : TypeId} {D : Nat → Value} (h : w.rowIs g t n D) (e : w'.heap[g]? = w.heap[g]?) : w'.rowIs g t n D := by
  obtain ⟨c, hb, r⟩ := h
  exact ⟨c, e.trans hb, r⟩
theorem OwnInts.none (w : World) (lo hi : Nat) : OwnInts w lo hi (.slice none 0 0) [] := ⟨by simpa using World.ownsRow_nil w lo 3 1, fun g hg => by cases hg⟩
theorem FillS.on {w wr w4 : World} {xss : List (List Int)} {k : Nat} {av : List Value} (h : FillS w wr xss k av) (hb : Below wr.heap.size wr w4) : FillS w w4 xss k av :=
  ⟨bthen h.below hb, h.len, (h.args.below hb (Nat.le_refl _)).mono (Nat.le_refl _) hb.size, rowIs_at h.row (hb.block _ h.lt), Nat.lt_of_lt_of_le h.lt hb.size⟩
theorem FillS.step {w wr w4 : World} {xss : List (List Int)} {k : Nat} {av : List Value} {u : Value} (h : FillS w wr xss k av) (hk : k < xss.length) (hb : Below wr.heap.size wr w4) (hu : OwnInts w4 wr.heap.size w4.heap.size u xss[k]) :
    FillS w (w4.setCell ⟨w.heap.size, k, .none⟩ u) xss (k + 1) (av ++ [u]) := by
  have h4 := h.on hb
  have hlt := h.lt
  have hs := hb.size
  refine ⟨h4.below.setCell (Nat.le_refl _) _, by simp [h.len], ?_, ?_, by simpa using h4.lt⟩
  · rw [take_snoc xss k hk]
    have h1 := (h.args.below hb (Nat.le_refl _)).snoc hu (by omega) hs
    have h2 := h1.set (p := ⟨w.heap.size, k, .none⟩) (.inl (by simp)) u
    simpa using h2
  · refine (h4.row.set k u).congr fun j hj => ?_
    by_cases e : j = k
    · subst e
      simp [h.len]
    · rw [if_neg e]
      by_cases e2 : j < k
      · simp [List.getElem?_append_left (show j < av.length by rw [h.len]; exact e2)]
      · simp only [List.getD_eq_getElem?_getD]
        rw [List.getElem?_eq_none (by rw [h.len]; omega), List.getElem?_eq_none (by simp [h.len]; omega)]
theorem FillS.done {w wr : World} {xss : List (List Int)} {av : List Value} (h : FillS w wr xss xss.length av) (hm : xss.length ≤ maxLen) : OwnRows wr w.heap.size wr.heap.size (.slice (some ⟨w.heap.size, 0, none⟩) xss.length xss.length) xss := by
  have ha := h.args
  rw [List.take_length] at ha
  obtain ⟨c, hb, hn, hc⟩ := h.row
  refine ⟨av, ha.mono (by omega) (Nat.le_refl _), ⟨by simp [h.len], .inr ⟨w.heap.size, xss.length, c, rfl, Nat.le_refl _, hb, Nat.le_refl _, hm, by simp [hn], ?_⟩⟩, fun g hg => ?_⟩
  · apply List.ext_getElem?
    intro j
    by_cases hj : j < xss.length
    · rw [List.getElem?_take_of_lt (by omega), Array.getElem?_toList, hc j hj]
      have : j < av.length := by rw [h.len]; exact hj
      simp [this]
    · rw [List.getElem?_eq_none (by simp; omega), List.getElem?_eq_none (by rw [h.len]; omega)]
  · simp [Value.ownBlock] at hg
    have := h.lt
    omega

set_option maxHeartbeats 1000000 in
set_option maxRecDepth 100000 in
theorem toIntSS_any (v : Value) (xss : List (List Int)) (w : World) (h : RdRows w w.heap.size v xss) (hn : szRows xss ≤ 1048576) :
    Calls Try.prog 48 #[v] w fun e w' => ∃ A' c', e = .returned (.slice A' xss.length c') ∧ OwnRows w' w.heap.size w'.heap.size (.slice A' xss.length c') xss ∧ Below w.heap.size w w' := by
  unfold szRows at hn
  have hmk := run_make_row' (P := Try.prog) 22 42 (.slice none 0 0) 24 Try.underlying22 Try.infoIntS rfl .i64 .i64 xss.length (by omega) (by omega)
  have H := Lib.hid h
  obtain ⟨A, c, rfl, hc, _⟩ := h
  go_enter Try.func48, Try.ntmps48
  go_wp2_with fail
  go_loopw [4] (fun i wr => ∃ (k : Nat) (av : List Value), k ≤ xss.length ∧ i = .int .i64 k ∧ FillS w wr xss k av) (fun i _ => xss.length - (intOf i).toNat)
  case atStart => exact ⟨0, [], Nat.zero_le _, rfl, FillS.start (below1 _ _) (by simp) (World.rowIs_made w _ _ _)⟩
  case round =>
    obtain ⟨k, av, hk, rfl, hr⟩ := hrel
    by_cases hlt : k < xss.length
    · obtain ⟨b, o, A2, c2, rfl, hbB, k0, r0⟩ := (H.out.on hr.below).get hlt
      have HR := Lib.hid hr
      have hln := totSS_at xss k hlt
      clear hr
      go_wp2_with fail
      refine (toIntS_any _ xss[k] _ r0 (by omega)).mono ?_
      rintro e w4 ⟨A4, c4, rfl, ho, hb4⟩
      have h4 := HR.out.on hb4
      have hc2 := h4.row.cell hlt
      have hf2 := h4.row.frozen k
      have HS := Lib.hid (HR.out.step hlt hb4 ho)
      clear h4 ho hb4
      go_wp2_with fail
      go_roundw
      case rel => exact ⟨k + 1, _, by omega, by go_num, HS.out⟩
      case measure => simp [intOf]; omega
    · have hkn : k = xss.length := by omega
      have HO := Lib.hid (show OwnRows wr w.heap.size wr.heap.size (.slice (some ⟨w.heap.size, 0, none⟩) xss.length xss.length) xss from FillS.done (by rw [hkn] at hr; exact hr) (by unfold maxLen; omega))
      have hbe := hr.below
      clear hkn hr
      go_wp2_with fail
      go_ret
      exact ⟨_, _, rfl, HO.out, hbe⟩

def SzToR (r left : Int) (n m : Nat) : Prop := 0 ≤ r ∧ r + n + m = left
set_option maxHeartbeats 1000000 in
theorem us_rows {v : Value} {xss : List (List Int)} {left : Int} {w : World} (h : RdRows w w.heap.size v xss) (h0 : 0 ≤ left) (hl : left ≤ 1048576) (hn : xss.length ≤ maxLen) (hm : ∀ k (h : k < xss.length), xss[k].length ≤ maxLen) :
    Calls Try.prog 45 #[v, .int .i64 left] w fun e w' => ∃ z, e = .returned (.int .i64 z) ∧ (z = -1 ∨ (0 ≤ z ∧ z + szRows xss = left)) ∧ Below w.heap.size w w' := by
  have H := Lib.hid h
  unfold maxLen at hn
  obtain ⟨A, c, rfl, hc, _⟩ := h
  by_cases hneg : left - (xss.length : Int) < 0
  · go_enter Try.func45, Try.ntmps45
    go_wp2_with (fail)
    go_ret
    exact ⟨_, rfl, .inl rfl, Below.refl _ _⟩
  · go_enter Try.func45, Try.ntmps45
    go_wp2_with (fail)
    go_loopw [1, 5] (fun l i wr => ∃ (k : Nat) (r : Int), k ≤ xss.length ∧ i = .int .i64 k ∧ l = .int .i64 r ∧ SzToR r left xss.length (totSS (xss.take k)) ∧ Below w.heap.size w wr) (fun _ i _ => xss.length - (intOf i).toNat)
    case atStart => exact ⟨0, _, Nat.zero_le _, rfl, rfl, ⟨by omega, by simp [totSS]⟩, Below.refl _ _⟩
    case round =>
      obtain ⟨k, r, hk, rfl, rfl, hs, hbe⟩ := hrel
      by_cases hlt : k < xss.length
      · obtain ⟨b, o, A2, c2, rfl, hbB, k0, r0⟩ := (H.out.on hbe).get hlt
        have m1 := hm k hlt
        unfold maxLen at m1
        have htk := totSS_take xss k hlt
        have hr0 := hs.1
        have hr1 := hs.2
        have hr2 : r ≤ 1048576 := by omega
        have HT := Lib.hid (And.intro htk hr1)
        have hcs := szV_cases r xss[k].length
        clear htk hr1 r0
        go_wp2_with (fail)
        refine (szIntS_any _ _ _ _ _ hr0 hr2 (by omega)).mono ?_
        rintro e w4 ⟨rfl, rfl⟩
        rcases hcs with ⟨e3, _⟩ | ⟨e3, e4⟩
        · rw [e3]
          clear e3
          go_wp2_with (fail)
          go_ret
          exact ⟨_, rfl, .inl rfl, hbe⟩
        · obtain ⟨q, hq⟩ : ∃ q, q = szV r xss[k].length := ⟨_, rfl⟩
          rw [← hq] at e3 e4 ⊢
          have hq1 : ¬ q < 0 := by omega
          have HS := Lib.hid (show SzToR q left xss.length (totSS (xss.take (k + 1))) from ⟨e3, by have := HT.out; omega⟩)
          clear e3 e4 hq
          go_wp2_with (fail)
          go_roundw
          case rel => exact ⟨k + 1, _, by omega, by go_num, rfl, HS.out, hbe⟩
          case measure => simp [intOf]; omega
      · have hkn : k = xss.length := by omega
        have HE := Lib.hid (show r = -1 ∨ (0 ≤ r ∧ r + szRows xss = left) from .inr ⟨hs.1, by have := hs.2; rw [hkn, List.take_length] at this; unfold szRows; omega⟩)
        clear hkn hs
        go_wp2_with (fail)
        go_ret
        exact ⟨_, rfl, HE.out, hbe⟩

set_option maxHeartbeats 400000 in
theorem us_rel {v : Value} {r : LRel} {left : Int} {w : World} (h : RdRel w w.heap.size v r) (h0 : 0 ≤ left) (hl : left ≤ 1048576) (hn : r.2.length ≤ maxLen) (hm : ∀ k (h : k < r.2.length), r.2[k].length ≤ maxLen) :
    Calls Try.prog 13 #[v, .int .i64 left] w fun e w' => ∃ z, e = .returned (.int .i64 z) ∧ (z = -1 ∨ (0 ≤ z ∧ z + szRows r.2 = left)) ∧ Below w.heap.size w w' := by
  obtain ⟨a, rfl, h⟩ := h
  have H := Lib.hid h
  obtain ⟨A, c, rfl, hc, _⟩ := h
  go_enter Try.func13, Try.ntmps13
  go_wp2_with (fail)
  refine (us_rows (H.out.on (below1 _ _)) h0 hl hn hm).mono ?_
  rintro e w4 ⟨z, rfl, hz, hb⟩
  have hB := bthen (below1 _ _) hb
  rcases hz with rfl | ⟨z1, z2⟩
  · go_wp2_with (fail)
    go_ret
    exact ⟨_, rfl, .inl rfl, hB⟩
  · have hz0 : ¬ z < 0 := by omega
    have HZ := Lib.hid z2
    clear z2
    go_wp2_with (fail)
    go_ret
    exact ⟨_, rfl, .inr ⟨z1, HZ.out⟩, hB⟩

set_option maxHeartbeats 400000 in
theorem toRel_any (v : Value) (r : LRel) (w : World) (h : RdRel w w.heap.size v r) (hn : szRows r.2 ≤ 1048576) :
    Calls Try.prog 15 #[v] w fun e w' => ∃ A' c', e = .returned (.agg #[.int .i64 r.1, .slice A' r.2.length c']) ∧ OwnRows w' w.heap.size w'.heap.size (.slice A' r.2.length c') r.2 ∧ Below w.heap.size w w' := by
  obtain ⟨a, rfl, h⟩ := h
  have H := Lib.hid h
  obtain ⟨A, c, rfl, hc, _⟩ := h
  go_enter Try.func15, Try.ntmps15
  go_wp2_with (fail)
  refine (toIntSS_any _ r.2 _ (H.out.on (below3 _ _ _ _)) hn).mono ?_
  rintro e w4 ⟨A4, c4, rfl, ho, hb⟩
  have hB := bthen (below3 _ _ _ _) hb
  have b1 : Blk w4 (w.heap.size + 1) 27 #[.int .i64 0, .slice none 0 0] := ((by simpa using (Blk.new (w.alloc (Obj.cells #[Value.int IntKind.i64 r.fst, Value.slice A r.snd.length c] 24)) _ _).alloc _ : Blk _ _ _ _)).below hb (by simp)
  have b2 : Blk w4 (w.heap.size + 2) 27 #[.int .i64 r.1, .slice none 0 0] := ((by simpa using Blk.new ((w.alloc (Obj.cells #[Value.int IntKind.i64 r.fst, Value.slice A r.snd.length c] 24)).alloc (Obj.cells #[.int .i64 0, .slice none 0 0] 27)) _ _ : Blk _ _ _ _)).below hb (by simp)
  have b1c0 : w4.cell? ⟨w.heap.size + 1, 0, none⟩ = some (.int .i64 0) := b1.cell 0
  have b1c1 : w4.cell? ⟨w.heap.size + 1, 1, none⟩ = some (.slice none 0 0) := b1.cell 1
  have b2c0 : w4.cell? ⟨w.heap.size + 2, 0, none⟩ = some (.int .i64 r.1) := b2.cell 0
  have b2c1 : w4.cell? ⟨w.heap.size + 2, 1, none⟩ = some (.slice none 0 0) := b2.cell 1
  have b1f0 := b1.frozen 0
  have b1f1 := b1.frozen 1
  have b2f0 := b2.frozen 0
  have b2f1 := b2.frozen 1
  have HO := Lib.hid (show ∀ u1 u2 u3, OwnRows (((w4.setCell ⟨w.heap.size + 2, 1, none⟩ u1).setCell ⟨w.heap.size + 1, 0, none⟩ u2).setCell ⟨w.heap.size + 1, 1, none⟩ u3) w.heap.size w4.heap.size (.slice A4 r.2.length c4) r.2 from fun u1 u2 u3 => by
    have k : ∀ {W : World} {i j : Nat} (u : Value), i < w.heap.size + 3 → OwnRows W (w.heap.size + 3) w4.heap.size (.slice A4 r.2.length c4) r.2 → OwnRows (W.setCell ⟨i, j, none⟩ u) (w.heap.size + 3) w4.heap.size (.slice A4 r.2.length c4) r.2 := fun {W i j} u hi h =>
      h.only (Only.setCell (Only.refl 0 (w.heap.size + 3) W) (p := ⟨i, j, none⟩) ⟨Nat.zero_le _, hi⟩ u) (.inr (Nat.le_refl _))
    have h0 : OwnRows w4 (w.heap.size + 3) w4.heap.size (.slice A4 r.2.length c4) r.2 := ho.mono (by simp) (Nat.le_refl _)
    exact (k u3 (by omega) (k u2 (by omega) (k u1 (by omega) h0))).mono (by omega) (Nat.le_refl _))
  clear ho
  go_wp2_with (fail)
  refine bodyPost_ret (v := .agg #[.int .i64 r.1, .slice A4 r.2.length c4]) (by simp [results, Try.results15, go_sem, b1c0, b1c1]) rfl ⟨_, _, rfl, ?_, ?_⟩
  · exact (HO.out _ _ _).mono (Nat.le_refl _) (by simp)
  · exact ((hB.setCell (by simp <;> omega) _).setCell (by simp <;> omega) _).setCell (by simp <;> omega) _

set_option maxHeartbeats 400000 in
theorem eqRel_any (v v2 : Value) (f g : LRel) (w : World) (h : RdRel w w.heap.size v f) (h2 : RdRel w w.heap.size v2 g) (hfg : f = g) (hn : szRows f.2 ≤ 1048576) :
    Calls Try.prog 17 #[v, v2] w fun e w' => e = .returned (.bool (decide (f = g))) ∧ Below w.heap.size w w' := by
  subst hfg
  rw [decide_eq_true (rfl : f = f)]
  obtain ⟨a, rfl, h⟩ := h
  have H := Lib.hid h
  obtain ⟨A, c, rfl, hc, _⟩ := h
  obtain ⟨a, rfl, h2⟩ := h2
  have H2 := Lib.hid h2
  obtain ⟨A2, c2, rfl, hc2, _⟩ := h2
  have hpb : (f.1 != f.1) = false := by simp
  go_enter Try.func17, Try.ntmps17
  go_wp2_with (fail)
  refine (eqIntSS_any _ _ f.2 f.2 _ (H.out.on (below2 _ _ _)) (H2.out.on (below2 _ _ _)) rfl hn).mono ?_
  rw [decide_eq_true (rfl : f.2 = f.2)]
  rintro e w4 ⟨rfl, hb⟩
  have hB := bthen (below2 _ _ _) hb
  go_wp2_with (fail)
  go_ret
  exact ⟨rfl, hB⟩

set_option maxHeartbeats 400000 in
theorem um_rel {a : Value} {p : Int} {xss : List (List Int)} {lo hi : Nat} {w : World} (k : Int) (h : OwnRows w lo hi a xss) (hlo : hi ≤ w.heap.size) (hk0 : 0 ≤ k) (hk : k ≤ 4294967296) (hs : szRows xss ≤ 1073741824) :
    Calls Try.prog 24 #[.agg #[.int .i64 p, a], .int .i64 k] w fun e w' => ∃ z, e = .returned (.int .i64 z) ∧ k ≤ z ∧ z ≤ k + szRows xss ∧ HdRows w' lo hi a xss k z ∧ Only lo hi w w' := by
  have H := Lib.hid (fun o => h.below (below1 w o) hlo)
  obtain ⟨A, c, rfl⟩ := h.form
  clear h
  go_enter Try.func24, Try.ntmps24
  go_wp2_with (fail)
  refine (um_rows k (H.out _) hk0 hk hs).mono ?_
  rintro e w2 ⟨z, rfl, h1, h2, h3, h4⟩
  have HH := Lib.hid (And.intro h3 ((Only.of_below (below1 _ _)).trans h4))
  clear h3 h4
  go_wp2_with (fail)
  go_ret
  exact ⟨_, rfl, h1, h2, HH.out.1, HH.out.2⟩

set_option maxHeartbeats 400000 in
theorem uh_rel {a : Value} {p : Int} {xss : List (List Int)} {lo hi : Nat} {w : World} {k z : Int} (h : HdRows w lo hi a xss k z) (hh : hi ≤ w.heap.size) :
    Calls Try.prog 25 #[.agg #[.int .i64 p, a], .int .i64 k] w fun e w' => e = .returned (.int .i64 z) ∧ Below w.heap.size w w' := by
  have H := Lib.hid (fun o => h.below (below1 w o) hh)
  obtain ⟨h1, h2, h3, h4, h5⟩ := h
  obtain ⟨A, c, hv⟩ := h1.form
  rw [markR_length] at hv
  rw [hv] at H ⊢
  have hz : ¬ z < 0 := by omega
  have hz2 : decide (z < 0) = false := by simp; omega
  clear h1 h2 hv
  go_enter Try.func25, Try.ntmps25
  go_wp2_with (fail)
  refine (uh_rows (H.out _) (Nat.le_trans hh (below1 _ _).size)).mono ?_
  rintro e w2 ⟨rfl, hb⟩
  have hB := bthen (below1 _ _) hb
  go_wp2_with (fail)
  go_ret
  exact ⟨rfl, hB⟩

end Go.Proofs.Ytchincemlilnoaa
/-
  slices.Sort and slices.Compact at integers.
-/
namespace Go.Proofs.Ytchincemlilnoaa
open Go.RowKit Go.Sort

section
variable {w : World} {g c lo hi : Nat}
theorem heap_putI (w : World) (g q : Nat) (d : Array Int) (os : Array Obj) {cur : Array Value} {t : TypeId} (hg : w.heap[g]? = some (.cells cur t (0, 0))) :
    (Sort.grow (putRow (Value.int .i64) (Sort.ahead w q) g 0 d) os).heap[g]? = some (.cells (putCells (Value.int .i64) 0 d cur) t (0, 0)) := by
  have hlt : g < w.heap.size := Blk.lt (w := w) (t := t) (cs := cur) hg
  simp only [putRow, mapBlock, Sort.grow, Sort.ahead, Array.getElem?_append, Array.size_modify]
  rw [if_pos hlt, Array.getElem?_modify, if_pos rfl, hg]
  rfl
theorem Only.putI (w : World) (g q : Nat) (d : Array Int) (os : Array Obj) : Only g (g + 1) w (Sort.grow (putRow (Value.int .i64) (Sort.ahead w q) g 0 d) os) := by
  refine ⟨rfl, rfl, rfl, ?_, fun k hk ho => ?_⟩
  · simp [putRow, mapBlock, Sort.grow, Sort.ahead]
  · have hne : ¬ g = k := by omega
    simp only [putRow, mapBlock, Sort.grow, Sort.ahead, Array.getElem?_append, Array.size_modify, Array.getElem?_modify, hne, if_false]
    rw [if_pos hk]
theorem growI_none (w : World) : Sort.grow w #[] = w := by simp [Sort.grow]
theorem OnlyI.wide {w w' : World} (h : Only g (g + 1) w w') (h1 : lo ≤ g) (h2 : g < hi) : Only lo hi w w' := ⟨h.os, h.tape, h.output, h.size, fun k hk ho => h.block k hk (by omega)⟩
/-- What an owned row of integers is, when it is not nil. -/
theorem OwnInts.rowI {v : Value} {zs : List Int} (h : OwnInts w lo hi v zs) : (v = .slice Option.none 0 0 ∧ zs = []) ∨ ∃ g c cur, v = .slice (some ⟨g, 0, Option.none⟩) zs.length c ∧ lo ≤ g ∧ g < hi ∧ g < w.heap.size ∧ w.heap[g]? = some (.cells cur 3 (0, 0)) ∧ zs.length ≤ c ∧ c ≤ maxLen ∧ cur.size = c ∧ cur.toList.take zs.length = zs.map (Value.int .i64) := by
  obtain ⟨⟨hl, h⟩, hlt⟩ := h
  rcases h with ⟨rfl, h0⟩ | ⟨g, cap, cur, rfl, hb, hg, h1, h2, h3, h4⟩
  · exact .inl ⟨rfl, List.eq_nil_of_length_eq_zero h0⟩
  · exact .inr ⟨g, cap, cur, rfl, hb, hlt g rfl, Blk.lt (w := w) (t := 3) (cs := cur) hg, hg, h1, h2, by simpa using h3, by simpa using h4⟩
theorem OwnInts.holdsI {zs : List Int} (h : OwnInts w lo hi (.slice (some ⟨g, 0, Option.none⟩) zs.length c) zs) : Holds (Value.int .i64) w g 0 zs.toArray := fun j hj => by
  have hj2 : j < zs.length := by simpa using hj
  rcases h.rowI with ⟨e, _⟩ | ⟨g', c', cur, e, _, _, _, hg, _⟩
  · cases e
  · injection e with e1 _ _
    injection e1 with e1
    injection e1 with e1
    subst e1
    refine ⟨?_, by simp [World.frozen?, hg]⟩
    obtain ⟨A, cc, e2, _, hx⟩ := h.rd
    injection e2 with e2 _ _
    obtain ⟨b, o, e3, _, hk⟩ := hx (by omega)
    rw [e3] at e2
    injection e2 with e2
    injection e2 with e4 e5
    subst e4 e5
    rw [hk j hj2, getElem!_pos zs.toArray j hj]
    simp
theorem OwnInts.putI {zs : List Int} (h : OwnInts w lo hi (.slice (some ⟨g, 0, Option.none⟩) zs.length c) zs) (q : Nat) (d : List Int) (hs : d.length = zs.length) (os : Array Obj) :
    OwnInts (Sort.grow (putRow (Value.int .i64) (Sort.ahead w q) g 0 d.toArray) os) lo hi (.slice (some ⟨g, 0, Option.none⟩) d.length c) d := by
  rcases h.rowI with ⟨e, _⟩ | ⟨g', c', cur, e, h1, h2, h3, hg, h4, h5, h6, h7⟩
  · cases e
  · injection e with e1 _ e2
    injection e1 with e1
    injection e1 with e1
    subst e1 e2
    refine ⟨⟨by simp, .inr ⟨g, c, _, rfl, h1, heap_putI w g q d.toArray os hg, by omega, h5, by simp [putCells, h6], ?_⟩⟩, fun g2 hg2 => by simp [Value.ownBlock] at hg2; omega⟩
    apply List.ext_getElem?
    intro j
    by_cases hj : j < d.length
    · have hjc : j < cur.size := by omega
      rw [List.getElem?_take_of_lt (by omega), Array.getElem?_toList]
      simp only [putCells, Array.getElem?_mapIdx]
      rw [Array.getElem?_eq_getElem hjc, Option.map_some, if_pos ⟨Nat.zero_le _, by simpa using hj⟩, Nat.sub_zero]
      rw [getElem!_pos d.toArray j (by simpa using hj)]
      simp [hj]
    · rw [List.getElem?_eq_none (by simp; omega), List.getElem?_eq_none (by simp; omega)]
theorem OwnInts.takeI {xs ys : List Int} (h : OwnInts w lo hi (.slice (some ⟨g, 0, Option.none⟩) (xs ++ ys).length c) (xs ++ ys)) : OwnInts w lo hi (.slice (some ⟨g, 0, Option.none⟩) xs.length c) xs := by
  rcases h.rowI with ⟨e, _⟩ | ⟨g', c', cur, e, h1, h2, h3, hg, h4, h5, h6, h7⟩
  · cases e
  · injection e with e1 _ e2
    injection e1 with e1
    injection e1 with e1
    subst e1 e2
    rw [List.length_append] at h4
    refine ⟨⟨by simp, .inr ⟨g, c, cur, rfl, h1, hg, by omega, h5, by simpa using h6, ?_⟩⟩, fun g2 hg2 => by simp [Value.ownBlock] at hg2; omega⟩
    have h8 := congrArg (List.take xs.length) h7
    rw [List.take_take, List.length_append, Nat.min_eq_left (by omega)] at h8
    rw [Nat.mul_one, h8]
    simp
end

/-- A list of integers in order. -/
def sortI (zs : List Int) : List Int := zs.mergeSort fun x y => decide (x ≤ y)
theorem sortI_length (zs : List Int) : (sortI zs).length = zs.length := by simp [sortI, List.length_mergeSort]
theorem sortI_mem {zs : List Int} {x : Int} : x ∈ sortI zs ↔ x ∈ zs := by simp [sortI, List.mem_mergeSort]
theorem sortI_up (zs : List Int) : (sortI zs).Pairwise (· ≤ ·) := by
  have h := List.pairwise_mergeSort (le := fun x y : Int => decide (x ≤ y)) (fun a b c h1 h2 => by simp at h1 h2 ⊢; omega) (fun a b => by simp; omega) zs
  exact h.imp fun h => by simpa using h

set_option maxRecDepth 100000 in
theorem sortI_any (v : Value) (zs : List Int) (lo hi : Nat) (w : World) (h : OwnInts w lo hi v zs) (hn : zs.length ≤ 1048576) :
    Calls Try.prog 82 #[v] w fun e w' => e = .returned (.tuple #[]) ∧ OwnInts w' lo hi v (sortI zs) ∧ Only lo hi w w' := by
  rcases h.rowI with ⟨rfl, rfl⟩ | ⟨g, c, cur, rfl, h1, h2, h3, hg, h4, h5, h6, h7⟩
  · have hcon := Any.slices_Sort_int_none Try.sortI none 0 w
    refine Calls.mono hcon ?_
    rintro e w' ⟨rfl, rfl⟩
    exact ⟨rfl, by simpa [sortI] using OwnInts.none _ lo hi, Only.refl _ _ _⟩
  · have hcon := Any.slices_Sort_int Try.sortI g 0 c zs w h.holdsI h3 (by omega)
    refine Calls.mono hcon ?_
    rintro e w' ⟨rfl, n, os, rfl⟩
    have hp := h.putI n (sortI zs) (sortI_length zs) os
    rw [sortI_length] at hp
    exact ⟨rfl, hp, OnlyI.wide (Only.putI w g n (sortI zs).toArray os) h1 h2⟩

theorem compact_len (zs : List Int) : (Lib.compact zs).length ≤ zs.length := by
  unfold Lib.compact Lib.compactUpTo
  rw [List.length_map]
  exact Nat.le_trans (List.length_filter_le _ _) (by simp)
theorem arrI_at (zs : List Int) {i : Nat} (h : i < zs.length) : zs.toArray[i]! = zs[i] := by rw [getElem!_pos zs.toArray i (by simpa using h)]; simp
theorem compact_up {zs : List Int} (h : zs.Pairwise (· ≤ ·)) : (Lib.compact zs).Pairwise (· < ·) := by
  unfold Lib.compact Lib.compactUpTo
  rw [List.pairwise_map]
  have hr : ((List.range zs.length).filter (Lib.keeps zs.toArray)).Pairwise (· < ·) := List.Pairwise.sublist List.filter_sublist List.pairwise_lt_range
  refine hr.imp_of_mem fun {i j} hi hj hij => ?_
  have hil : i < zs.length := List.mem_range.1 (List.mem_filter.1 hi).1
  obtain ⟨hjl, hk⟩ := List.mem_filter.1 hj
  have hjl : j < zs.length := List.mem_range.1 hjl
  have hne : zs.toArray[j]! ≠ zs.toArray[j - 1]! := by
    intro e
    rw [Lib.keeps_neg (by omega) e] at hk
    cases hk
  rw [arrI_at zs hjl, arrI_at zs (show j - 1 < zs.length by omega)] at hne
  have h1 := List.pairwise_iff_getElem.1 h (j - 1) j (by omega) hjl (by omega)
  have h2 : zs[i] ≤ zs[j - 1]'(by omega) := by
    rcases Nat.lt_or_ge i (j - 1) with hlt | hge
    · exact List.pairwise_iff_getElem.1 h i (j - 1) hil (by omega) hlt
    · have : i = j - 1 := by omega
      subst this
      exact Int.le_refl _
  rw [arrI_at zs hil, arrI_at zs hjl]
  omega
theorem compact_mem {zs : List Int} {b : Int} : b ∈ Lib.compact zs ↔ b ∈ zs := by
  unfold Lib.compact Lib.compactUpTo
  constructor
  · intro h
    obtain ⟨i, hi, rfl⟩ := List.mem_map.1 h
    have hil : i < zs.length := List.mem_range.1 (List.mem_filter.1 hi).1
    rw [arrI_at zs hil]
    exact List.getElem_mem hil
  · intro h
    obtain ⟨i, hi, rfl⟩ := List.getElem_of_mem h
    clear h
    induction i with
    | zero => exact List.mem_map.2 ⟨0, List.mem_filter.2 ⟨List.mem_range.2 hi, Lib.keeps_lt_one _ 0 (by omega)⟩, arrI_at zs hi⟩
    | succ i ih =>
      by_cases e : zs.toArray[i + 1]! = zs.toArray[i + 1 - 1]!
      · rw [Nat.add_sub_cancel, arrI_at zs hi, arrI_at zs (show i < zs.length by omega)] at e
        rw [e]
        exact ih (by omega)
      · exact List.mem_map.2 ⟨i + 1, List.mem_filter.2 ⟨List.mem_range.2 hi, Lib.keeps_pos e⟩, arrI_at zs hi⟩

set_option maxRecDepth 100000 in
theorem compactI_any (v : Value) (zs : List Int) (lo hi : Nat) (w : World) (h : OwnInts w lo hi v zs) (hn : zs.length ≤ 1048576) :
    Calls Try.prog 83 #[v] w fun e w' => ∃ A c, e = .returned (.slice A (Lib.compact zs).length c) ∧ OwnInts w' lo hi (.slice A (Lib.compact zs).length c) (Lib.compact zs) ∧ Only lo hi w w' := by
  rcases h.rowI with ⟨rfl, rfl⟩ | ⟨g, c, cur, rfl, h1, h2, h3, hg, h4, h5, h6, h7⟩
  · have hcon := Any.slices_Compact_int_empty Try.compactI none 0 w
    refine Calls.mono hcon ?_
    rintro e w' ⟨rfl, rfl⟩
    exact ⟨none, 0, rfl, by simpa [Lib.compact, Lib.compactUpTo] using OwnInts.none _ lo hi, Only.refl _ _ _⟩
  · have hcon := Any.slices_Compact_int Try.compactI g 0 c zs w h.holdsI (by omega) h4
    refine Calls.mono hcon ?_
    rintro e w' ⟨rfl, q, rfl⟩
    have hcl := compact_len zs
    have hp := h.putI q (Lib.compact zs ++ List.replicate (zs.length - (Lib.compact zs).length) 0) (by simp; omega) #[]
    have ho := Only.putI w g q (Lib.compact zs ++ List.replicate (zs.length - (Lib.compact zs).length) 0).toArray #[]
    rw [growI_none] at hp ho
    exact ⟨_, c, rfl, hp.takeI, OnlyI.wide ho h1 h2⟩

end Go.Proofs.Ytchincemlilnoaa
/-
  A relation that a call builds in a box: its rows grow by append. The words; no walk.
-/
namespace Go.Proofs.Ytchincemlilnoaa
open Go.RowKit

theorem OwnRows.none (w : World) (lo hi : Nat) : OwnRows w lo hi (.slice none 0 0) [] := ⟨[], .nil, by simpa using World.ownsRow_nil w lo 42 1, fun g hg => by cases hg⟩

/-- Box o holds a relation of so many columns with the rows m, that lie in blocks from lo on; o lies ahead of them. -/
structure OutAt (lo o : Nat) (wr : World) (wide : Int) (m : List (List Int)) (A : Option Addr) (c : Nat) (av : List Value) : Prop where
  args : OwnArgs wr lo wr.heap.size av m
  row : wr.ownsRow lo 42 1 (.slice A m.length c) m.length av
  box : Blk wr o 27 #[.int .i64 wide, .slice A m.length c]
  lt : o < lo
  le : lo ≤ wr.heap.size
section
variable {lo o g cap : Nat} {wr w4 w7 : World} {wide : Int} {m : List (List Int)} {A : Option Addr} {c : Nat} {av : List Value} {xs : List Int} {u : Value} {ob : Obj}
theorem OutAt.empty (hb : Blk wr o 27 #[.int .i64 wide, .slice none 0 0]) (hlo : o < lo) (hs : lo ≤ wr.heap.size) : OutAt lo o wr wide [] none 0 [] :=
  ⟨.nil, by simpa using World.ownsRow_nil wr lo 42 1, by simpa using hb, hlo, hs⟩
theorem OutAt.on (h : OutAt lo o wr wide m A c av) (hb : Below wr.heap.size wr w4) : OutAt lo o w4 wide m A c av :=
  ⟨(h.args.below hb (Nat.le_refl _)).mono (Nat.le_refl _) hb.size, ownsRow_only h.row fun g hg => hb.block g (h.row.lt g hg).2, h.box.below hb h.box.lt, h.lt, Nat.le_trans h.le hb.size⟩
theorem OutAt.rows (h : OutAt lo o wr wide m A c av) : OwnRows wr lo wr.heap.size (.slice A m.length c) m := ⟨av, h.args, h.row, fun g hg => (h.row.lt g hg).2⟩
/-- What an append of a new row leaves: all below lo. -/
theorem OutAt.grown (h : OutAt lo o wr wide m A c av) (hb : Below wr.heap.size wr w4) (hg : (w4.alloc ob).grownBy w7 (Value.slice A m.length c).ownBlock) : Below lo wr w7 := by
  have hg' := grown_from_alloc hg
  have hs := hb.size
  exact ⟨hg'.os.trans hb.os, hg'.tape.trans hb.tape, hg'.output.trans hb.output, Nat.le_trans hs hg'.size, fun k hk => by
    have := h.le
    rw [hg'.block k (by omega) fun e => by have := (h.row.lt k e.symm).1; omega]
    exact hb.block k (by omega)⟩
theorem OutAt.push (h : OutAt lo o wr wide m A c av) (hb : Below wr.heap.size wr w4) (hu : OwnInts w4 wr.heap.size w4.heap.size u xs)
    (hg : (w4.alloc ob).grownBy w7 (Value.slice A m.length c).ownBlock) (hown : w7.ownsRow lo 42 1 (.slice (some ⟨g, 0, none⟩) (m.length + 1) cap) (m.length + 1) (av ++ [u])) :
    OutAt lo o (w7.setCell ⟨o, 1, none⟩ (.slice (some ⟨g, 0, none⟩) (m.length + 1) cap)) wide (m ++ [xs]) (some ⟨g, 0, none⟩) cap (av ++ [u]) ∧ Below o wr (w7.setCell ⟨o, 1, none⟩ (.slice (some ⟨g, 0, none⟩) (m.length + 1) cap)) := by
  have h4 := h.on hb
  have hg' := grown_from_alloc hg
  have hlow := h.grown hb hg
  have hlt := h.lt
  have hle := h.le
  have hs := hb.size
  have hl : (m ++ [xs]).length = m.length + 1 := by simp
  have ha4 : OwnArgs w4 lo w4.heap.size (av ++ [u]) (m ++ [xs]) := (h.args.below hb (Nat.le_refl _)).snoc hu hle hs
  have ha7 : OwnArgs w7 lo w7.heap.size (av ++ [u]) (m ++ [xs]) := ⟨ha4.len, fun i h1 h2 => by
    have h0 := ha4.own i h1 h2
    exact (h0.kept fun b hbk => hg'.block b (h0.lt hbk).2.2 (fun e => rowsI_ne h4.row e.symm h0 hbk)).mono (Nat.le_refl _) hg'.size, ha4.apart⟩
  have hbx : Blk w7 o 27 #[.int .i64 wide, .slice A m.length c] := h.box.below hlow hlt
  refine ⟨⟨?_, ?_, ?_, hlt, ?_⟩, ?_⟩
  · have := ha7.set (p := ⟨o, 1, .none⟩) (.inl (by simpa using hlt)) (.slice (some ⟨g, 0, .none⟩) (m.length + 1) cap)
    simpa using this
  · rw [hl]
    exact ownsRow_only hown fun b hb' => Below.heap_setCell _ _ _ _ (by have := (hown.lt b hb').1; simp; omega)
  · rw [hl]
    simpa using hbx.set_ 1 (.slice (some ⟨g, 0, .none⟩) (m.length + 1) cap)
  · simpa using Nat.le_trans hle hlow.size
  · exact (hlow.mono (Nat.le_of_lt hlt)).setCell (Nat.le_refl _) _
end

end Go.Proofs.Ytchincemlilnoaa
/-
  RelOk: what a relation is; the walks of both sides.
-/
namespace Go.Proofs.Ytchincemlilnoaa
open Go.RowKit

/-- Row i is one of a relation's. -/
def RowP (r : LRel) (i : Nat) : Prop := ∀ h : i < r.2.length, (r.2[i].length : Int) = r.1 ∧ (0 < i → cmpL r.2[i - 1] r.2[i] < 0) ∧ r.2[i].all constOk = true
def RowsP (r : LRel) (k : Nat) : Prop := ∀ i, i < k → RowP r i
/-- A relation. -/
structure RelP (r : LRel) : Prop where
  lo : 0 ≤ r.1
  hi : r.1 ≤ 6
  many : r.2.length ≤ 2000
  rows : RowsP r r.2.length
open Classical in
noncomputable def relB (r : LRel) : Bool := decide (RelP r)
theorem relB_true {r : LRel} (h : RelP r) : relB r = true := by unfold relB; exact @decide_eq_true _ (Classical.propDecidable _) h
theorem relB_false {r : LRel} (h : ¬ RelP r) : relB r = false := by unfold relB; exact @decide_eq_false _ (Classical.propDecidable _) h
theorem relB_iff {r : LRel} : relB r = true ↔ RelP r := by unfold relB; simp
theorem RowsP.more {r : LRel} {k : Nat} (h : RowsP r k) (hk : RowP r k) : RowsP r (k + 1) := fun i hi => by
  by_cases e : i = k
  · rw [e]; exact hk
  · exact h i (by omega)
theorem relB_row {r : LRel} {k : Nat} (hk : k < r.2.length) (h : ¬ RowP r k) : relB r = false := relB_false fun hp => h (hp.rows k hk)

theorem l3Row_is {z : Int} (v v2 : Value) (xs ys : List Int) (hz : cmpL xs ys = z) (w : World) (h : RdInts w w.heap.size v xs) (h2 : RdInts w w.heap.size v2 ys) (hn : xs.length ≤ 1048576) (hn2 : ys.length ≤ 1048576) :
    Calls Try.prog 46 #[v, v2] w fun e w' => e = .returned (.int .i64 z) ∧ Below w.heap.size w w' := hz ▸ l3Row_any v v2 xs ys w h h2 hn hn2
theorem slicesCompare_is {z : Int} (va vb : Value) (xs ys : List Int) (hz : cmpL xs ys = z) (w : World) (ha : RdInts w w.heap.size va xs) (hb : RdInts w w.heap.size vb ys) (hr : xs.length ≤ 1048576) (hr2 : ys.length ≤ 1048576) :
    Calls Try.prog 50 #[va, vb] w fun e w' => e = .returned (.int .i64 z) ∧ w = w' := hz ▸ slicesCompare_any va vb xs ys w ha hb (by omega) (by omega)

set_option maxHeartbeats 2000000 in
set_option maxRecDepth 100000 in
theorem implRelOk_any (v : Value) (r : LRel) (w : World) (h : RdRel w w.heap.size v r) (hs : szRows r.2 ≤ 1048576) :
    Calls Try.prog 16 #[v] w fun e w' => e = .returned (.bool (relB r)) ∧ Below w.heap.size w w' := by
  obtain ⟨b, hb⟩ : ∃ b, b = relB r := ⟨_, rfl⟩
  rw [← hb]
  have HB := Lib.hid hb
  clear hb
  obtain ⟨a, rfl, h⟩ := h
  have H := Lib.hid h
  obtain ⟨A, c, rfl, hc, _⟩ := h
  obtain ⟨m, xss⟩ := r
  unfold szRows at hs
  by_cases hm : m < 0
  · have HE := Lib.hid (show b = false by rw [HB.out]; exact relB_false fun hp => by have := hp.lo; simp only at this; omega)
    have d1 : decide (m < 0) = true := by simpa using hm
    clear hm
    go_enter Try.func16, Try.ntmps16
    go_wp2_with (fail)
    go_ret
    exact ⟨ret_bool HE.out.symm, below1 _ _⟩
  · have d1 : decide (m < 0) = false := by simp; omega
    by_cases hm2 : 6 < m
    · have HE := Lib.hid (show b = false by rw [HB.out]; exact relB_false fun hp => by have := hp.hi; simp only at this; omega)
      have d2 : decide (6 < m) = true := by simpa using hm2
      clear hm hm2
      go_enter Try.func16, Try.ntmps16
      go_wp2_with (fail)
      go_ret
      exact ⟨ret_bool HE.out.symm, below1 _ _⟩
    · have d2 : decide (6 < m) = false := by simp; omega
      by_cases hl : 2000 < xss.length
      · have HE := Lib.hid (show b = false by rw [HB.out]; exact relB_false fun hp => by have := hp.many; simp only at this; omega)
        have d3 : decide ((2000 : Int) < (xss.length : Int)) = true := by simp; omega
        clear hm hm2 hl
        go_enter Try.func16, Try.ntmps16
        go_wp2_with (fail)
        go_ret
        exact ⟨ret_bool HE.out.symm, below1 _ _⟩
      · have d3 : decide ((2000 : Int) < (xss.length : Int)) = false := by simp; omega
        have HD := Lib.hid (And.intro hm (And.intro hm2 hl))
        clear hm hm2 hl
        go_enter Try.func16, Try.ntmps16
        go_wp2_with (fail)
        obtain ⟨w1, hw1⟩ : ∃ w1, w1 = w.alloc (Obj.cells #[Value.int IntKind.i64 m, Value.slice A xss.length c] 27) := ⟨_, rfl⟩
        rw [← hw1]
        have hB1 : Below w.heap.size w w1 := by rw [hw1]; exact below1 _ _
        have hx : Blk w1 w.heap.size 27 #[.int .i64 m, .slice A xss.length c] := by rw [hw1]; exact Blk.new _ _ _
        have q0 : w1.cell? ⟨w.heap.size, 0, none⟩ = some (.int .i64 m) := hx.cell 0
        have q1 : w1.cell? ⟨w.heap.size, 1, none⟩ = some (.slice A xss.length c) := hx.cell 1
        have hgl := hx.lt
        clear hw1 hx
        go_loopw [3, 4, 22] (fun _ _ i wr => ∃ k : Nat, k ≤ xss.length ∧ i = .int .i64 k ∧ RowsP (m, xss) k ∧ wr = w1) (fun _ _ i _ => xss.length - (intOf i).toNat)
        case atStart => exact ⟨0, Nat.zero_le _, rfl, fun i hi => absurd hi (by omega), rfl⟩
        case round =>
          obtain ⟨k, hk, rfl, hrows, rfl⟩ := hrel
          have HR := Lib.hid hrows
          clear hrows
          by_cases hlt : k < xss.length
          · obtain ⟨g, o, A2, c2, rfl, hbB, k0, r0⟩ := (H.out.on hB1).get hlt
            have hln := totSS_at xss k hlt
            by_cases hw : (xss[k].length : Int) = m
            · have e1 : ((xss[k].length : Int) != m) = false := by simp [hw]
              have HW := Lib.hid hw
              clear hw
              obtain ⟨ok, hok⟩ : ∃ ok, ok = xss[k].all constOk := ⟨_, rfl⟩
              have CA := Lib.hid (areConstants_is hok.symm (.slice A2 xss[k].length c2) _ wr r0 (by omega))
              have HOK := Lib.hid hok
              clear hok
              cases ok
              · have HE := Lib.hid (show b = false by rw [HB.out]; exact relB_row (r := (m, xss)) hlt fun hp => by have := (hp hlt).2.2; simp only at this; rw [← HOK.out] at this; cases this)
                clear r0
                go_wp2_with (go_at_call 49; refine CA.out.mono ?_; rintro e w' ⟨rfl, rfl⟩)
                go_ret
                exact ⟨ret_bool HE.out.symm, hB1⟩
              · rcases Nat.eq_zero_or_pos k with rfl | hk0
                · have HN := Lib.hid (HR.out.more (k := 0) fun _ => ⟨HW.out, fun h0 => absurd h0 (by omega), HOK.out.symm⟩)
                  rw [Nat.add_zero] at k0
                  clear r0
                  go_wp2_with (go_at_call 49; refine CA.out.mono ?_; rintro e w' ⟨rfl, rfl⟩)
                  go_roundw
                  case rel => exact ⟨1, by omega, by go_num, HN.out, by first | trivial | rfl⟩
                  case measure => simp [intOf]; omega
                · obtain ⟨p, rfl⟩ : ∃ p, k = p + 1 := ⟨k - 1, by omega⟩
                  obtain ⟨g', o', A3, c3, e5, hbB3, k3, r3⟩ := (H.out.on hB1).get (show p < xss.length by omega)
                  injection e5 with e5
                  injection e5 with e5 e6 _
                  subst e5 e6
                  have hln3 := totSS_at xss p (by omega)
                  obtain ⟨z, hz⟩ : ∃ z, z = cmpL xss[p] xss[p + 1] := ⟨_, rfl⟩
                  have CC := Lib.hid (slicesCompare_is (.slice A3 xss[p].length c3) (.slice A2 xss[p + 1].length c2) xss[p] xss[p + 1] hz.symm wr r3 r0 (by omega) (by omega))
                  have HZ := Lib.hid hz
                  have d4 : decide ((0 : Int) < (p : Int) + 1) = true := decide_eq_true (by omega)
                  have hp1 : (0 : Int) ≤ (p : Int) := by omega
                  have hp2 : (p : Int) < (xss.length : Int) := by omega
                  clear hz r0 r3
                  by_cases hzn : 0 ≤ z
                  · have HE := Lib.hid (show b = false by rw [HB.out]; exact relB_row (r := (m, xss)) hlt fun hp => by have := (hp hlt).2.1 (by omega); simp only [Nat.add_sub_cancel] at this; rw [← HZ.out] at this; omega)
                    go_wp2_with (first | (go_at_call 49; refine CA.out.mono ?_; rintro e w' ⟨rfl, rfl⟩) | (go_at_call 50; refine CC.out.mono ?_; rintro e w' ⟨rfl, rfl⟩))
                    go_ret
                    exact ⟨ret_bool HE.out.symm, hB1⟩
                  · have HN := Lib.hid (HR.out.more (k := p + 1) fun _ => ⟨HW.out, fun _ => by simp only [Nat.add_sub_cancel]; rw [← HZ.out]; omega, HOK.out.symm⟩)
                    go_wp2_with (first | (go_at_call 49; refine CA.out.mono ?_; rintro e w' ⟨rfl, rfl⟩) | (go_at_call 50; refine CC.out.mono ?_; rintro e w' ⟨rfl, rfl⟩))
                    go_roundw
                    case rel => exact ⟨p + 2, by omega, by go_num, HN.out, by first | trivial | rfl⟩
                    case measure => simp [intOf]; omega
            · have e1 : ((xss[k].length : Int) != m) = true := by simp [hw]
              have HE := Lib.hid (show b = false by rw [HB.out]; exact relB_row (r := (m, xss)) hlt fun hp => hw (hp hlt).1)
              clear hw r0
              go_wp2_with (fail)
              go_ret
              exact ⟨ret_bool HE.out.symm, hB1⟩
          · have HE := Lib.hid (show b = true by
              rw [HB.out]
              obtain ⟨h1, h2, h3⟩ := HD.out
              have hkn : k = xss.length := by omega
              exact relB_true ⟨by simp only; omega, by simp only; omega, by simp only; omega, by have := HR.out; rw [hkn] at this; exact this⟩)
            go_wp2_with (fail)
            go_ret
            exact ⟨ret_bool HE.out.symm, hB1⟩

set_option maxHeartbeats 4000000 in
set_option maxRecDepth 100000 in
theorem specRelOk_any (v : Value) (r : LRel) (w : World) (h : RdRel w w.heap.size v r) (hs : szRows r.2 ≤ 1048576) :
    Calls Try.prog 14 #[v] w fun e w' => e = .returned (.bool (relB r)) ∧ Below w.heap.size w w' := by
  obtain ⟨b, hb⟩ : ∃ b, b = relB r := ⟨_, rfl⟩
  rw [← hb]
  have HB := Lib.hid hb
  clear hb
  obtain ⟨a, rfl, h⟩ := h
  have H := Lib.hid h
  obtain ⟨A, c, rfl, hc, _⟩ := h
  obtain ⟨m, xss⟩ := r
  unfold szRows at hs
  go_enter Try.func14, Try.ntmps14
  go_wp2_with (fail)
  obtain ⟨w1, hw1⟩ : ∃ w1, w1 = w.alloc (Obj.cells #[Value.int IntKind.i64 m, Value.slice A xss.length c] 27) := ⟨_, rfl⟩
  rw [← hw1]
  have hB1 : Below w.heap.size w w1 := by rw [hw1]; exact below1 _ _
  have hx1 : Blk w1 w.heap.size 27 #[.int .i64 m, .slice A xss.length c] := by rw [hw1]; exact Blk.new _ _ _
  have HX := Lib.hid hx1
  clear hw1 hx1
  go_loopw [3, 4] (fun i _ wr => ∃ k : Nat, k ≤ xss.length ∧ i = .int .i64 k ∧ RowsP (m, xss) k ∧ Below w1.heap.size w1 wr) (fun i _ _ => xss.length - (intOf i).toNat)
  case atStart => exact ⟨0, Nat.zero_le _, rfl, fun i hi => absurd hi (by omega), Below.refl _ _⟩
  case round =>
    obtain ⟨k, hk, rfl, hrows, hbe⟩ := hrel
    have HR := Lib.hid hrows
    have hx := HX.out.below hbe HX.out.lt
    have q0 : wr.cell? ⟨w.heap.size, 0, none⟩ = some (.int .i64 m) := hx.cell 0
    have q1 : wr.cell? ⟨w.heap.size, 1, none⟩ = some (.slice A xss.length c) := hx.cell 1
    have hgl := hx.lt
    have HBW := Lib.hid (bthen hB1 hbe)
    have HBE := Lib.hid hbe
    clear hrows hx hbe
    by_cases hlt : k < xss.length
    · obtain ⟨g, o, A2, c2, rfl, hbB, k0, r0⟩ := (H.out.on HBW.out).get hlt
      have hln := totSS_at xss k hlt
      have hkz : (0 : Int) ≤ (k : Int) := by omega
      have hki : (k : Int) < (xss.length : Int) := by omega
      by_cases hw : (xss[k].length : Int) = m
      · have e1 : ((xss[k].length : Int) != m) = false := by simp [hw]
        have HW := Lib.hid hw
        clear hw
        obtain ⟨z, hz⟩ : ∃ z, z = (if 0 < k then cmpL (xss[k - 1]'(by omega)) xss[k] else -1) := ⟨_, rfl⟩
        have HZ := Lib.hid hz
        have HA := Lib.hid r0
        clear hz r0
        go_upto_region 4 with fail
        have M0 := later_cell k0
        have M1 := later_cell q0
        have M2 := later_cell q1
        have K0 := Lib.hid k0
        clear k0
        obtain ⟨bz, hbz⟩ : ∃ bz, bz = decide (0 ≤ z) := ⟨_, rfl⟩
        have HBZ := Lib.hid hbz
        clear hbz
        go_cut [39] (fun s wx => s = .bool bz ∧ Below wr.heap.size wr wx)
        case first =>
          rcases Nat.eq_zero_or_pos k with rfl | hk0
          · have HE := Lib.hid (show z = -1 by rw [HZ.out]; rfl)
            simp only [Nat.add_zero] at M0
            clear q0 q1
            refine wp_region_later (by kernel_rfl) (by kernel_rfl) ?_
            repeat (go_big_quiet_step (fail))
            refine wpQuiet_nil ?_
            rintro _ ⟨xq, rfl⟩
            go_wp2_with fail
            go_meet
            exact ⟨by rw [HBZ.out, HE.out]; rfl, xq.2⟩
          · obtain ⟨p, rfl⟩ : ∃ p, k = p + 1 := ⟨k - 1, by omega⟩
            obtain ⟨g', o', A3, c3, e5, hbB3, k3, r3⟩ := (H.out.on HBW.out).get (show p < xss.length by omega)
            injection e5 with e5
            injection e5 with e5 e6 _
            subst e5 e6
            have hln3 := totSS_at xss p (by omega)
            have M3 := later_cell k3
            have HE := Lib.hid (show cmpL xss[p] xss[p + 1] = z by rw [HZ.out, if_pos (by omega)]; rfl)
            have CC := Lib.hid (fun q : Later wr => l3Row_is (.slice A3 xss[p].length c3) (.slice A2 xss[p + 1].length c2) xss[p] xss[p + 1] HE.out q.val (r3.on q.2) (HA.out.on q.2) (by omega) (by omega))
            have d4 : decide ((0 : Int) < (p : Int) + 1) = true := decide_eq_true (by omega)
            have hp1 : (0 : Int) ≤ (p : Int) := by omega
            have hp2 : (p : Int) < (xss.length : Int) := by omega
            clear q0 q1 k3 r3
            refine wp_region_later (by kernel_rfl) (by kernel_rfl) ?_
            repeat (go_big_quiet_step ((go_at_call 46; exact later_of (CC.out _))))
            refine wpQuiet_nil ?_
            rintro _ ⟨xq, rfl⟩
            go_wp2_with fail
            go_meet
            exact ⟨by rw [HBZ.out], xq.2⟩
        case rest =>
          obtain ⟨rfl, hb2⟩ := hcut
          generalize wc = w2 at *
          have HB2 := Lib.hid hb2
          clear M0 M1 M2
          have k0 := (hb2.cell (World.block_lt_of_cell? _ _ K0.out)).trans K0.out
          have q0 := (hb2.cell (World.block_lt_of_cell? _ _ q0)).trans q0
          have q1 := (hb2.cell (World.block_lt_of_cell? _ _ q1)).trans q1
          have hgl2 : w.heap.size < w2.heap.size := Nat.lt_of_lt_of_le hgl hb2.size
          clear hb2
          have hxr := (HA.out.on HB2.out)
          obtain ⟨_, _, e3, _, hxx⟩ := hxr
          injection e3 with e3 _ e4
          subst e3 e4
          cases bz
          rotate_left
          · have hzn : 0 ≤ z := of_decide_eq_true HBZ.out.symm
            have HE := Lib.hid (show b = false by
              rw [HB.out]
              refine relB_row (r := (m, xss)) hlt fun hp => ?_
              have h1 := HZ.out
              by_cases hk0 : 0 < k
              · rw [if_pos hk0] at h1
                have := (hp hlt).2.1 hk0
                simp only at this
                omega
              · rw [if_neg hk0] at h1
                omega)
            clear hzn
            go_wp2_with fail
            go_ret
            exact ⟨ret_bool HE.out.symm, bthen HBW.out HB2.out⟩
          · have hzn : ¬ 0 ≤ z := of_decide_eq_false HBZ.out.symm
            have HU := Lib.hid (show 0 < k → cmpL (xss[k - 1]'(by omega)) xss[k] < 0 from fun h0 => by have h1 := HZ.out; rw [if_pos h0] at h1; omega)
            clear hzn
            go_wp2_with fail
            go_loop [4] (fun i => ∃ j : Nat, j ≤ xss[k].length ∧ i = .int .i64 j ∧ ConstsTo xss[k] j) (fun i => xss[k].length - (intOf i).toNat)
            case atStart => exact ⟨0, Nat.zero_le _, rfl, fun j hj => absurd hj (by omega)⟩
            case round =>
              obtain ⟨j, hj, rfl, hcs⟩ := hrel
              by_cases hltj : j < xss[k].length
              · obtain ⟨b4, o4, rfl, _, hx⟩ := hxx (by omega)
                have hck : w2.cell? ⟨b4, o4 + j, none⟩ = some (.int .i64 xss[k][j]) := hx j hltj
                clear hx
                by_cases he : 0 ≤ xss[k][j] ∧ xss[k][j] ≤ 5
                · have HT := Lib.hid (hcs.step (by simpa [hltj, constOk] using he))
                  have HK := Lib.hid (l1In_yes he)
                  clear hcs he
                  go_wp2_with (go_at_call 47; refine (HK.out _).mono ?_; rintro e w' ⟨rfl, rfl⟩)
                  go_round
                  case rel => exact ⟨j + 1, by omega, by go_num, HT.out⟩
                  case measure => simp [intOf]; omega
                · have HE := Lib.hid (show b = false by
                    rw [HB.out]
                    exact relB_row (r := (m, xss)) hlt fun hp => by
                      have h1 := (hp hlt).2.2
                      have h2 := consts_not hltj (by simpa [constOk] using he)
                      simp only at h1
                      rw [h2] at h1
                      cases h1)
                  have HK := Lib.hid (l1In_no he)
                  clear hcs he
                  go_wp2_with (go_at_call 47; refine (HK.out _).mono ?_; rintro e w' ⟨rfl, rfl⟩)
                  go_ret
                  exact ⟨ret_bool HE.out.symm, bthen HBW.out HB2.out⟩
              · have HN := Lib.hid (HR.out.more (k := k) fun _ => ⟨HW.out, HU.out, ConstsTo.all (by rw [show j = xss[k].length by omega] at hcs; exact hcs)⟩)
                clear hcs
                go_wp2_with (fail)
                go_roundw
                case rel => exact ⟨k + 1, by omega, by go_num, HN.out, bthen HBE.out HB2.out⟩
                case measure => simp [intOf]; omega
      · have e1 : ((xss[k].length : Int) != m) = true := by simp [hw]
        have HE := Lib.hid (show b = false by rw [HB.out]; exact relB_row (r := (m, xss)) hlt fun hp => hw (hp hlt).1)
        clear hw r0
        go_upto_region 4 with fail
        have M0 := later_cell k0
        have M1 := later_cell q0
        have M2 := later_cell q1
        clear k0 q0 q1
        refine wp_region_later (by kernel_rfl) (by kernel_rfl) ?_
        repeat (go_big_quiet_step (fail))
        refine wpQuiet_nil ?_
        rintro _ ⟨xq, rfl⟩
        go_wp2_with fail
        go_ret
        exact ⟨ret_bool HE.out.symm, bthen HBW.out xq.2⟩
    · have hkn : k = xss.length := by omega
      have HN := Lib.hid (show RowsP (m, xss) xss.length by have := HR.out; rw [hkn] at this; exact this)
      clear hkn
      by_cases hm : 0 ≤ m ∧ m ≤ 6
      · have HK := Lib.hid (l1In_yes hm)
        by_cases hl : xss.length ≤ 2000
        · have d3 : decide ((xss.length : Int) ≤ 2000) = true := decide_eq_true (by omega)
          have HE := Lib.hid (show b = true by rw [HB.out]; exact relB_true ⟨hm.1, hm.2, hl, HN.out⟩)
          clear hl hm
          go_wp2_with (go_at_call 47; refine (HK.out _).mono ?_; rintro e w' ⟨rfl, rfl⟩)
          go_ret
          exact ⟨ret_bool HE.out.symm, HBW.out⟩
        · have d3 : decide ((xss.length : Int) ≤ 2000) = false := decide_eq_false (by omega)
          have HE := Lib.hid (show b = false by rw [HB.out]; exact relB_false fun hp => hl hp.many)
          clear hl hm
          go_wp2_with (go_at_call 47; refine (HK.out _).mono ?_; rintro e w' ⟨rfl, rfl⟩)
          go_ret
          exact ⟨ret_bool HE.out.symm, HBW.out⟩
      · have HK := Lib.hid (l1In_no hm)
        have HE := Lib.hid (show b = false by rw [HB.out]; exact relB_false fun hp => hm ⟨hp.lo, hp.hi⟩)
        clear hm
        go_wp2_with (go_at_call 47; refine (HK.out _).mono ?_; rintro e w' ⟨rfl, rfl⟩)
        go_ret
        exact ⟨ret_bool HE.out.symm, HBW.out⟩

end Go.Proofs.Ytchincemlilnoaa
