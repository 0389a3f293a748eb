/-
  No cell of these rows narrows 'for every input' (looked for: loops, veiled, ifaces, maps, wideKeys, modest, calm, conditions, laid).
  DERIVED. THE GIVEN ROWS OF THIS SEAT. 9 by the template 'for every input the law returns true; each argument reads behind the call as it read before'; 0 by the template 'total and deterministic' (their statements: YtgacdehbdhhbnaaTotals.lean).
  GIVEN WITH THE SEED: the statements are not yours to turn. If you find one false, say at which input.
  Laid BY PROGRAM, IN A SANDBOX (cutbox-rows.mjs): the forced cells as the released guide's own fill.sh prints them over the translation 3922870ab8db2643… (all of the seat's roots in one cut). By AI agents, Wed Nov 11 2026. No macro, syntax, notation, axiom, sorry.
-/
import Derived.Test.YtgacdehbdhhbnaaChecked
import GoSem.Claim
import GoSem.ClaimJoined
import GoSem.ClaimMapViews
import Derived.JoinedTies
import Derived.KernelRfl
namespace Go.Proofs.Ytgacdehbdhhbnaa
/- THE CELL 'sum', in the pinned program and in every row, IS THE sha256 OF THE DUMP (.gsa) THAT YtgacdehbdhhbnaaProg.lean LOADS. Nothing in Lean hashes anything: it is a label: what it is worth is what the hold of that sum in a sandbox is worth. -/
noncomputable def Try.pinned : Pinned := { name := "ytgacdehbdhhbnaa", sum := "3922870ab8db264396b00903f66c1f9e1e95f76147aaca09b5750fec9cf1b661", checked := Try.checked }
namespace Rows
def none {H : Type} : Left H := { results := [], args := [] }

/-- 'laws.FnFactOrder': WHATEVER THE INPUT: true; the input reads as it did. -/
def fnFactOrderSpec : ChangeSpec := { name := "fnFactOrder", fn := fun _ => fun
  | [d] => { results := [.lit (.bool true)], args := [d] }
  | _ => none }
def fnFactOrderRow : OpenClaim := { program := "ytgacdehbdhhbnaa", sum := "3922870ab8db264396b00903f66c1f9e1e95f76147aaca09b5750fec9cf1b661", func := "loop.example/wholerules/laws.FnFactOrder", spec := "fnFactOrder", apart := false }
def FnFactOrderSaid : Prop := fnFactOrderRow.holds Try.pinned (OpenSpec.ofChange fnFactOrderSpec)

/-- ITS FALSE NEIGHBOUR: 'it returns false'. Refute it at one input. -/
def fnFactOrderWrong : ChangeSpec := { name := "fnFactOrder", fn := fun _ => fun
  | [d] => { results := [.lit (.bool false)], args := [d] }
  | _ => none }
def FnFactOrderWrongFalsely : Prop := fnFactOrderRow.holds Try.pinned (OpenSpec.ofChange fnFactOrderWrong)

/-- 'laws.FnExactAtomOk': WHATEVER THE INPUT: true; the input reads as it did. -/
def fnExactAtomOkSpec : ChangeSpec := { name := "fnExactAtomOk", fn := fun _ => fun
  | [d1, d2] => { results := [.lit (.bool true)], args := [d1, d2] }
  | _ => none }
def fnExactAtomOkRow : OpenClaim := { program := "ytgacdehbdhhbnaa", sum := "3922870ab8db264396b00903f66c1f9e1e95f76147aaca09b5750fec9cf1b661", func := "loop.example/wholerules/laws.FnExactAtomOk", spec := "fnExactAtomOk", apart := false }
def FnExactAtomOkSaid : Prop := fnExactAtomOkRow.holds Try.pinned (OpenSpec.ofChange fnExactAtomOkSpec)

/-- ITS FALSE NEIGHBOUR: 'it returns false'. Refute it at one input. -/
def fnExactAtomOkWrong : ChangeSpec := { name := "fnExactAtomOk", fn := fun _ => fun
  | [d1, d2] => { results := [.lit (.bool false)], args := [d1, d2] }
  | _ => none }
def FnExactAtomOkWrongFalsely : Prop := fnExactAtomOkRow.holds Try.pinned (OpenSpec.ofChange fnExactAtomOkWrong)

/-- 'laws.FnExactLitOk': WHATEVER THE INPUT: true; the input reads as it did. -/
def fnExactLitOkSpec : ChangeSpec := { name := "fnExactLitOk", fn := fun _ => fun
  | [d1, d2] => { results := [.lit (.bool true)], args := [d1, d2] }
  | _ => none }
def fnExactLitOkRow : OpenClaim := { program := "ytgacdehbdhhbnaa", sum := "3922870ab8db264396b00903f66c1f9e1e95f76147aaca09b5750fec9cf1b661", func := "loop.example/wholerules/laws.FnExactLitOk", spec := "fnExactLitOk", apart := false }
def FnExactLitOkSaid : Prop := fnExactLitOkRow.holds Try.pinned (OpenSpec.ofChange fnExactLitOkSpec)

/-- ITS FALSE NEIGHBOUR: 'it returns false'. Refute it at one input. -/
def fnExactLitOkWrong : ChangeSpec := { name := "fnExactLitOk", fn := fun _ => fun
  | [d1, d2] => { results := [.lit (.bool false)], args := [d1, d2] }
  | _ => none }
def FnExactLitOkWrongFalsely : Prop := fnExactLitOkRow.holds Try.pinned (OpenSpec.ofChange fnExactLitOkWrong)

/-- 'laws.FnExactRuleSafe': WHATEVER THE INPUT: true; the input reads as it did. -/
def fnExactRuleSafeSpec : ChangeSpec := { name := "fnExactRuleSafe", fn := fun _ => fun
  | [d] => { results := [.lit (.bool true)], args := [d] }
  | _ => none }
def fnExactRuleSafeRow : OpenClaim := { program := "ytgacdehbdhhbnaa", sum := "3922870ab8db264396b00903f66c1f9e1e95f76147aaca09b5750fec9cf1b661", func := "loop.example/wholerules/laws.FnExactRuleSafe", spec := "fnExactRuleSafe", apart := false }
def FnExactRuleSafeSaid : Prop := fnExactRuleSafeRow.holds Try.pinned (OpenSpec.ofChange fnExactRuleSafeSpec)

/-- ITS FALSE NEIGHBOUR: 'it returns false'. Refute it at one input. -/
def fnExactRuleSafeWrong : ChangeSpec := { name := "fnExactRuleSafe", fn := fun _ => fun
  | [d] => { results := [.lit (.bool false)], args := [d] }
  | _ => none }
def FnExactRuleSafeWrongFalsely : Prop := fnExactRuleSafeRow.holds Try.pinned (OpenSpec.ofChange fnExactRuleSafeWrong)

/-- 'laws.FnExactRuleOk': WHATEVER THE INPUT: true; the input reads as it did. -/
def fnExactRuleOkSpec : ChangeSpec := { name := "fnExactRuleOk", fn := fun _ => fun
  | [d1, d2] => { results := [.lit (.bool true)], args := [d1, d2] }
  | _ => none }
def fnExactRuleOkRow : OpenClaim := { program := "ytgacdehbdhhbnaa", sum := "3922870ab8db264396b00903f66c1f9e1e95f76147aaca09b5750fec9cf1b661", func := "loop.example/wholerules/laws.FnExactRuleOk", spec := "fnExactRuleOk", apart := false }
def FnExactRuleOkSaid : Prop := fnExactRuleOkRow.holds Try.pinned (OpenSpec.ofChange fnExactRuleOkSpec)

/-- ITS FALSE NEIGHBOUR: 'it returns false'. Refute it at one input. -/
def fnExactRuleOkWrong : ChangeSpec := { name := "fnExactRuleOk", fn := fun _ => fun
  | [d1, d2] => { results := [.lit (.bool false)], args := [d1, d2] }
  | _ => none }
def FnExactRuleOkWrongFalsely : Prop := fnExactRuleOkRow.holds Try.pinned (OpenSpec.ofChange fnExactRuleOkWrong)

/-- 'laws.FnExactProgramOk': WHATEVER THE INPUT: true; the input reads as it did. -/
def fnExactProgramOkSpec : ChangeSpec := { name := "fnExactProgramOk", fn := fun _ => fun
  | [d] => { results := [.lit (.bool true)], args := [d] }
  | _ => none }
def fnExactProgramOkRow : OpenClaim := { program := "ytgacdehbdhhbnaa", sum := "3922870ab8db264396b00903f66c1f9e1e95f76147aaca09b5750fec9cf1b661", func := "loop.example/wholerules/laws.FnExactProgramOk", spec := "fnExactProgramOk", apart := false }
def FnExactProgramOkSaid : Prop := fnExactProgramOkRow.holds Try.pinned (OpenSpec.ofChange fnExactProgramOkSpec)

/-- ITS FALSE NEIGHBOUR: 'it returns false'. Refute it at one input. -/
def fnExactProgramOkWrong : ChangeSpec := { name := "fnExactProgramOk", fn := fun _ => fun
  | [d] => { results := [.lit (.bool false)], args := [d] }
  | _ => none }
def FnExactProgramOkWrongFalsely : Prop := fnExactProgramOkRow.holds Try.pinned (OpenSpec.ofChange fnExactProgramOkWrong)

/-- 'laws.FnExactPositive': WHATEVER THE INPUT: true; the input reads as it did. -/
def fnExactPositiveSpec : ChangeSpec := { name := "fnExactPositive", fn := fun _ => fun
  | [d] => { results := [.lit (.bool true)], args := [d] }
  | _ => none }
def fnExactPositiveRow : OpenClaim := { program := "ytgacdehbdhhbnaa", sum := "3922870ab8db264396b00903f66c1f9e1e95f76147aaca09b5750fec9cf1b661", func := "loop.example/wholerules/laws.FnExactPositive", spec := "fnExactPositive", apart := false }
def FnExactPositiveSaid : Prop := fnExactPositiveRow.holds Try.pinned (OpenSpec.ofChange fnExactPositiveSpec)

/-- ITS FALSE NEIGHBOUR: 'it returns false'. Refute it at one input. -/
def fnExactPositiveWrong : ChangeSpec := { name := "fnExactPositive", fn := fun _ => fun
  | [d] => { results := [.lit (.bool false)], args := [d] }
  | _ => none }
def FnExactPositiveWrongFalsely : Prop := fnExactPositiveRow.holds Try.pinned (OpenSpec.ofChange fnExactPositiveWrong)

/-- 'laws.FnExactRulesOf': WHATEVER THE INPUT: true; the input reads as it did. -/
def fnExactRulesOfSpec : ChangeSpec := { name := "fnExactRulesOf", fn := fun _ => fun
  | [d1, d2] => { results := [.lit (.bool true)], args := [d1, d2] }
  | _ => none }
def fnExactRulesOfRow : OpenClaim := { program := "ytgacdehbdhhbnaa", sum := "3922870ab8db264396b00903f66c1f9e1e95f76147aaca09b5750fec9cf1b661", func := "loop.example/wholerules/laws.FnExactRulesOf", spec := "fnExactRulesOf", apart := false }
def FnExactRulesOfSaid : Prop := fnExactRulesOfRow.holds Try.pinned (OpenSpec.ofChange fnExactRulesOfSpec)

/-- ITS FALSE NEIGHBOUR: 'it returns false'. Refute it at one input. -/
def fnExactRulesOfWrong : ChangeSpec := { name := "fnExactRulesOf", fn := fun _ => fun
  | [d1, d2] => { results := [.lit (.bool false)], args := [d1, d2] }
  | _ => none }
def FnExactRulesOfWrongFalsely : Prop := fnExactRulesOfRow.holds Try.pinned (OpenSpec.ofChange fnExactRulesOfWrong)

/-- 'laws.FnExactRenamed': WHATEVER THE INPUT: true; the input reads as it did. -/
def fnExactRenamedSpec : ChangeSpec := { name := "fnExactRenamed", fn := fun _ => fun
  | [d] => { results := [.lit (.bool true)], args := [d] }
  | _ => none }
def fnExactRenamedRow : OpenClaim := { program := "ytgacdehbdhhbnaa", sum := "3922870ab8db264396b00903f66c1f9e1e95f76147aaca09b5750fec9cf1b661", func := "loop.example/wholerules/laws.FnExactRenamed", spec := "fnExactRenamed", apart := false }
def FnExactRenamedSaid : Prop := fnExactRenamedRow.holds Try.pinned (OpenSpec.ofChange fnExactRenamedSpec)

/-- ITS FALSE NEIGHBOUR: 'it returns false'. Refute it at one input. -/
def fnExactRenamedWrong : ChangeSpec := { name := "fnExactRenamed", fn := fun _ => fun
  | [d] => { results := [.lit (.bool false)], args := [d] }
  | _ => none }
def FnExactRenamedWrongFalsely : Prop := fnExactRenamedRow.holds Try.pinned (OpenSpec.ofChange fnExactRenamedWrong)

/- THE SECOND FORM. 'bulk': how many values and letters a reading holds, each counted each time it is reached (what is shared counts as often as it is met; a slice's spare places count too). A statement '..UptoSaid' is the law's where the arguments, and the package variables that the reading takes, are together of bulk at most 1048576: NARROWER than '..Said'. Prove '..Said' where nothing that the law and all that it calls make is longer than what came in: it says more and counts as full. Else prove '..UptoSaid'. A law counts once. -/
mutual
def uptoBulk {H : Type} : DataW H → Nat
  | .lit (.string bytes) => bytes.length + 1
  | .lit _ => 1
  | .nil => 1
  | .ptr d => uptoBulk d + 1
  | .slice elems spare => uptoBulkAll elems + uptoBulkAll spare + 1
  | .agg parts => uptoBulkAll parts + 1
  | .iface _ d => uptoBulk d + 1
  | .map entries => uptoBulkEntries entries + 1
  | .held _ => 1
def uptoBulkAll {H : Type} : List (DataW H) → Nat
  | [] => 0
  | d :: r => uptoBulk d + uptoBulkAll r
def uptoBulkEntries {H : Type} : List (Lit × DataW H) → Nat
  | [] => 0
  | x :: r => uptoBulkEntry x + uptoBulkEntries r
def uptoBulkEntry {H : Type} : Lit × DataW H → Nat
  | (.string bytes, d) => bytes.length + uptoBulk d + 1
  | (_, d) => uptoBulk d + 1
 end
def uptoSmall : (H : Type) → List (DataW H) → Bool := fun _ ds => decide (uptoBulkAll ds ≤ 1048576)
def OpenSpec.upto (s : _root_.Go.ChangeSpec) : _root_.Go.OpenSpec := { _root_.Go.OpenSpec.ofChange s with cond := some uptoSmall }

/-- 'laws.FnFactOrder', WHERE WHAT IT READS IS OF BULK AT MOST 1048576: true; the input reads as it did. -/
def fnFactOrderUptoRow : OpenClaim := { program := "ytgacdehbdhhbnaa", sum := "3922870ab8db264396b00903f66c1f9e1e95f76147aaca09b5750fec9cf1b661", func := "loop.example/wholerules/laws.FnFactOrder", spec := "fnFactOrder", apart := false, narrowed := true }
def FnFactOrderUptoSaid : Prop := fnFactOrderUptoRow.holds Try.pinned (OpenSpec.upto fnFactOrderSpec)

/-- 'laws.FnExactAtomOk', WHERE WHAT IT READS IS OF BULK AT MOST 1048576: true; the input reads as it did. -/
def fnExactAtomOkUptoRow : OpenClaim := { program := "ytgacdehbdhhbnaa", sum := "3922870ab8db264396b00903f66c1f9e1e95f76147aaca09b5750fec9cf1b661", func := "loop.example/wholerules/laws.FnExactAtomOk", spec := "fnExactAtomOk", apart := false, narrowed := true }
def FnExactAtomOkUptoSaid : Prop := fnExactAtomOkUptoRow.holds Try.pinned (OpenSpec.upto fnExactAtomOkSpec)

/-- 'laws.FnExactLitOk', WHERE WHAT IT READS IS OF BULK AT MOST 1048576: true; the input reads as it did. -/
def fnExactLitOkUptoRow : OpenClaim := { program := "ytgacdehbdhhbnaa", sum := "3922870ab8db264396b00903f66c1f9e1e95f76147aaca09b5750fec9cf1b661", func := "loop.example/wholerules/laws.FnExactLitOk", spec := "fnExactLitOk", apart := false, narrowed := true }
def FnExactLitOkUptoSaid : Prop := fnExactLitOkUptoRow.holds Try.pinned (OpenSpec.upto fnExactLitOkSpec)

/-- 'laws.FnExactRuleSafe', WHERE WHAT IT READS IS OF BULK AT MOST 1048576: true; the input reads as it did. -/
def fnExactRuleSafeUptoRow : OpenClaim := { program := "ytgacdehbdhhbnaa", sum := "3922870ab8db264396b00903f66c1f9e1e95f76147aaca09b5750fec9cf1b661", func := "loop.example/wholerules/laws.FnExactRuleSafe", spec := "fnExactRuleSafe", apart := false, narrowed := true }
def FnExactRuleSafeUptoSaid : Prop := fnExactRuleSafeUptoRow.holds Try.pinned (OpenSpec.upto fnExactRuleSafeSpec)

/-- 'laws.FnExactRuleOk', WHERE WHAT IT READS IS OF BULK AT MOST 1048576: true; the input reads as it did. -/
def fnExactRuleOkUptoRow : OpenClaim := { program := "ytgacdehbdhhbnaa", sum := "3922870ab8db264396b00903f66c1f9e1e95f76147aaca09b5750fec9cf1b661", func := "loop.example/wholerules/laws.FnExactRuleOk", spec := "fnExactRuleOk", apart := false, narrowed := true }
def FnExactRuleOkUptoSaid : Prop := fnExactRuleOkUptoRow.holds Try.pinned (OpenSpec.upto fnExactRuleOkSpec)

/-- 'laws.FnExactProgramOk', WHERE WHAT IT READS IS OF BULK AT MOST 1048576: true; the input reads as it did. -/
def fnExactProgramOkUptoRow : OpenClaim := { program := "ytgacdehbdhhbnaa", sum := "3922870ab8db264396b00903f66c1f9e1e95f76147aaca09b5750fec9cf1b661", func := "loop.example/wholerules/laws.FnExactProgramOk", spec := "fnExactProgramOk", apart := false, narrowed := true }
def FnExactProgramOkUptoSaid : Prop := fnExactProgramOkUptoRow.holds Try.pinned (OpenSpec.upto fnExactProgramOkSpec)

/-- 'laws.FnExactPositive', WHERE WHAT IT READS IS OF BULK AT MOST 1048576: true; the input reads as it did. -/
def fnExactPositiveUptoRow : OpenClaim := { program := "ytgacdehbdhhbnaa", sum := "3922870ab8db264396b00903f66c1f9e1e95f76147aaca09b5750fec9cf1b661", func := "loop.example/wholerules/laws.FnExactPositive", spec := "fnExactPositive", apart := false, narrowed := true }
def FnExactPositiveUptoSaid : Prop := fnExactPositiveUptoRow.holds Try.pinned (OpenSpec.upto fnExactPositiveSpec)

/-- 'laws.FnExactRulesOf', WHERE WHAT IT READS IS OF BULK AT MOST 1048576: true; the input reads as it did. -/
def fnExactRulesOfUptoRow : OpenClaim := { program := "ytgacdehbdhhbnaa", sum := "3922870ab8db264396b00903f66c1f9e1e95f76147aaca09b5750fec9cf1b661", func := "loop.example/wholerules/laws.FnExactRulesOf", spec := "fnExactRulesOf", apart := false, narrowed := true }
def FnExactRulesOfUptoSaid : Prop := fnExactRulesOfUptoRow.holds Try.pinned (OpenSpec.upto fnExactRulesOfSpec)

/-- 'laws.FnExactRenamed', WHERE WHAT IT READS IS OF BULK AT MOST 1048576: true; the input reads as it did. -/
def fnExactRenamedUptoRow : OpenClaim := { program := "ytgacdehbdhhbnaa", sum := "3922870ab8db264396b00903f66c1f9e1e95f76147aaca09b5750fec9cf1b661", func := "loop.example/wholerules/laws.FnExactRenamed", spec := "fnExactRenamed", apart := false, narrowed := true }
def FnExactRenamedUptoSaid : Prop := fnExactRenamedUptoRow.holds Try.pinned (OpenSpec.upto fnExactRenamedSpec)

end Rows
end Go.Proofs.Ytgacdehbdhhbnaa
