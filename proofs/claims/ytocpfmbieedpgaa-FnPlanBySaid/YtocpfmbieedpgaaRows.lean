/-
  No cell of these rows narrows 'for every input' (looked for: loops, veiled, ifaces, maps, wideKeys, modest, calm, conditions, laid).
  DERIVED. THE GIVEN ROWS OF THIS SEAT. 7 by the template 'for every input the law returns true; each argument reads behind the call as it read before'; 0 by the template 'total and deterministic' (their statements: YtocpfmbieedpgaaTotals.lean).
  GIVEN WITH THE SEED: the statements are not yours to turn. If you find one false, say at which input.
  Laid BY PROGRAM, IN A SANDBOX (cutbox-rows.mjs): the forced cells as the released guide's own fill.sh prints them over the translation 1171c7178a7bab14… (all of the seat's roots in one cut). By AI agents, Wed Nov 11 2026. No macro, syntax, notation, axiom, sorry.
-/
import Derived.Test.YtocpfmbieedpgaaChecked
import GoSem.Claim
import GoSem.ClaimJoined
import GoSem.ClaimMapViews
import Derived.JoinedTies
import Derived.KernelRfl
namespace Go.Proofs.Ytocpfmbieedpgaa
/- THE CELL 'sum', in the pinned program and in every row, IS THE sha256 OF THE DUMP (.gsa) THAT YtocpfmbieedpgaaProg.lean LOADS. Nothing in Lean hashes anything: it is a label: what it is worth is what the hold of that sum in a sandbox is worth. -/
noncomputable def Try.pinned : Pinned := { name := "ytocpfmbieedpgaa", sum := "1171c7178a7bab1416111c2e2982d70150c5ab839690189eb0ed6283e6a49d3b", checked := Try.checked }
namespace Rows
def none {H : Type} : Left H := { results := [], args := [] }

/-- 'laws.FnPlanOf': WHATEVER THE INPUT: true; the input reads as it did. -/
def fnPlanOfSpec : ChangeSpec := { name := "fnPlanOf", fn := fun _ => fun
  | [d] => { results := [.lit (.bool true)], args := [d] }
  | _ => none }
def fnPlanOfRow : OpenClaim := { program := "ytocpfmbieedpgaa", sum := "1171c7178a7bab1416111c2e2982d70150c5ab839690189eb0ed6283e6a49d3b", func := "loop.example/wholerules/laws.FnPlanOf", spec := "fnPlanOf", recurses := true, apart := false }
def FnPlanOfSaid : Prop := fnPlanOfRow.holds Try.pinned (OpenSpec.ofChange fnPlanOfSpec)

/-- ITS FALSE NEIGHBOUR: 'it returns false'. Refute it at one input. -/
def fnPlanOfWrong : ChangeSpec := { name := "fnPlanOf", fn := fun _ => fun
  | [d] => { results := [.lit (.bool false)], args := [d] }
  | _ => none }
def FnPlanOfWrongFalsely : Prop := fnPlanOfRow.holds Try.pinned (OpenSpec.ofChange fnPlanOfWrong)

/-- 'laws.FnPlanBy': WHATEVER THE INPUT: true; the input reads as it did. -/
def fnPlanBySpec : ChangeSpec := { name := "fnPlanBy", fn := fun _ => fun
  | [d] => { results := [.lit (.bool true)], args := [d] }
  | _ => none }
def fnPlanByRow : OpenClaim := { program := "ytocpfmbieedpgaa", sum := "1171c7178a7bab1416111c2e2982d70150c5ab839690189eb0ed6283e6a49d3b", func := "loop.example/wholerules/laws.FnPlanBy", spec := "fnPlanBy", recurses := true, apart := false }
def FnPlanBySaid : Prop := fnPlanByRow.holds Try.pinned (OpenSpec.ofChange fnPlanBySpec)

/-- ITS FALSE NEIGHBOUR: 'it returns false'. Refute it at one input. -/
def fnPlanByWrong : ChangeSpec := { name := "fnPlanBy", fn := fun _ => fun
  | [d] => { results := [.lit (.bool false)], args := [d] }
  | _ => none }
def FnPlanByWrongFalsely : Prop := fnPlanByRow.holds Try.pinned (OpenSpec.ofChange fnPlanByWrong)

/-- 'laws.FnExactPlanOk': WHATEVER THE INPUT: true; the input reads as it did. -/
def fnExactPlanOkSpec : ChangeSpec := { name := "fnExactPlanOk", fn := fun _ => fun
  | [d1, d2] => { results := [.lit (.bool true)], args := [d1, d2] }
  | _ => none }
def fnExactPlanOkRow : OpenClaim := { program := "ytocpfmbieedpgaa", sum := "1171c7178a7bab1416111c2e2982d70150c5ab839690189eb0ed6283e6a49d3b", func := "loop.example/wholerules/laws.FnExactPlanOk", spec := "fnExactPlanOk", apart := false }
def FnExactPlanOkSaid : Prop := fnExactPlanOkRow.holds Try.pinned (OpenSpec.ofChange fnExactPlanOkSpec)

/-- ITS FALSE NEIGHBOUR: 'it returns false'. Refute it at one input. -/
def fnExactPlanOkWrong : ChangeSpec := { name := "fnExactPlanOk", fn := fun _ => fun
  | [d1, d2] => { results := [.lit (.bool false)], args := [d1, d2] }
  | _ => none }
def FnExactPlanOkWrongFalsely : Prop := fnExactPlanOkRow.holds Try.pinned (OpenSpec.ofChange fnExactPlanOkWrong)

/-- 'laws.FnExactPlanOf': WHATEVER THE INPUT: true; the input reads as it did. -/
def fnExactPlanOfSpec : ChangeSpec := { name := "fnExactPlanOf", fn := fun _ => fun
  | [d1, d2] => { results := [.lit (.bool true)], args := [d1, d2] }
  | _ => none }
def fnExactPlanOfRow : OpenClaim := { program := "ytocpfmbieedpgaa", sum := "1171c7178a7bab1416111c2e2982d70150c5ab839690189eb0ed6283e6a49d3b", func := "loop.example/wholerules/laws.FnExactPlanOf", spec := "fnExactPlanOf", apart := false }
def FnExactPlanOfSaid : Prop := fnExactPlanOfRow.holds Try.pinned (OpenSpec.ofChange fnExactPlanOfSpec)

/-- ITS FALSE NEIGHBOUR: 'it returns false'. Refute it at one input. -/
def fnExactPlanOfWrong : ChangeSpec := { name := "fnExactPlanOf", fn := fun _ => fun
  | [d1, d2] => { results := [.lit (.bool false)], args := [d1, d2] }
  | _ => none }
def FnExactPlanOfWrongFalsely : Prop := fnExactPlanOfRow.holds Try.pinned (OpenSpec.ofChange fnExactPlanOfWrong)

/-- 'laws.FnExactPlanBy': WHATEVER THE INPUT: true; the input reads as it did. -/
def fnExactPlanBySpec : ChangeSpec := { name := "fnExactPlanBy", fn := fun _ => fun
  | [d1, d2, d3] => { results := [.lit (.bool true)], args := [d1, d2, d3] }
  | _ => none }
def fnExactPlanByRow : OpenClaim := { program := "ytocpfmbieedpgaa", sum := "1171c7178a7bab1416111c2e2982d70150c5ab839690189eb0ed6283e6a49d3b", func := "loop.example/wholerules/laws.FnExactPlanBy", spec := "fnExactPlanBy", apart := false }
def FnExactPlanBySaid : Prop := fnExactPlanByRow.holds Try.pinned (OpenSpec.ofChange fnExactPlanBySpec)

/-- ITS FALSE NEIGHBOUR: 'it returns false'. Refute it at one input. -/
def fnExactPlanByWrong : ChangeSpec := { name := "fnExactPlanBy", fn := fun _ => fun
  | [d1, d2, d3] => { results := [.lit (.bool false)], args := [d1, d2, d3] }
  | _ => none }
def FnExactPlanByWrongFalsely : Prop := fnExactPlanByRow.holds Try.pinned (OpenSpec.ofChange fnExactPlanByWrong)

/-- 'laws.FnExactPlanOrders': WHATEVER THE INPUT: true; the input reads as it did. -/
def fnExactPlanOrdersSpec : ChangeSpec := { name := "fnExactPlanOrders", fn := fun _ => fun
  | [d1, d2] => { results := [.lit (.bool true)], args := [d1, d2] }
  | _ => none }
def fnExactPlanOrdersRow : OpenClaim := { program := "ytocpfmbieedpgaa", sum := "1171c7178a7bab1416111c2e2982d70150c5ab839690189eb0ed6283e6a49d3b", func := "loop.example/wholerules/laws.FnExactPlanOrders", spec := "fnExactPlanOrders", recurses := true, apart := false }
def FnExactPlanOrdersSaid : Prop := fnExactPlanOrdersRow.holds Try.pinned (OpenSpec.ofChange fnExactPlanOrdersSpec)

/-- ITS FALSE NEIGHBOUR: 'it returns false'. Refute it at one input. -/
def fnExactPlanOrdersWrong : ChangeSpec := { name := "fnExactPlanOrders", fn := fun _ => fun
  | [d1, d2] => { results := [.lit (.bool false)], args := [d1, d2] }
  | _ => none }
def FnExactPlanOrdersWrongFalsely : Prop := fnExactPlanOrdersRow.holds Try.pinned (OpenSpec.ofChange fnExactPlanOrdersWrong)

/-- 'laws.FnExactPlanSteps': WHATEVER THE INPUT: true; the input reads as it did. -/
def fnExactPlanStepsSpec : ChangeSpec := { name := "fnExactPlanSteps", fn := fun _ => fun
  | [d1, d2, d3] => { results := [.lit (.bool true)], args := [d1, d2, d3] }
  | _ => none }
def fnExactPlanStepsRow : OpenClaim := { program := "ytocpfmbieedpgaa", sum := "1171c7178a7bab1416111c2e2982d70150c5ab839690189eb0ed6283e6a49d3b", func := "loop.example/wholerules/laws.FnExactPlanSteps", spec := "fnExactPlanSteps", unfollowed := true, recurses := true, apart := false }
def FnExactPlanStepsSaid : Prop := fnExactPlanStepsRow.holds Try.pinned (OpenSpec.ofChange fnExactPlanStepsSpec)

/-- ITS FALSE NEIGHBOUR: 'it returns false'. Refute it at one input. -/
def fnExactPlanStepsWrong : ChangeSpec := { name := "fnExactPlanSteps", fn := fun _ => fun
  | [d1, d2, d3] => { results := [.lit (.bool false)], args := [d1, d2, d3] }
  | _ => none }
def FnExactPlanStepsWrongFalsely : Prop := fnExactPlanStepsRow.holds Try.pinned (OpenSpec.ofChange fnExactPlanStepsWrong)

/- THE SECOND FORM. 'bulk': how many values and letters a reading holds, each counted each time it is reached (what is shared counts as often as it is met; a slice's spare places count too). A statement '..UptoSaid' is the law's where the arguments, and the package variables that the reading takes, are together of bulk at most 1048576: NARROWER than '..Said'. Prove '..Said' where nothing that the law and all that it calls make is longer than what came in: it says more and counts as full. Else prove '..UptoSaid'. A law counts once. -/
mutual
def uptoBulk {H : Type} : DataW H → Nat
  | .lit (.string bytes) => bytes.length + 1
  | .lit _ => 1
  | .nil => 1
  | .ptr d => uptoBulk d + 1
  | .slice elems spare => uptoBulkAll elems + uptoBulkAll spare + 1
  | .agg parts => uptoBulkAll parts + 1
  | .iface _ d => uptoBulk d + 1
  | .map entries => uptoBulkEntries entries + 1
  | .held _ => 1
def uptoBulkAll {H : Type} : List (DataW H) → Nat
  | [] => 0
  | d :: r => uptoBulk d + uptoBulkAll r
def uptoBulkEntries {H : Type} : List (Lit × DataW H) → Nat
  | [] => 0
  | x :: r => uptoBulkEntry x + uptoBulkEntries r
def uptoBulkEntry {H : Type} : Lit × DataW H → Nat
  | (.string bytes, d) => bytes.length + uptoBulk d + 1
  | (_, d) => uptoBulk d + 1
 end
def uptoSmall : (H : Type) → List (DataW H) → Bool := fun _ ds => decide (uptoBulkAll ds ≤ 1048576)
def OpenSpec.upto (s : _root_.Go.ChangeSpec) : _root_.Go.OpenSpec := { _root_.Go.OpenSpec.ofChange s with cond := some uptoSmall }

/-- 'laws.FnPlanOf', WHERE WHAT IT READS IS OF BULK AT MOST 1048576: true; the input reads as it did. -/
def fnPlanOfUptoRow : OpenClaim := { program := "ytocpfmbieedpgaa", sum := "1171c7178a7bab1416111c2e2982d70150c5ab839690189eb0ed6283e6a49d3b", func := "loop.example/wholerules/laws.FnPlanOf", spec := "fnPlanOf", recurses := true, apart := false, narrowed := true }
def FnPlanOfUptoSaid : Prop := fnPlanOfUptoRow.holds Try.pinned (OpenSpec.upto fnPlanOfSpec)

/-- 'laws.FnPlanBy', WHERE WHAT IT READS IS OF BULK AT MOST 1048576: true; the input reads as it did. -/
def fnPlanByUptoRow : OpenClaim := { program := "ytocpfmbieedpgaa", sum := "1171c7178a7bab1416111c2e2982d70150c5ab839690189eb0ed6283e6a49d3b", func := "loop.example/wholerules/laws.FnPlanBy", spec := "fnPlanBy", recurses := true, apart := false, narrowed := true }
def FnPlanByUptoSaid : Prop := fnPlanByUptoRow.holds Try.pinned (OpenSpec.upto fnPlanBySpec)

/-- 'laws.FnExactPlanOk', WHERE WHAT IT READS IS OF BULK AT MOST 1048576: true; the input reads as it did. -/
def fnExactPlanOkUptoRow : OpenClaim := { program := "ytocpfmbieedpgaa", sum := "1171c7178a7bab1416111c2e2982d70150c5ab839690189eb0ed6283e6a49d3b", func := "loop.example/wholerules/laws.FnExactPlanOk", spec := "fnExactPlanOk", apart := false, narrowed := true }
def FnExactPlanOkUptoSaid : Prop := fnExactPlanOkUptoRow.holds Try.pinned (OpenSpec.upto fnExactPlanOkSpec)

/-- 'laws.FnExactPlanOf', WHERE WHAT IT READS IS OF BULK AT MOST 1048576: true; the input reads as it did. -/
def fnExactPlanOfUptoRow : OpenClaim := { program := "ytocpfmbieedpgaa", sum := "1171c7178a7bab1416111c2e2982d70150c5ab839690189eb0ed6283e6a49d3b", func := "loop.example/wholerules/laws.FnExactPlanOf", spec := "fnExactPlanOf", apart := false, narrowed := true }
def FnExactPlanOfUptoSaid : Prop := fnExactPlanOfUptoRow.holds Try.pinned (OpenSpec.upto fnExactPlanOfSpec)

/-- 'laws.FnExactPlanBy', WHERE WHAT IT READS IS OF BULK AT MOST 1048576: true; the input reads as it did. -/
def fnExactPlanByUptoRow : OpenClaim := { program := "ytocpfmbieedpgaa", sum := "1171c7178a7bab1416111c2e2982d70150c5ab839690189eb0ed6283e6a49d3b", func := "loop.example/wholerules/laws.FnExactPlanBy", spec := "fnExactPlanBy", apart := false, narrowed := true }
def FnExactPlanByUptoSaid : Prop := fnExactPlanByUptoRow.holds Try.pinned (OpenSpec.upto fnExactPlanBySpec)

/-- 'laws.FnExactPlanOrders', WHERE WHAT IT READS IS OF BULK AT MOST 1048576: true; the input reads as it did. -/
def fnExactPlanOrdersUptoRow : OpenClaim := { program := "ytocpfmbieedpgaa", sum := "1171c7178a7bab1416111c2e2982d70150c5ab839690189eb0ed6283e6a49d3b", func := "loop.example/wholerules/laws.FnExactPlanOrders", spec := "fnExactPlanOrders", recurses := true, apart := false, narrowed := true }
def FnExactPlanOrdersUptoSaid : Prop := fnExactPlanOrdersUptoRow.holds Try.pinned (OpenSpec.upto fnExactPlanOrdersSpec)

/-- 'laws.FnExactPlanSteps', WHERE WHAT IT READS IS OF BULK AT MOST 1048576: true; the input reads as it did. -/
def fnExactPlanStepsUptoRow : OpenClaim := { program := "ytocpfmbieedpgaa", sum := "1171c7178a7bab1416111c2e2982d70150c5ab839690189eb0ed6283e6a49d3b", func := "loop.example/wholerules/laws.FnExactPlanSteps", spec := "fnExactPlanSteps", unfollowed := true, recurses := true, apart := false, narrowed := true }
def FnExactPlanStepsUptoSaid : Prop := fnExactPlanStepsUptoRow.holds Try.pinned (OpenSpec.upto fnExactPlanStepsSpec)

end Rows
end Go.Proofs.Ytocpfmbieedpgaa
