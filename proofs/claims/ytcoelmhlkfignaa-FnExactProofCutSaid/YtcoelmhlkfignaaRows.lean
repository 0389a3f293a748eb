/-
  No cell of these rows narrows 'for every input' (looked for: loops, veiled, ifaces, maps, wideKeys, modest, calm, conditions, laid).
  DERIVED. THE GIVEN ROWS OF THIS SEAT. 3 by the template 'for every input the law returns true; each argument reads behind the call as it read before'; 0 by the template 'total and deterministic' (their statements: YtcoelmhlkfignaaTotals.lean).
  GIVEN WITH THE SEED: the statements are not yours to turn. If you find one false, say at which input.
  Laid BY PROGRAM, IN A SANDBOX (cutbox-rows.mjs): the forced cells as the released guide's own fill.sh prints them over the translation 0fef400150a9774f… (all of the seat's roots in one cut). By AI agents, Wed Nov 11 2026. No macro, syntax, notation, axiom, sorry.
-/
import Derived.Test.YtcoelmhlkfignaaChecked
import GoSem.Claim
import GoSem.ClaimJoined
import GoSem.ClaimMapViews
import Derived.JoinedTies
import Derived.KernelRfl
namespace Go.Proofs.Ytcoelmhlkfignaa
/- THE CELL 'sum', in the pinned program and in every row, IS THE sha256 OF THE DUMP (.gsa) THAT YtcoelmhlkfignaaProg.lean LOADS. Nothing in Lean hashes anything: it is a label: what it is worth is what the hold of that sum in a sandbox is worth. -/
noncomputable def Try.pinned : Pinned := { name := "ytcoelmhlkfignaa", sum := "0fef400150a9774fee4ce84fa48b5c0aca1d632cf4175c49612acc49a9e43a44", checked := Try.checked }
namespace Rows
def none {H : Type} : Left H := { results := [], args := [] }

/-- 'laws.FnExactProofDeep': WHATEVER THE INPUT: true; the input reads as it did. -/
def fnExactProofDeepSpec : ChangeSpec := { name := "fnExactProofDeep", fn := fun _ => fun
  | [d] => { results := [.lit (.bool true)], args := [d] }
  | _ => none }
def fnExactProofDeepRow : OpenClaim := { program := "ytcoelmhlkfignaa", sum := "0fef400150a9774fee4ce84fa48b5c0aca1d632cf4175c49612acc49a9e43a44", func := "loop.example/wholerules/laws.FnExactProofDeep", spec := "fnExactProofDeep", apart := false }
def FnExactProofDeepSaid : Prop := fnExactProofDeepRow.holds Try.pinned (OpenSpec.ofChange fnExactProofDeepSpec)

/-- ITS FALSE NEIGHBOUR: 'it returns false'. Refute it at one input. -/
def fnExactProofDeepWrong : ChangeSpec := { name := "fnExactProofDeep", fn := fun _ => fun
  | [d] => { results := [.lit (.bool false)], args := [d] }
  | _ => none }
def FnExactProofDeepWrongFalsely : Prop := fnExactProofDeepRow.holds Try.pinned (OpenSpec.ofChange fnExactProofDeepWrong)

/-- 'laws.FnExactProofUses': WHATEVER THE INPUT: true; the input reads as it did. -/
def fnExactProofUsesSpec : ChangeSpec := { name := "fnExactProofUses", fn := fun _ => fun
  | [d] => { results := [.lit (.bool true)], args := [d] }
  | _ => none }
def fnExactProofUsesRow : OpenClaim := { program := "ytcoelmhlkfignaa", sum := "0fef400150a9774fee4ce84fa48b5c0aca1d632cf4175c49612acc49a9e43a44", func := "loop.example/wholerules/laws.FnExactProofUses", spec := "fnExactProofUses", unfollowed := true, recurses := true, apart := false }
def FnExactProofUsesSaid : Prop := fnExactProofUsesRow.holds Try.pinned (OpenSpec.ofChange fnExactProofUsesSpec)

/-- ITS FALSE NEIGHBOUR: 'it returns false'. Refute it at one input. -/
def fnExactProofUsesWrong : ChangeSpec := { name := "fnExactProofUses", fn := fun _ => fun
  | [d] => { results := [.lit (.bool false)], args := [d] }
  | _ => none }
def FnExactProofUsesWrongFalsely : Prop := fnExactProofUsesRow.holds Try.pinned (OpenSpec.ofChange fnExactProofUsesWrong)

/-- 'laws.FnExactProofCut': WHATEVER THE INPUT: true; the input reads as it did. -/
def fnExactProofCutSpec : ChangeSpec := { name := "fnExactProofCut", fn := fun _ => fun
  | [d1, d2] => { results := [.lit (.bool true)], args := [d1, d2] }
  | _ => none }
def fnExactProofCutRow : OpenClaim := { program := "ytcoelmhlkfignaa", sum := "0fef400150a9774fee4ce84fa48b5c0aca1d632cf4175c49612acc49a9e43a44", func := "loop.example/wholerules/laws.FnExactProofCut", spec := "fnExactProofCut", recurses := true, apart := false }
def FnExactProofCutSaid : Prop := fnExactProofCutRow.holds Try.pinned (OpenSpec.ofChange fnExactProofCutSpec)

/-- ITS FALSE NEIGHBOUR: 'it returns false'. Refute it at one input. -/
def fnExactProofCutWrong : ChangeSpec := { name := "fnExactProofCut", fn := fun _ => fun
  | [d1, d2] => { results := [.lit (.bool false)], args := [d1, d2] }
  | _ => none }
def FnExactProofCutWrongFalsely : Prop := fnExactProofCutRow.holds Try.pinned (OpenSpec.ofChange fnExactProofCutWrong)

/- THE SECOND FORM. 'bulk': how many values and letters a reading holds, each counted each time it is reached (what is shared counts as often as it is met; a slice's spare places count too). A statement '..UptoSaid' is the law's where the arguments, and the package variables that the reading takes, are together of bulk at most 1048576: NARROWER than '..Said'. Prove '..Said' where nothing that the law and all that it calls make is longer than what came in: it says more and counts as full. Else prove '..UptoSaid'. A law counts once. -/
mutual
def uptoBulk {H : Type} : DataW H → Nat
  | .lit (.string bytes) => bytes.length + 1
  | .lit _ => 1
  | .nil => 1
  | .ptr d => uptoBulk d + 1
  | .slice elems spare => uptoBulkAll elems + uptoBulkAll spare + 1
  | .agg parts => uptoBulkAll parts + 1
  | .iface _ d => uptoBulk d + 1
  | .map entries => uptoBulkEntries entries + 1
  | .held _ => 1
def uptoBulkAll {H : Type} : List (DataW H) → Nat
  | [] => 0
  | d :: r => uptoBulk d + uptoBulkAll r
def uptoBulkEntries {H : Type} : List (Lit × DataW H) → Nat
  | [] => 0
  | x :: r => uptoBulkEntry x + uptoBulkEntries r
def uptoBulkEntry {H : Type} : Lit × DataW H → Nat
  | (.string bytes, d) => bytes.length + uptoBulk d + 1
  | (_, d) => uptoBulk d + 1
 end
def uptoSmall : (H : Type) → List (DataW H) → Bool := fun _ ds => decide (uptoBulkAll ds ≤ 1048576)
def OpenSpec.upto (s : _root_.Go.ChangeSpec) : _root_.Go.OpenSpec := { _root_.Go.OpenSpec.ofChange s with cond := some uptoSmall }

/-- 'laws.FnExactProofDeep', WHERE WHAT IT READS IS OF BULK AT MOST 1048576: true; the input reads as it did. -/
def fnExactProofDeepUptoRow : OpenClaim := { program := "ytcoelmhlkfignaa", sum := "0fef400150a9774fee4ce84fa48b5c0aca1d632cf4175c49612acc49a9e43a44", func := "loop.example/wholerules/laws.FnExactProofDeep", spec := "fnExactProofDeep", apart := false, narrowed := true }
def FnExactProofDeepUptoSaid : Prop := fnExactProofDeepUptoRow.holds Try.pinned (OpenSpec.upto fnExactProofDeepSpec)

/-- 'laws.FnExactProofUses', WHERE WHAT IT READS IS OF BULK AT MOST 1048576: true; the input reads as it did. -/
def fnExactProofUsesUptoRow : OpenClaim := { program := "ytcoelmhlkfignaa", sum := "0fef400150a9774fee4ce84fa48b5c0aca1d632cf4175c49612acc49a9e43a44", func := "loop.example/wholerules/laws.FnExactProofUses", spec := "fnExactProofUses", unfollowed := true, recurses := true, apart := false, narrowed := true }
def FnExactProofUsesUptoSaid : Prop := fnExactProofUsesUptoRow.holds Try.pinned (OpenSpec.upto fnExactProofUsesSpec)

/-- 'laws.FnExactProofCut', WHERE WHAT IT READS IS OF BULK AT MOST 1048576: true; the input reads as it did. -/
def fnExactProofCutUptoRow : OpenClaim := { program := "ytcoelmhlkfignaa", sum := "0fef400150a9774fee4ce84fa48b5c0aca1d632cf4175c49612acc49a9e43a44", func := "loop.example/wholerules/laws.FnExactProofCut", spec := "fnExactProofCut", recurses := true, apart := false, narrowed := true }
def FnExactProofCutUptoSaid : Prop := fnExactProofCutUptoRow.holds Try.pinned (OpenSpec.upto fnExactProofCutSpec)

end Rows
end Go.Proofs.Ytcoelmhlkfignaa
