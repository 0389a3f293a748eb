/-
  No cell of these rows narrows 'for every input' (looked for: loops, veiled, ifaces, maps, wideKeys, modest, calm, conditions, laid).
  DERIVED. THE GIVEN ROWS OF THIS SEAT. 3 by the template 'for every input the law returns true; each argument reads behind the call as it read before'; 0 by the template 'total and deterministic' (their statements: YtfjmnjemmfmoaaaGreatTotals.lean).
  GIVEN WITH THE SEED: the statements are not yours to turn. If you find one false, say at which input.
  Laid BY PROGRAM, IN A SANDBOX (cutbox-rows.mjs): the forced cells as the released guide's own fill.sh prints them over the translation abe77a9defb90d72… (all of the seat's roots in one cut). By AI agents, Wed Nov 11 2026. No macro, syntax, notation, axiom, sorry.
-/
import Derived.Test.YtfjmnjemmfmoaaaGreatChecked
import GoSem.Claim
import GoSem.ClaimJoined
import GoSem.ClaimMapViews
import Derived.JoinedTies
import Derived.KernelRfl
namespace Go.Proofs.YtfjmnjemmfmoaaaGreat
/- THE CELL 'sum', in the pinned program and in every row, IS THE sha256 OF THE DUMP (.gsa) THAT YtfjmnjemmfmoaaaGreatProg.lean LOADS. Nothing in Lean hashes anything: it is a label: what it is worth is what the hold of that sum in a sandbox is worth. -/
noncomputable def Tryz.pinned : Pinned := { name := "ytfjmnjemmfmoaaagreat", sum := "abe77a9defb90d72cee9e46bf766e3972d40b2f8b785dbb14bda01468d9dce70", checked := Tryz.checked }
namespace Rows
def none {H : Type} : Left H := { results := [], args := [] }

/-- 'laws.FnExactSupported': WHATEVER THE INPUT: true; the input reads as it did. -/
def fnExactSupportedSpec : ChangeSpec := { name := "fnExactSupported", fn := fun _ => fun
  | [d1, d2, d3] => { results := [.lit (.bool true)], args := [d1, d2, d3] }
  | _ => none }
def fnExactSupportedRow : OpenClaim := { program := "ytfjmnjemmfmoaaagreat", sum := "abe77a9defb90d72cee9e46bf766e3972d40b2f8b785dbb14bda01468d9dce70", func := "loop.example/wholerules/laws.FnExactSupported", spec := "fnExactSupported", unfollowed := true, recurses := true, apart := false }
def FnExactSupportedSaid : Prop := fnExactSupportedRow.holds Tryz.pinned (OpenSpec.ofChange fnExactSupportedSpec)

/-- ITS FALSE NEIGHBOUR: 'it returns false'. Refute it at one input. -/
def fnExactSupportedWrong : ChangeSpec := { name := "fnExactSupported", fn := fun _ => fun
  | [d1, d2, d3] => { results := [.lit (.bool false)], args := [d1, d2, d3] }
  | _ => none }
def FnExactSupportedWrongFalsely : Prop := fnExactSupportedRow.holds Tryz.pinned (OpenSpec.ofChange fnExactSupportedWrong)

/-- 'laws.FnExactGroundOf': WHATEVER THE INPUT: true; the input reads as it did. -/
def fnExactGroundOfSpec : ChangeSpec := { name := "fnExactGroundOf", fn := fun _ => fun
  | [d1, d2] => { results := [.lit (.bool true)], args := [d1, d2] }
  | _ => none }
def fnExactGroundOfRow : OpenClaim := { program := "ytfjmnjemmfmoaaagreat", sum := "abe77a9defb90d72cee9e46bf766e3972d40b2f8b785dbb14bda01468d9dce70", func := "loop.example/wholerules/laws.FnExactGroundOf", spec := "fnExactGroundOf", unfollowed := true, recurses := true, apart := false }
def FnExactGroundOfSaid : Prop := fnExactGroundOfRow.holds Tryz.pinned (OpenSpec.ofChange fnExactGroundOfSpec)

/-- ITS FALSE NEIGHBOUR: 'it returns false'. Refute it at one input. -/
def fnExactGroundOfWrong : ChangeSpec := { name := "fnExactGroundOf", fn := fun _ => fun
  | [d1, d2] => { results := [.lit (.bool false)], args := [d1, d2] }
  | _ => none }
def FnExactGroundOfWrongFalsely : Prop := fnExactGroundOfRow.holds Tryz.pinned (OpenSpec.ofChange fnExactGroundOfWrong)

/-- 'laws.FnExactSolutions': WHATEVER THE INPUT: true; the input reads as it did. -/
def fnExactSolutionsSpec : ChangeSpec := { name := "fnExactSolutions", fn := fun _ => fun
  | [d1, d2] => { results := [.lit (.bool true)], args := [d1, d2] }
  | _ => none }
def fnExactSolutionsRow : OpenClaim := { program := "ytfjmnjemmfmoaaagreat", sum := "abe77a9defb90d72cee9e46bf766e3972d40b2f8b785dbb14bda01468d9dce70", func := "loop.example/wholerules/laws.FnExactSolutions", spec := "fnExactSolutions", unfollowed := true, recurses := true, apart := false }
def FnExactSolutionsSaid : Prop := fnExactSolutionsRow.holds Tryz.pinned (OpenSpec.ofChange fnExactSolutionsSpec)

/-- ITS FALSE NEIGHBOUR: 'it returns false'. Refute it at one input. -/
def fnExactSolutionsWrong : ChangeSpec := { name := "fnExactSolutions", fn := fun _ => fun
  | [d1, d2] => { results := [.lit (.bool false)], args := [d1, d2] }
  | _ => none }
def FnExactSolutionsWrongFalsely : Prop := fnExactSolutionsRow.holds Tryz.pinned (OpenSpec.ofChange fnExactSolutionsWrong)

/- THE SECOND FORM. 'bulk': how many values and letters a reading holds, each counted each time it is reached (what is shared counts as often as it is met; a slice's spare places count too). A statement '..UptoSaid' is the law's where the arguments, and the package variables that the reading takes, are together of bulk at most 1048576: NARROWER than '..Said'. Prove '..Said' where nothing that the law and all that it calls make is longer than what came in: it says more and counts as full. Else prove '..UptoSaid'. A law counts once. -/
mutual
def uptoBulk {H : Type} : DataW H → Nat
  | .lit (.string bytes) => bytes.length + 1
  | .lit _ => 1
  | .nil => 1
  | .ptr d => uptoBulk d + 1
  | .slice elems spare => uptoBulkAll elems + uptoBulkAll spare + 1
  | .agg parts => uptoBulkAll parts + 1
  | .iface _ d => uptoBulk d + 1
  | .map entries => uptoBulkEntries entries + 1
  | .held _ => 1
def uptoBulkAll {H : Type} : List (DataW H) → Nat
  | [] => 0
  | d :: r => uptoBulk d + uptoBulkAll r
def uptoBulkEntries {H : Type} : List (Lit × DataW H) → Nat
  | [] => 0
  | x :: r => uptoBulkEntry x + uptoBulkEntries r
def uptoBulkEntry {H : Type} : Lit × DataW H → Nat
  | (.string bytes, d) => bytes.length + uptoBulk d + 1
  | (_, d) => uptoBulk d + 1
 end
def uptoSmall : (H : Type) → List (DataW H) → Bool := fun _ ds => decide (uptoBulkAll ds ≤ 1048576)
def OpenSpec.upto (s : _root_.Go.ChangeSpec) : _root_.Go.OpenSpec := { _root_.Go.OpenSpec.ofChange s with cond := some uptoSmall }

/-- 'laws.FnExactSupported', WHERE WHAT IT READS IS OF BULK AT MOST 1048576: true; the input reads as it did. -/
def fnExactSupportedUptoRow : OpenClaim := { program := "ytfjmnjemmfmoaaagreat", sum := "abe77a9defb90d72cee9e46bf766e3972d40b2f8b785dbb14bda01468d9dce70", func := "loop.example/wholerules/laws.FnExactSupported", spec := "fnExactSupported", unfollowed := true, recurses := true, apart := false, narrowed := true }
def FnExactSupportedUptoSaid : Prop := fnExactSupportedUptoRow.holds Tryz.pinned (OpenSpec.upto fnExactSupportedSpec)

/-- 'laws.FnExactGroundOf', WHERE WHAT IT READS IS OF BULK AT MOST 1048576: true; the input reads as it did. -/
def fnExactGroundOfUptoRow : OpenClaim := { program := "ytfjmnjemmfmoaaagreat", sum := "abe77a9defb90d72cee9e46bf766e3972d40b2f8b785dbb14bda01468d9dce70", func := "loop.example/wholerules/laws.FnExactGroundOf", spec := "fnExactGroundOf", unfollowed := true, recurses := true, apart := false, narrowed := true }
def FnExactGroundOfUptoSaid : Prop := fnExactGroundOfUptoRow.holds Tryz.pinned (OpenSpec.upto fnExactGroundOfSpec)

/-- 'laws.FnExactSolutions', WHERE WHAT IT READS IS OF BULK AT MOST 1048576: true; the input reads as it did. -/
def fnExactSolutionsUptoRow : OpenClaim := { program := "ytfjmnjemmfmoaaagreat", sum := "abe77a9defb90d72cee9e46bf766e3972d40b2f8b785dbb14bda01468d9dce70", func := "loop.example/wholerules/laws.FnExactSolutions", spec := "fnExactSolutions", unfollowed := true, recurses := true, apart := false, narrowed := true }
def FnExactSolutionsUptoSaid : Prop := fnExactSolutionsUptoRow.holds Tryz.pinned (OpenSpec.upto fnExactSolutionsSpec)

end Rows
end Go.Proofs.YtfjmnjemmfmoaaaGreat
