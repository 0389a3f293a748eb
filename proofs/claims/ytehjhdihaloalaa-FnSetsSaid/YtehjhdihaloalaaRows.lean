/-
  No cell of these rows narrows 'for every input' (looked for: loops, veiled, ifaces, maps, wideKeys, modest, calm, conditions, laid).
  DERIVED. THE GIVEN ROWS OF THIS SEAT. 11 by the template 'for every input the law returns true; each argument reads behind the call as it read before'; 0 by the template 'total and deterministic' (their statements: YtehjhdihaloalaaTotals.lean).
  GIVEN WITH THE SEED: the statements are not yours to turn. If you find one false, say at which input.
  Laid BY PROGRAM, IN A SANDBOX (cutbox-rows.mjs): the forced cells as the released guide's own fill.sh prints them over the translation 1f4357773f219aca… (all of the seat's roots in one cut). By AI agents, Wed Nov 11 2026. No macro, syntax, notation, axiom, sorry.
-/
import Derived.Test.YtehjhdihaloalaaChecked
import GoSem.Claim
import GoSem.ClaimJoined
import GoSem.ClaimMapViews
import Derived.JoinedTies
import Derived.KernelRfl
namespace Go.Proofs.Ytehjhdihaloalaa
/- THE CELL 'sum', in the pinned program and in every row, IS THE sha256 OF THE DUMP (.gsa) THAT YtehjhdihaloalaaProg.lean LOADS. Nothing in Lean hashes anything: it is a label: what it is worth is what the hold of that sum in a sandbox is worth. -/
noncomputable def Try.pinned : Pinned := { name := "ytehjhdihaloalaa", sum := "1f4357773f219aca680fe2712bc243b703c4550271080ecfeec3708e62a99595", checked := Try.checked }
namespace Rows
def none {H : Type} : Left H := { results := [], args := [] }

/-- 'laws.FnExactFactOk': WHATEVER THE INPUT: true; the input reads as it did. -/
def fnExactFactOkSpec : ChangeSpec := { name := "fnExactFactOk", fn := fun _ => fun
  | [d1, d2] => { results := [.lit (.bool true)], args := [d1, d2] }
  | _ => none }
def fnExactFactOkRow : OpenClaim := { program := "ytehjhdihaloalaa", sum := "1f4357773f219aca680fe2712bc243b703c4550271080ecfeec3708e62a99595", func := "loop.example/wholerules/laws.FnExactFactOk", spec := "fnExactFactOk", apart := false }
def FnExactFactOkSaid : Prop := fnExactFactOkRow.holds Try.pinned (OpenSpec.ofChange fnExactFactOkSpec)

/-- ITS FALSE NEIGHBOUR: 'it returns false'. Refute it at one input. -/
def fnExactFactOkWrong : ChangeSpec := { name := "fnExactFactOk", fn := fun _ => fun
  | [d1, d2] => { results := [.lit (.bool false)], args := [d1, d2] }
  | _ => none }
def FnExactFactOkWrongFalsely : Prop := fnExactFactOkRow.holds Try.pinned (OpenSpec.ofChange fnExactFactOkWrong)

/-- 'laws.FnExactFactsOk': WHATEVER THE INPUT: true; the input reads as it did. -/
def fnExactFactsOkSpec : ChangeSpec := { name := "fnExactFactsOk", fn := fun _ => fun
  | [d1, d2] => { results := [.lit (.bool true)], args := [d1, d2] }
  | _ => none }
def fnExactFactsOkRow : OpenClaim := { program := "ytehjhdihaloalaa", sum := "1f4357773f219aca680fe2712bc243b703c4550271080ecfeec3708e62a99595", func := "loop.example/wholerules/laws.FnExactFactsOk", spec := "fnExactFactsOk", apart := false }
def FnExactFactsOkSaid : Prop := fnExactFactsOkRow.holds Try.pinned (OpenSpec.ofChange fnExactFactsOkSpec)

/-- ITS FALSE NEIGHBOUR: 'it returns false'. Refute it at one input. -/
def fnExactFactsOkWrong : ChangeSpec := { name := "fnExactFactsOk", fn := fun _ => fun
  | [d1, d2] => { results := [.lit (.bool false)], args := [d1, d2] }
  | _ => none }
def FnExactFactsOkWrongFalsely : Prop := fnExactFactsOkRow.holds Try.pinned (OpenSpec.ofChange fnExactFactsOkWrong)

/-- 'laws.FnExactFactsEither': WHATEVER THE INPUT: true; the input reads as it did. -/
def fnExactFactsEitherSpec : ChangeSpec := { name := "fnExactFactsEither", fn := fun _ => fun
  | [d1, d2] => { results := [.lit (.bool true)], args := [d1, d2] }
  | _ => none }
def fnExactFactsEitherRow : OpenClaim := { program := "ytehjhdihaloalaa", sum := "1f4357773f219aca680fe2712bc243b703c4550271080ecfeec3708e62a99595", func := "loop.example/wholerules/laws.FnExactFactsEither", spec := "fnExactFactsEither", unfollowed := true, recurses := true, apart := false }
def FnExactFactsEitherSaid : Prop := fnExactFactsEitherRow.holds Try.pinned (OpenSpec.ofChange fnExactFactsEitherSpec)

/-- ITS FALSE NEIGHBOUR: 'it returns false'. Refute it at one input. -/
def fnExactFactsEitherWrong : ChangeSpec := { name := "fnExactFactsEither", fn := fun _ => fun
  | [d1, d2] => { results := [.lit (.bool false)], args := [d1, d2] }
  | _ => none }
def FnExactFactsEitherWrongFalsely : Prop := fnExactFactsEitherRow.holds Try.pinned (OpenSpec.ofChange fnExactFactsEitherWrong)

/-- 'laws.FnExactFactsBoth': WHATEVER THE INPUT: true; the input reads as it did. -/
def fnExactFactsBothSpec : ChangeSpec := { name := "fnExactFactsBoth", fn := fun _ => fun
  | [d1, d2] => { results := [.lit (.bool true)], args := [d1, d2] }
  | _ => none }
def fnExactFactsBothRow : OpenClaim := { program := "ytehjhdihaloalaa", sum := "1f4357773f219aca680fe2712bc243b703c4550271080ecfeec3708e62a99595", func := "loop.example/wholerules/laws.FnExactFactsBoth", spec := "fnExactFactsBoth", unfollowed := true, recurses := true, apart := false }
def FnExactFactsBothSaid : Prop := fnExactFactsBothRow.holds Try.pinned (OpenSpec.ofChange fnExactFactsBothSpec)

/-- ITS FALSE NEIGHBOUR: 'it returns false'. Refute it at one input. -/
def fnExactFactsBothWrong : ChangeSpec := { name := "fnExactFactsBoth", fn := fun _ => fun
  | [d1, d2] => { results := [.lit (.bool false)], args := [d1, d2] }
  | _ => none }
def FnExactFactsBothWrongFalsely : Prop := fnExactFactsBothRow.holds Try.pinned (OpenSpec.ofChange fnExactFactsBothWrong)

/-- 'laws.FnExactFactsLess': WHATEVER THE INPUT: true; the input reads as it did. -/
def fnExactFactsLessSpec : ChangeSpec := { name := "fnExactFactsLess", fn := fun _ => fun
  | [d1, d2] => { results := [.lit (.bool true)], args := [d1, d2] }
  | _ => none }
def fnExactFactsLessRow : OpenClaim := { program := "ytehjhdihaloalaa", sum := "1f4357773f219aca680fe2712bc243b703c4550271080ecfeec3708e62a99595", func := "loop.example/wholerules/laws.FnExactFactsLess", spec := "fnExactFactsLess", unfollowed := true, recurses := true, apart := false }
def FnExactFactsLessSaid : Prop := fnExactFactsLessRow.holds Try.pinned (OpenSpec.ofChange fnExactFactsLessSpec)

/-- ITS FALSE NEIGHBOUR: 'it returns false'. Refute it at one input. -/
def fnExactFactsLessWrong : ChangeSpec := { name := "fnExactFactsLess", fn := fun _ => fun
  | [d1, d2] => { results := [.lit (.bool false)], args := [d1, d2] }
  | _ => none }
def FnExactFactsLessWrongFalsely : Prop := fnExactFactsLessRow.holds Try.pinned (OpenSpec.ofChange fnExactFactsLessWrong)

/-- 'laws.FnExactBound': WHATEVER THE INPUT: true; the input reads as it did. -/
def fnExactBoundSpec : ChangeSpec := { name := "fnExactBound", fn := fun _ => fun
  | [d1, d2] => { results := [.lit (.bool true)], args := [d1, d2] }
  | _ => none }
def fnExactBoundRow : OpenClaim := { program := "ytehjhdihaloalaa", sum := "1f4357773f219aca680fe2712bc243b703c4550271080ecfeec3708e62a99595", func := "loop.example/wholerules/laws.FnExactBound", spec := "fnExactBound", apart := false }
def FnExactBoundSaid : Prop := fnExactBoundRow.holds Try.pinned (OpenSpec.ofChange fnExactBoundSpec)

/-- ITS FALSE NEIGHBOUR: 'it returns false'. Refute it at one input. -/
def fnExactBoundWrong : ChangeSpec := { name := "fnExactBound", fn := fun _ => fun
  | [d1, d2] => { results := [.lit (.bool false)], args := [d1, d2] }
  | _ => none }
def FnExactBoundWrongFalsely : Prop := fnExactBoundRow.holds Try.pinned (OpenSpec.ofChange fnExactBoundWrong)

/-- 'laws.FnExactMatch': WHATEVER THE INPUT: true; the input reads as it did. -/
def fnExactMatchSpec : ChangeSpec := { name := "fnExactMatch", fn := fun _ => fun
  | [d1, d2, d3] => { results := [.lit (.bool true)], args := [d1, d2, d3] }
  | _ => none }
def fnExactMatchRow : OpenClaim := { program := "ytehjhdihaloalaa", sum := "1f4357773f219aca680fe2712bc243b703c4550271080ecfeec3708e62a99595", func := "loop.example/wholerules/laws.FnExactMatch", spec := "fnExactMatch", apart := false }
def FnExactMatchSaid : Prop := fnExactMatchRow.holds Try.pinned (OpenSpec.ofChange fnExactMatchSpec)

/-- ITS FALSE NEIGHBOUR: 'it returns false'. Refute it at one input. -/
def fnExactMatchWrong : ChangeSpec := { name := "fnExactMatch", fn := fun _ => fun
  | [d1, d2, d3] => { results := [.lit (.bool false)], args := [d1, d2, d3] }
  | _ => none }
def FnExactMatchWrongFalsely : Prop := fnExactMatchRow.holds Try.pinned (OpenSpec.ofChange fnExactMatchWrong)

/-- 'laws.FnExactHolds': WHATEVER THE INPUT: true; the input reads as it did. -/
def fnExactHoldsSpec : ChangeSpec := { name := "fnExactHolds", fn := fun _ => fun
  | [d1, d2, d3] => { results := [.lit (.bool true)], args := [d1, d2, d3] }
  | _ => none }
def fnExactHoldsRow : OpenClaim := { program := "ytehjhdihaloalaa", sum := "1f4357773f219aca680fe2712bc243b703c4550271080ecfeec3708e62a99595", func := "loop.example/wholerules/laws.FnExactHolds", spec := "fnExactHolds", apart := false }
def FnExactHoldsSaid : Prop := fnExactHoldsRow.holds Try.pinned (OpenSpec.ofChange fnExactHoldsSpec)

/-- ITS FALSE NEIGHBOUR: 'it returns false'. Refute it at one input. -/
def fnExactHoldsWrong : ChangeSpec := { name := "fnExactHolds", fn := fun _ => fun
  | [d1, d2, d3] => { results := [.lit (.bool false)], args := [d1, d2, d3] }
  | _ => none }
def FnExactHoldsWrongFalsely : Prop := fnExactHoldsRow.holds Try.pinned (OpenSpec.ofChange fnExactHoldsWrong)

/-- 'laws.FnExactBodySafe': WHATEVER THE INPUT: true; the input reads as it did. -/
def fnExactBodySafeSpec : ChangeSpec := { name := "fnExactBodySafe", fn := fun _ => fun
  | [d] => { results := [.lit (.bool true)], args := [d] }
  | _ => none }
def fnExactBodySafeRow : OpenClaim := { program := "ytehjhdihaloalaa", sum := "1f4357773f219aca680fe2712bc243b703c4550271080ecfeec3708e62a99595", func := "loop.example/wholerules/laws.FnExactBodySafe", spec := "fnExactBodySafe", apart := false }
def FnExactBodySafeSaid : Prop := fnExactBodySafeRow.holds Try.pinned (OpenSpec.ofChange fnExactBodySafeSpec)

/-- ITS FALSE NEIGHBOUR: 'it returns false'. Refute it at one input. -/
def fnExactBodySafeWrong : ChangeSpec := { name := "fnExactBodySafe", fn := fun _ => fun
  | [d] => { results := [.lit (.bool false)], args := [d] }
  | _ => none }
def FnExactBodySafeWrongFalsely : Prop := fnExactBodySafeRow.holds Try.pinned (OpenSpec.ofChange fnExactBodySafeWrong)

/-- 'laws.FnExactHeadOf': WHATEVER THE INPUT: true; the input reads as it did. -/
def fnExactHeadOfSpec : ChangeSpec := { name := "fnExactHeadOf", fn := fun _ => fun
  | [d1, d2] => { results := [.lit (.bool true)], args := [d1, d2] }
  | _ => none }
def fnExactHeadOfRow : OpenClaim := { program := "ytehjhdihaloalaa", sum := "1f4357773f219aca680fe2712bc243b703c4550271080ecfeec3708e62a99595", func := "loop.example/wholerules/laws.FnExactHeadOf", spec := "fnExactHeadOf", apart := false }
def FnExactHeadOfSaid : Prop := fnExactHeadOfRow.holds Try.pinned (OpenSpec.ofChange fnExactHeadOfSpec)

/-- ITS FALSE NEIGHBOUR: 'it returns false'. Refute it at one input. -/
def fnExactHeadOfWrong : ChangeSpec := { name := "fnExactHeadOf", fn := fun _ => fun
  | [d1, d2] => { results := [.lit (.bool false)], args := [d1, d2] }
  | _ => none }
def FnExactHeadOfWrongFalsely : Prop := fnExactHeadOfRow.holds Try.pinned (OpenSpec.ofChange fnExactHeadOfWrong)

/-- 'laws.FnSets': WHATEVER THE INPUT: true; the input reads as it did. -/
def fnSetsSpec : ChangeSpec := { name := "fnSets", fn := fun _ => fun
  | [d] => { results := [.lit (.bool true)], args := [d] }
  | _ => none }
def fnSetsRow : OpenClaim := { program := "ytehjhdihaloalaa", sum := "1f4357773f219aca680fe2712bc243b703c4550271080ecfeec3708e62a99595", func := "loop.example/wholerules/laws.FnSets", spec := "fnSets", unfollowed := true, recurses := true, apart := false }
def FnSetsSaid : Prop := fnSetsRow.holds Try.pinned (OpenSpec.ofChange fnSetsSpec)

/-- ITS FALSE NEIGHBOUR: 'it returns false'. Refute it at one input. -/
def fnSetsWrong : ChangeSpec := { name := "fnSets", fn := fun _ => fun
  | [d] => { results := [.lit (.bool false)], args := [d] }
  | _ => none }
def FnSetsWrongFalsely : Prop := fnSetsRow.holds Try.pinned (OpenSpec.ofChange fnSetsWrong)

/- THE SECOND FORM. 'bulk': how many values and letters a reading holds, each counted each time it is reached (what is shared counts as often as it is met; a slice's spare places count too). A statement '..UptoSaid' is the law's where the arguments, and the package variables that the reading takes, are together of bulk at most 1048576: NARROWER than '..Said'. Prove '..Said' where nothing that the law and all that it calls make is longer than what came in: it says more and counts as full. Else prove '..UptoSaid'. A law counts once. -/
mutual
def uptoBulk {H : Type} : DataW H → Nat
  | .lit (.string bytes) => bytes.length + 1
  | .lit _ => 1
  | .nil => 1
  | .ptr d => uptoBulk d + 1
  | .slice elems spare => uptoBulkAll elems + uptoBulkAll spare + 1
  | .agg parts => uptoBulkAll parts + 1
  | .iface _ d => uptoBulk d + 1
  | .map entries => uptoBulkEntries entries + 1
  | .held _ => 1
def uptoBulkAll {H : Type} : List (DataW H) → Nat
  | [] => 0
  | d :: r => uptoBulk d + uptoBulkAll r
def uptoBulkEntries {H : Type} : List (Lit × DataW H) → Nat
  | [] => 0
  | x :: r => uptoBulkEntry x + uptoBulkEntries r
def uptoBulkEntry {H : Type} : Lit × DataW H → Nat
  | (.string bytes, d) => bytes.length + uptoBulk d + 1
  | (_, d) => uptoBulk d + 1
 end
def uptoSmall : (H : Type) → List (DataW H) → Bool := fun _ ds => decide (uptoBulkAll ds ≤ 1048576)
def OpenSpec.upto (s : _root_.Go.ChangeSpec) : _root_.Go.OpenSpec := { _root_.Go.OpenSpec.ofChange s with cond := some uptoSmall }

/-- 'laws.FnExactFactOk', WHERE WHAT IT READS IS OF BULK AT MOST 1048576: true; the input reads as it did. -/
def fnExactFactOkUptoRow : OpenClaim := { program := "ytehjhdihaloalaa", sum := "1f4357773f219aca680fe2712bc243b703c4550271080ecfeec3708e62a99595", func := "loop.example/wholerules/laws.FnExactFactOk", spec := "fnExactFactOk", apart := false, narrowed := true }
def FnExactFactOkUptoSaid : Prop := fnExactFactOkUptoRow.holds Try.pinned (OpenSpec.upto fnExactFactOkSpec)

/-- 'laws.FnExactFactsOk', WHERE WHAT IT READS IS OF BULK AT MOST 1048576: true; the input reads as it did. -/
def fnExactFactsOkUptoRow : OpenClaim := { program := "ytehjhdihaloalaa", sum := "1f4357773f219aca680fe2712bc243b703c4550271080ecfeec3708e62a99595", func := "loop.example/wholerules/laws.FnExactFactsOk", spec := "fnExactFactsOk", apart := false, narrowed := true }
def FnExactFactsOkUptoSaid : Prop := fnExactFactsOkUptoRow.holds Try.pinned (OpenSpec.upto fnExactFactsOkSpec)

/-- 'laws.FnExactFactsEither', WHERE WHAT IT READS IS OF BULK AT MOST 1048576: true; the input reads as it did. -/
def fnExactFactsEitherUptoRow : OpenClaim := { program := "ytehjhdihaloalaa", sum := "1f4357773f219aca680fe2712bc243b703c4550271080ecfeec3708e62a99595", func := "loop.example/wholerules/laws.FnExactFactsEither", spec := "fnExactFactsEither", unfollowed := true, recurses := true, apart := false, narrowed := true }
def FnExactFactsEitherUptoSaid : Prop := fnExactFactsEitherUptoRow.holds Try.pinned (OpenSpec.upto fnExactFactsEitherSpec)

/-- 'laws.FnExactFactsBoth', WHERE WHAT IT READS IS OF BULK AT MOST 1048576: true; the input reads as it did. -/
def fnExactFactsBothUptoRow : OpenClaim := { program := "ytehjhdihaloalaa", sum := "1f4357773f219aca680fe2712bc243b703c4550271080ecfeec3708e62a99595", func := "loop.example/wholerules/laws.FnExactFactsBoth", spec := "fnExactFactsBoth", unfollowed := true, recurses := true, apart := false, narrowed := true }
def FnExactFactsBothUptoSaid : Prop := fnExactFactsBothUptoRow.holds Try.pinned (OpenSpec.upto fnExactFactsBothSpec)

/-- 'laws.FnExactFactsLess', WHERE WHAT IT READS IS OF BULK AT MOST 1048576: true; the input reads as it did. -/
def fnExactFactsLessUptoRow : OpenClaim := { program := "ytehjhdihaloalaa", sum := "1f4357773f219aca680fe2712bc243b703c4550271080ecfeec3708e62a99595", func := "loop.example/wholerules/laws.FnExactFactsLess", spec := "fnExactFactsLess", unfollowed := true, recurses := true, apart := false, narrowed := true }
def FnExactFactsLessUptoSaid : Prop := fnExactFactsLessUptoRow.holds Try.pinned (OpenSpec.upto fnExactFactsLessSpec)

/-- 'laws.FnExactBound', WHERE WHAT IT READS IS OF BULK AT MOST 1048576: true; the input reads as it did. -/
def fnExactBoundUptoRow : OpenClaim := { program := "ytehjhdihaloalaa", sum := "1f4357773f219aca680fe2712bc243b703c4550271080ecfeec3708e62a99595", func := "loop.example/wholerules/laws.FnExactBound", spec := "fnExactBound", apart := false, narrowed := true }
def FnExactBoundUptoSaid : Prop := fnExactBoundUptoRow.holds Try.pinned (OpenSpec.upto fnExactBoundSpec)

/-- 'laws.FnExactMatch', WHERE WHAT IT READS IS OF BULK AT MOST 1048576: true; the input reads as it did. -/
def fnExactMatchUptoRow : OpenClaim := { program := "ytehjhdihaloalaa", sum := "1f4357773f219aca680fe2712bc243b703c4550271080ecfeec3708e62a99595", func := "loop.example/wholerules/laws.FnExactMatch", spec := "fnExactMatch", apart := false, narrowed := true }
def FnExactMatchUptoSaid : Prop := fnExactMatchUptoRow.holds Try.pinned (OpenSpec.upto fnExactMatchSpec)

/-- 'laws.FnExactHolds', WHERE WHAT IT READS IS OF BULK AT MOST 1048576: true; the input reads as it did. -/
def fnExactHoldsUptoRow : OpenClaim := { program := "ytehjhdihaloalaa", sum := "1f4357773f219aca680fe2712bc243b703c4550271080ecfeec3708e62a99595", func := "loop.example/wholerules/laws.FnExactHolds", spec := "fnExactHolds", apart := false, narrowed := true }
def FnExactHoldsUptoSaid : Prop := fnExactHoldsUptoRow.holds Try.pinned (OpenSpec.upto fnExactHoldsSpec)

/-- 'laws.FnExactBodySafe', WHERE WHAT IT READS IS OF BULK AT MOST 1048576: true; the input reads as it did. -/
def fnExactBodySafeUptoRow : OpenClaim := { program := "ytehjhdihaloalaa", sum := "1f4357773f219aca680fe2712bc243b703c4550271080ecfeec3708e62a99595", func := "loop.example/wholerules/laws.FnExactBodySafe", spec := "fnExactBodySafe", apart := false, narrowed := true }
def FnExactBodySafeUptoSaid : Prop := fnExactBodySafeUptoRow.holds Try.pinned (OpenSpec.upto fnExactBodySafeSpec)

/-- 'laws.FnExactHeadOf', WHERE WHAT IT READS IS OF BULK AT MOST 1048576: true; the input reads as it did. -/
def fnExactHeadOfUptoRow : OpenClaim := { program := "ytehjhdihaloalaa", sum := "1f4357773f219aca680fe2712bc243b703c4550271080ecfeec3708e62a99595", func := "loop.example/wholerules/laws.FnExactHeadOf", spec := "fnExactHeadOf", apart := false, narrowed := true }
def FnExactHeadOfUptoSaid : Prop := fnExactHeadOfUptoRow.holds Try.pinned (OpenSpec.upto fnExactHeadOfSpec)

/-- 'laws.FnSets', WHERE WHAT IT READS IS OF BULK AT MOST 1048576: true; the input reads as it did. -/
def fnSetsUptoRow : OpenClaim := { program := "ytehjhdihaloalaa", sum := "1f4357773f219aca680fe2712bc243b703c4550271080ecfeec3708e62a99595", func := "loop.example/wholerules/laws.FnSets", spec := "fnSets", unfollowed := true, recurses := true, apart := false, narrowed := true }
def FnSetsUptoSaid : Prop := fnSetsUptoRow.holds Try.pinned (OpenSpec.upto fnSetsSpec)

end Rows
end Go.Proofs.Ytehjhdihaloalaa
