/-
  No cell of these rows narrows 'for every input' (looked for: loops, veiled, ifaces, maps, wideKeys, modest, calm, conditions, laid).
  DERIVED. THE GIVEN ROWS OF THIS SEAT. 8 by the template 'for every input the law returns true; each argument reads behind the call as it read before'; 0 by the template 'total and deterministic' (their statements: YtdclfcjbadgmfaaTotals.lean).
  GIVEN WITH THE SEED: the statements are not yours to turn. If you find one false, say at which input.
  Laid BY PROGRAM, IN A SANDBOX (cutbox-rows.mjs): the forced cells as the released guide's own fill.sh prints them over the translation 9acf44afb4c886b8… (all of the seat's roots in one cut). By AI agents, Wed Nov 11 2026. No macro, syntax, notation, axiom, sorry.
-/
import Derived.Test.YtdclfcjbadgmfaaChecked
import GoSem.Claim
import GoSem.ClaimJoined
import GoSem.ClaimMapViews
import Derived.JoinedTies
import Derived.KernelRfl
namespace Go.Proofs.Ytdclfcjbadgmfaa
/- THE CELL 'sum', in the pinned program and in every row, IS THE sha256 OF THE DUMP (.gsa) THAT YtdclfcjbadgmfaaProg.lean LOADS. Nothing in Lean hashes anything: it is a label: what it is worth is what the hold of that sum in a sandbox is worth. -/
noncomputable def Try.pinned : Pinned := { name := "ytdclfcjbadgmfaa", sum := "9acf44afb4c886b8b675c134b16bba671b6d27ddb432e7e2fad3bb714c9832ce", checked := Try.checked }
namespace Rows
def none {H : Type} : Left H := { results := [], args := [] }

/-- 'laws.FnFactOrder': WHATEVER THE INPUT: true; the input reads as it did. -/
def fnFactOrderSpec : ChangeSpec := { name := "fnFactOrder", fn := fun _ => fun
  | [d] => { results := [.lit (.bool true)], args := [d] }
  | _ => none }
def fnFactOrderRow : OpenClaim := { program := "ytdclfcjbadgmfaa", sum := "9acf44afb4c886b8b675c134b16bba671b6d27ddb432e7e2fad3bb714c9832ce", func := "loop.example/wholerules/laws.FnFactOrder", spec := "fnFactOrder", apart := false }
def FnFactOrderSaid : Prop := fnFactOrderRow.holds Try.pinned (OpenSpec.ofChange fnFactOrderSpec)

/-- ITS FALSE NEIGHBOUR: 'it returns false'. Refute it at one input. -/
def fnFactOrderWrong : ChangeSpec := { name := "fnFactOrder", fn := fun _ => fun
  | [d] => { results := [.lit (.bool false)], args := [d] }
  | _ => none }
def FnFactOrderWrongFalsely : Prop := fnFactOrderRow.holds Try.pinned (OpenSpec.ofChange fnFactOrderWrong)

/-- 'laws.FnExactFactOk': WHATEVER THE INPUT: true; the input reads as it did. -/
def fnExactFactOkSpec : ChangeSpec := { name := "fnExactFactOk", fn := fun _ => fun
  | [d1, d2] => { results := [.lit (.bool true)], args := [d1, d2] }
  | _ => none }
def fnExactFactOkRow : OpenClaim := { program := "ytdclfcjbadgmfaa", sum := "9acf44afb4c886b8b675c134b16bba671b6d27ddb432e7e2fad3bb714c9832ce", func := "loop.example/wholerules/laws.FnExactFactOk", spec := "fnExactFactOk", apart := false }
def FnExactFactOkSaid : Prop := fnExactFactOkRow.holds Try.pinned (OpenSpec.ofChange fnExactFactOkSpec)

/-- ITS FALSE NEIGHBOUR: 'it returns false'. Refute it at one input. -/
def fnExactFactOkWrong : ChangeSpec := { name := "fnExactFactOk", fn := fun _ => fun
  | [d1, d2] => { results := [.lit (.bool false)], args := [d1, d2] }
  | _ => none }
def FnExactFactOkWrongFalsely : Prop := fnExactFactOkRow.holds Try.pinned (OpenSpec.ofChange fnExactFactOkWrong)

/-- 'laws.FnExactFactOrder': WHATEVER THE INPUT: true; the input reads as it did. -/
def fnExactFactOrderSpec : ChangeSpec := { name := "fnExactFactOrder", fn := fun _ => fun
  | [d1, d2] => { results := [.lit (.bool true)], args := [d1, d2] }
  | _ => none }
def fnExactFactOrderRow : OpenClaim := { program := "ytdclfcjbadgmfaa", sum := "9acf44afb4c886b8b675c134b16bba671b6d27ddb432e7e2fad3bb714c9832ce", func := "loop.example/wholerules/laws.FnExactFactOrder", spec := "fnExactFactOrder", apart := false }
def FnExactFactOrderSaid : Prop := fnExactFactOrderRow.holds Try.pinned (OpenSpec.ofChange fnExactFactOrderSpec)

/-- ITS FALSE NEIGHBOUR: 'it returns false'. Refute it at one input. -/
def fnExactFactOrderWrong : ChangeSpec := { name := "fnExactFactOrder", fn := fun _ => fun
  | [d1, d2] => { results := [.lit (.bool false)], args := [d1, d2] }
  | _ => none }
def FnExactFactOrderWrongFalsely : Prop := fnExactFactOrderRow.holds Try.pinned (OpenSpec.ofChange fnExactFactOrderWrong)

/-- 'laws.FnExactFactsOk': WHATEVER THE INPUT: true; the input reads as it did. -/
def fnExactFactsOkSpec : ChangeSpec := { name := "fnExactFactsOk", fn := fun _ => fun
  | [d1, d2] => { results := [.lit (.bool true)], args := [d1, d2] }
  | _ => none }
def fnExactFactsOkRow : OpenClaim := { program := "ytdclfcjbadgmfaa", sum := "9acf44afb4c886b8b675c134b16bba671b6d27ddb432e7e2fad3bb714c9832ce", func := "loop.example/wholerules/laws.FnExactFactsOk", spec := "fnExactFactsOk", apart := false }
def FnExactFactsOkSaid : Prop := fnExactFactsOkRow.holds Try.pinned (OpenSpec.ofChange fnExactFactsOkSpec)

/-- ITS FALSE NEIGHBOUR: 'it returns false'. Refute it at one input. -/
def fnExactFactsOkWrong : ChangeSpec := { name := "fnExactFactsOk", fn := fun _ => fun
  | [d1, d2] => { results := [.lit (.bool false)], args := [d1, d2] }
  | _ => none }
def FnExactFactsOkWrongFalsely : Prop := fnExactFactsOkRow.holds Try.pinned (OpenSpec.ofChange fnExactFactsOkWrong)

/-- 'laws.FnExactFactsHas': WHATEVER THE INPUT: true; the input reads as it did. -/
def fnExactFactsHasSpec : ChangeSpec := { name := "fnExactFactsHas", fn := fun _ => fun
  | [d1, d2] => { results := [.lit (.bool true)], args := [d1, d2] }
  | _ => none }
def fnExactFactsHasRow : OpenClaim := { program := "ytdclfcjbadgmfaa", sum := "9acf44afb4c886b8b675c134b16bba671b6d27ddb432e7e2fad3bb714c9832ce", func := "loop.example/wholerules/laws.FnExactFactsHas", spec := "fnExactFactsHas", apart := false }
def FnExactFactsHasSaid : Prop := fnExactFactsHasRow.holds Try.pinned (OpenSpec.ofChange fnExactFactsHasSpec)

/-- ITS FALSE NEIGHBOUR: 'it returns false'. Refute it at one input. -/
def fnExactFactsHasWrong : ChangeSpec := { name := "fnExactFactsHas", fn := fun _ => fun
  | [d1, d2] => { results := [.lit (.bool false)], args := [d1, d2] }
  | _ => none }
def FnExactFactsHasWrongFalsely : Prop := fnExactFactsHasRow.holds Try.pinned (OpenSpec.ofChange fnExactFactsHasWrong)

/-- 'laws.FnExactFactsWith': WHATEVER THE INPUT: true; the input reads as it did. -/
def fnExactFactsWithSpec : ChangeSpec := { name := "fnExactFactsWith", fn := fun _ => fun
  | [d1, d2] => { results := [.lit (.bool true)], args := [d1, d2] }
  | _ => none }
def fnExactFactsWithRow : OpenClaim := { program := "ytdclfcjbadgmfaa", sum := "9acf44afb4c886b8b675c134b16bba671b6d27ddb432e7e2fad3bb714c9832ce", func := "loop.example/wholerules/laws.FnExactFactsWith", spec := "fnExactFactsWith", apart := false }
def FnExactFactsWithSaid : Prop := fnExactFactsWithRow.holds Try.pinned (OpenSpec.ofChange fnExactFactsWithSpec)

/-- ITS FALSE NEIGHBOUR: 'it returns false'. Refute it at one input. -/
def fnExactFactsWithWrong : ChangeSpec := { name := "fnExactFactsWith", fn := fun _ => fun
  | [d1, d2] => { results := [.lit (.bool false)], args := [d1, d2] }
  | _ => none }
def FnExactFactsWithWrongFalsely : Prop := fnExactFactsWithRow.holds Try.pinned (OpenSpec.ofChange fnExactFactsWithWrong)

/-- 'laws.FnExactFactsOf': WHATEVER THE INPUT: true; the input reads as it did. -/
def fnExactFactsOfSpec : ChangeSpec := { name := "fnExactFactsOf", fn := fun _ => fun
  | [d1, d2] => { results := [.lit (.bool true)], args := [d1, d2] }
  | _ => none }
def fnExactFactsOfRow : OpenClaim := { program := "ytdclfcjbadgmfaa", sum := "9acf44afb4c886b8b675c134b16bba671b6d27ddb432e7e2fad3bb714c9832ce", func := "loop.example/wholerules/laws.FnExactFactsOf", spec := "fnExactFactsOf", apart := false }
def FnExactFactsOfSaid : Prop := fnExactFactsOfRow.holds Try.pinned (OpenSpec.ofChange fnExactFactsOfSpec)

/-- ITS FALSE NEIGHBOUR: 'it returns false'. Refute it at one input. -/
def fnExactFactsOfWrong : ChangeSpec := { name := "fnExactFactsOf", fn := fun _ => fun
  | [d1, d2] => { results := [.lit (.bool false)], args := [d1, d2] }
  | _ => none }
def FnExactFactsOfWrongFalsely : Prop := fnExactFactsOfRow.holds Try.pinned (OpenSpec.ofChange fnExactFactsOfWrong)

/-- 'laws.FnExactAllFacts': WHATEVER THE INPUT: true; the input reads as it did. -/
def fnExactAllFactsSpec : ChangeSpec := { name := "fnExactAllFacts", fn := fun _ => fun
  | [d1, d2] => { results := [.lit (.bool true)], args := [d1, d2] }
  | _ => none }
def fnExactAllFactsRow : OpenClaim := { program := "ytdclfcjbadgmfaa", sum := "9acf44afb4c886b8b675c134b16bba671b6d27ddb432e7e2fad3bb714c9832ce", func := "loop.example/wholerules/laws.FnExactAllFacts", spec := "fnExactAllFacts", apart := false }
def FnExactAllFactsSaid : Prop := fnExactAllFactsRow.holds Try.pinned (OpenSpec.ofChange fnExactAllFactsSpec)

/-- ITS FALSE NEIGHBOUR: 'it returns false'. Refute it at one input. -/
def fnExactAllFactsWrong : ChangeSpec := { name := "fnExactAllFacts", fn := fun _ => fun
  | [d1, d2] => { results := [.lit (.bool false)], args := [d1, d2] }
  | _ => none }
def FnExactAllFactsWrongFalsely : Prop := fnExactAllFactsRow.holds Try.pinned (OpenSpec.ofChange fnExactAllFactsWrong)

/- THE SECOND FORM. 'bulk': how many values and letters a reading holds, each counted each time it is reached (what is shared counts as often as it is met; a slice's spare places count too). A statement '..UptoSaid' is the law's where the arguments, and the package variables that the reading takes, are together of bulk at most 1048576: NARROWER than '..Said'. Prove '..Said' where nothing that the law and all that it calls make is longer than what came in: it says more and counts as full. Else prove '..UptoSaid'. A law counts once. -/
mutual
def uptoBulk {H : Type} : DataW H → Nat
  | .lit (.string bytes) => bytes.length + 1
  | .lit _ => 1
  | .nil => 1
  | .ptr d => uptoBulk d + 1
  | .slice elems spare => uptoBulkAll elems + uptoBulkAll spare + 1
  | .agg parts => uptoBulkAll parts + 1
  | .iface _ d => uptoBulk d + 1
  | .map entries => uptoBulkEntries entries + 1
  | .held _ => 1
def uptoBulkAll {H : Type} : List (DataW H) → Nat
  | [] => 0
  | d :: r => uptoBulk d + uptoBulkAll r
def uptoBulkEntries {H : Type} : List (Lit × DataW H) → Nat
  | [] => 0
  | x :: r => uptoBulkEntry x + uptoBulkEntries r
def uptoBulkEntry {H : Type} : Lit × DataW H → Nat
  | (.string bytes, d) => bytes.length + uptoBulk d + 1
  | (_, d) => uptoBulk d + 1
 end
def uptoSmall : (H : Type) → List (DataW H) → Bool := fun _ ds => decide (uptoBulkAll ds ≤ 1048576)
def OpenSpec.upto (s : _root_.Go.ChangeSpec) : _root_.Go.OpenSpec := { _root_.Go.OpenSpec.ofChange s with cond := some uptoSmall }

/-- 'laws.FnFactOrder', WHERE WHAT IT READS IS OF BULK AT MOST 1048576: true; the input reads as it did. -/
def fnFactOrderUptoRow : OpenClaim := { program := "ytdclfcjbadgmfaa", sum := "9acf44afb4c886b8b675c134b16bba671b6d27ddb432e7e2fad3bb714c9832ce", func := "loop.example/wholerules/laws.FnFactOrder", spec := "fnFactOrder", apart := false, narrowed := true }
def FnFactOrderUptoSaid : Prop := fnFactOrderUptoRow.holds Try.pinned (OpenSpec.upto fnFactOrderSpec)

/-- 'laws.FnExactFactOk', WHERE WHAT IT READS IS OF BULK AT MOST 1048576: true; the input reads as it did. -/
def fnExactFactOkUptoRow : OpenClaim := { program := "ytdclfcjbadgmfaa", sum := "9acf44afb4c886b8b675c134b16bba671b6d27ddb432e7e2fad3bb714c9832ce", func := "loop.example/wholerules/laws.FnExactFactOk", spec := "fnExactFactOk", apart := false, narrowed := true }
def FnExactFactOkUptoSaid : Prop := fnExactFactOkUptoRow.holds Try.pinned (OpenSpec.upto fnExactFactOkSpec)

/-- 'laws.FnExactFactOrder', WHERE WHAT IT READS IS OF BULK AT MOST 1048576: true; the input reads as it did. -/
def fnExactFactOrderUptoRow : OpenClaim := { program := "ytdclfcjbadgmfaa", sum := "9acf44afb4c886b8b675c134b16bba671b6d27ddb432e7e2fad3bb714c9832ce", func := "loop.example/wholerules/laws.FnExactFactOrder", spec := "fnExactFactOrder", apart := false, narrowed := true }
def FnExactFactOrderUptoSaid : Prop := fnExactFactOrderUptoRow.holds Try.pinned (OpenSpec.upto fnExactFactOrderSpec)

/-- 'laws.FnExactFactsOk', WHERE WHAT IT READS IS OF BULK AT MOST 1048576: true; the input reads as it did. -/
def fnExactFactsOkUptoRow : OpenClaim := { program := "ytdclfcjbadgmfaa", sum := "9acf44afb4c886b8b675c134b16bba671b6d27ddb432e7e2fad3bb714c9832ce", func := "loop.example/wholerules/laws.FnExactFactsOk", spec := "fnExactFactsOk", apart := false, narrowed := true }
def FnExactFactsOkUptoSaid : Prop := fnExactFactsOkUptoRow.holds Try.pinned (OpenSpec.upto fnExactFactsOkSpec)

/-- 'laws.FnExactFactsHas', WHERE WHAT IT READS IS OF BULK AT MOST 1048576: true; the input reads as it did. -/
def fnExactFactsHasUptoRow : OpenClaim := { program := "ytdclfcjbadgmfaa", sum := "9acf44afb4c886b8b675c134b16bba671b6d27ddb432e7e2fad3bb714c9832ce", func := "loop.example/wholerules/laws.FnExactFactsHas", spec := "fnExactFactsHas", apart := false, narrowed := true }
def FnExactFactsHasUptoSaid : Prop := fnExactFactsHasUptoRow.holds Try.pinned (OpenSpec.upto fnExactFactsHasSpec)

/-- 'laws.FnExactFactsWith', WHERE WHAT IT READS IS OF BULK AT MOST 1048576: true; the input reads as it did. -/
def fnExactFactsWithUptoRow : OpenClaim := { program := "ytdclfcjbadgmfaa", sum := "9acf44afb4c886b8b675c134b16bba671b6d27ddb432e7e2fad3bb714c9832ce", func := "loop.example/wholerules/laws.FnExactFactsWith", spec := "fnExactFactsWith", apart := false, narrowed := true }
def FnExactFactsWithUptoSaid : Prop := fnExactFactsWithUptoRow.holds Try.pinned (OpenSpec.upto fnExactFactsWithSpec)

/-- 'laws.FnExactFactsOf', WHERE WHAT IT READS IS OF BULK AT MOST 1048576: true; the input reads as it did. -/
def fnExactFactsOfUptoRow : OpenClaim := { program := "ytdclfcjbadgmfaa", sum := "9acf44afb4c886b8b675c134b16bba671b6d27ddb432e7e2fad3bb714c9832ce", func := "loop.example/wholerules/laws.FnExactFactsOf", spec := "fnExactFactsOf", apart := false, narrowed := true }
def FnExactFactsOfUptoSaid : Prop := fnExactFactsOfUptoRow.holds Try.pinned (OpenSpec.upto fnExactFactsOfSpec)

/-- 'laws.FnExactAllFacts', WHERE WHAT IT READS IS OF BULK AT MOST 1048576: true; the input reads as it did. -/
def fnExactAllFactsUptoRow : OpenClaim := { program := "ytdclfcjbadgmfaa", sum := "9acf44afb4c886b8b675c134b16bba671b6d27ddb432e7e2fad3bb714c9832ce", func := "loop.example/wholerules/laws.FnExactAllFacts", spec := "fnExactAllFacts", apart := false, narrowed := true }
def FnExactAllFactsUptoSaid : Prop := fnExactAllFactsUptoRow.holds Try.pinned (OpenSpec.upto fnExactAllFactsSpec)

end Rows
end Go.Proofs.Ytdclfcjbadgmfaa
