/-
  No cell of these rows narrows 'for every input' (looked for: loops, veiled, ifaces, maps, wideKeys, modest, calm, conditions, laid).
  DERIVED. THE GIVEN ROWS OF THIS SEAT. 12 by the template 'for every input the law returns true; each argument reads behind the call as it read before'; 0 by the template 'total and deterministic' (their statements: YtmlcacngbhfanaaTotals.lean).
  GIVEN WITH THE SEED: the statements are not yours to turn. If you find one false, say at which input.
  Laid BY PROGRAM, IN A SANDBOX (cutbox-rows.mjs): the forced cells as the released guide's own fill.sh prints them over the translation 22d431a95fbf2f02… (all of the seat's roots in one cut). By AI agents, Wed Nov 11 2026. No macro, syntax, notation, axiom, sorry.
-/
import Derived.Test.YtmlcacngbhfanaaChecked
import GoSem.Claim
import GoSem.ClaimJoined
import GoSem.ClaimMapViews
import Derived.JoinedTies
import Derived.KernelRfl
namespace Go.Proofs.Ytmlcacngbhfanaa
/- THE CELL 'sum', in the pinned program and in every row, IS THE sha256 OF THE DUMP (.gsa) THAT YtmlcacngbhfanaaProg.lean LOADS. Nothing in Lean hashes anything: it is a label: what it is worth is what the hold of that sum in a sandbox is worth. -/
noncomputable def Try.pinned : Pinned := { name := "ytmlcacngbhfanaa", sum := "22d431a95fbf2f02055a8eb803f6d0816310247c769f149f6016e64336d8f4ab", checked := Try.checked }
namespace Rows
def none {H : Type} : Left H := { results := [], args := [] }

/-- 'laws.FnFactOrder': WHATEVER THE INPUT: true; the input reads as it did. -/
def fnFactOrderSpec : ChangeSpec := { name := "fnFactOrder", fn := fun _ => fun
  | [d] => { results := [.lit (.bool true)], args := [d] }
  | _ => none }
def fnFactOrderRow : OpenClaim := { program := "ytmlcacngbhfanaa", sum := "22d431a95fbf2f02055a8eb803f6d0816310247c769f149f6016e64336d8f4ab", func := "loop.example/wholerules/laws.FnFactOrder", spec := "fnFactOrder", apart := false }
def FnFactOrderSaid : Prop := fnFactOrderRow.holds Try.pinned (OpenSpec.ofChange fnFactOrderSpec)

/-- ITS FALSE NEIGHBOUR: 'it returns false'. Refute it at one input. -/
def fnFactOrderWrong : ChangeSpec := { name := "fnFactOrder", fn := fun _ => fun
  | [d] => { results := [.lit (.bool false)], args := [d] }
  | _ => none }
def FnFactOrderWrongFalsely : Prop := fnFactOrderRow.holds Try.pinned (OpenSpec.ofChange fnFactOrderWrong)

/-- 'laws.FnExactArityOk': WHATEVER THE INPUT: true; the input reads as it did. -/
def fnExactArityOkSpec : ChangeSpec := { name := "fnExactArityOk", fn := fun _ => fun
  | [d] => { results := [.lit (.bool true)], args := [d] }
  | _ => none }
def fnExactArityOkRow : OpenClaim := { program := "ytmlcacngbhfanaa", sum := "22d431a95fbf2f02055a8eb803f6d0816310247c769f149f6016e64336d8f4ab", func := "loop.example/wholerules/laws.FnExactArityOk", spec := "fnExactArityOk", apart := false }
def FnExactArityOkSaid : Prop := fnExactArityOkRow.holds Try.pinned (OpenSpec.ofChange fnExactArityOkSpec)

/-- ITS FALSE NEIGHBOUR: 'it returns false'. Refute it at one input. -/
def fnExactArityOkWrong : ChangeSpec := { name := "fnExactArityOk", fn := fun _ => fun
  | [d] => { results := [.lit (.bool false)], args := [d] }
  | _ => none }
def FnExactArityOkWrongFalsely : Prop := fnExactArityOkRow.holds Try.pinned (OpenSpec.ofChange fnExactArityOkWrong)

/-- 'laws.FnExactFactOk': WHATEVER THE INPUT: true; the input reads as it did. -/
def fnExactFactOkSpec : ChangeSpec := { name := "fnExactFactOk", fn := fun _ => fun
  | [d1, d2] => { results := [.lit (.bool true)], args := [d1, d2] }
  | _ => none }
def fnExactFactOkRow : OpenClaim := { program := "ytmlcacngbhfanaa", sum := "22d431a95fbf2f02055a8eb803f6d0816310247c769f149f6016e64336d8f4ab", func := "loop.example/wholerules/laws.FnExactFactOk", spec := "fnExactFactOk", apart := false }
def FnExactFactOkSaid : Prop := fnExactFactOkRow.holds Try.pinned (OpenSpec.ofChange fnExactFactOkSpec)

/-- ITS FALSE NEIGHBOUR: 'it returns false'. Refute it at one input. -/
def fnExactFactOkWrong : ChangeSpec := { name := "fnExactFactOk", fn := fun _ => fun
  | [d1, d2] => { results := [.lit (.bool false)], args := [d1, d2] }
  | _ => none }
def FnExactFactOkWrongFalsely : Prop := fnExactFactOkRow.holds Try.pinned (OpenSpec.ofChange fnExactFactOkWrong)

/-- 'laws.FnExactFactOrder': WHATEVER THE INPUT: true; the input reads as it did. -/
def fnExactFactOrderSpec : ChangeSpec := { name := "fnExactFactOrder", fn := fun _ => fun
  | [d1, d2] => { results := [.lit (.bool true)], args := [d1, d2] }
  | _ => none }
def fnExactFactOrderRow : OpenClaim := { program := "ytmlcacngbhfanaa", sum := "22d431a95fbf2f02055a8eb803f6d0816310247c769f149f6016e64336d8f4ab", func := "loop.example/wholerules/laws.FnExactFactOrder", spec := "fnExactFactOrder", apart := false }
def FnExactFactOrderSaid : Prop := fnExactFactOrderRow.holds Try.pinned (OpenSpec.ofChange fnExactFactOrderSpec)

/-- ITS FALSE NEIGHBOUR: 'it returns false'. Refute it at one input. -/
def fnExactFactOrderWrong : ChangeSpec := { name := "fnExactFactOrder", fn := fun _ => fun
  | [d1, d2] => { results := [.lit (.bool false)], args := [d1, d2] }
  | _ => none }
def FnExactFactOrderWrongFalsely : Prop := fnExactFactOrderRow.holds Try.pinned (OpenSpec.ofChange fnExactFactOrderWrong)

/-- 'laws.FnExactFactsOk': WHATEVER THE INPUT: true; the input reads as it did. -/
def fnExactFactsOkSpec : ChangeSpec := { name := "fnExactFactsOk", fn := fun _ => fun
  | [d1, d2] => { results := [.lit (.bool true)], args := [d1, d2] }
  | _ => none }
def fnExactFactsOkRow : OpenClaim := { program := "ytmlcacngbhfanaa", sum := "22d431a95fbf2f02055a8eb803f6d0816310247c769f149f6016e64336d8f4ab", func := "loop.example/wholerules/laws.FnExactFactsOk", spec := "fnExactFactsOk", apart := false }
def FnExactFactsOkSaid : Prop := fnExactFactsOkRow.holds Try.pinned (OpenSpec.ofChange fnExactFactsOkSpec)

/-- ITS FALSE NEIGHBOUR: 'it returns false'. Refute it at one input. -/
def fnExactFactsOkWrong : ChangeSpec := { name := "fnExactFactsOk", fn := fun _ => fun
  | [d1, d2] => { results := [.lit (.bool false)], args := [d1, d2] }
  | _ => none }
def FnExactFactsOkWrongFalsely : Prop := fnExactFactsOkRow.holds Try.pinned (OpenSpec.ofChange fnExactFactsOkWrong)

/-- 'laws.FnExactFactsHas': WHATEVER THE INPUT: true; the input reads as it did. -/
def fnExactFactsHasSpec : ChangeSpec := { name := "fnExactFactsHas", fn := fun _ => fun
  | [d1, d2] => { results := [.lit (.bool true)], args := [d1, d2] }
  | _ => none }
def fnExactFactsHasRow : OpenClaim := { program := "ytmlcacngbhfanaa", sum := "22d431a95fbf2f02055a8eb803f6d0816310247c769f149f6016e64336d8f4ab", func := "loop.example/wholerules/laws.FnExactFactsHas", spec := "fnExactFactsHas", apart := false }
def FnExactFactsHasSaid : Prop := fnExactFactsHasRow.holds Try.pinned (OpenSpec.ofChange fnExactFactsHasSpec)

/-- ITS FALSE NEIGHBOUR: 'it returns false'. Refute it at one input. -/
def fnExactFactsHasWrong : ChangeSpec := { name := "fnExactFactsHas", fn := fun _ => fun
  | [d1, d2] => { results := [.lit (.bool false)], args := [d1, d2] }
  | _ => none }
def FnExactFactsHasWrongFalsely : Prop := fnExactFactsHasRow.holds Try.pinned (OpenSpec.ofChange fnExactFactsHasWrong)

/-- 'laws.FnExactFactsWith': WHATEVER THE INPUT: true; the input reads as it did. -/
def fnExactFactsWithSpec : ChangeSpec := { name := "fnExactFactsWith", fn := fun _ => fun
  | [d1, d2] => { results := [.lit (.bool true)], args := [d1, d2] }
  | _ => none }
def fnExactFactsWithRow : OpenClaim := { program := "ytmlcacngbhfanaa", sum := "22d431a95fbf2f02055a8eb803f6d0816310247c769f149f6016e64336d8f4ab", func := "loop.example/wholerules/laws.FnExactFactsWith", spec := "fnExactFactsWith", apart := false }
def FnExactFactsWithSaid : Prop := fnExactFactsWithRow.holds Try.pinned (OpenSpec.ofChange fnExactFactsWithSpec)

/-- ITS FALSE NEIGHBOUR: 'it returns false'. Refute it at one input. -/
def fnExactFactsWithWrong : ChangeSpec := { name := "fnExactFactsWith", fn := fun _ => fun
  | [d1, d2] => { results := [.lit (.bool false)], args := [d1, d2] }
  | _ => none }
def FnExactFactsWithWrongFalsely : Prop := fnExactFactsWithRow.holds Try.pinned (OpenSpec.ofChange fnExactFactsWithWrong)

/-- 'laws.FnExactFactsEither': WHATEVER THE INPUT: true; the input reads as it did. -/
def fnExactFactsEitherSpec : ChangeSpec := { name := "fnExactFactsEither", fn := fun _ => fun
  | [d1, d2] => { results := [.lit (.bool true)], args := [d1, d2] }
  | _ => none }
def fnExactFactsEitherRow : OpenClaim := { program := "ytmlcacngbhfanaa", sum := "22d431a95fbf2f02055a8eb803f6d0816310247c769f149f6016e64336d8f4ab", func := "loop.example/wholerules/laws.FnExactFactsEither", spec := "fnExactFactsEither", unfollowed := true, recurses := true, apart := false }
def FnExactFactsEitherSaid : Prop := fnExactFactsEitherRow.holds Try.pinned (OpenSpec.ofChange fnExactFactsEitherSpec)

/-- ITS FALSE NEIGHBOUR: 'it returns false'. Refute it at one input. -/
def fnExactFactsEitherWrong : ChangeSpec := { name := "fnExactFactsEither", fn := fun _ => fun
  | [d1, d2] => { results := [.lit (.bool false)], args := [d1, d2] }
  | _ => none }
def FnExactFactsEitherWrongFalsely : Prop := fnExactFactsEitherRow.holds Try.pinned (OpenSpec.ofChange fnExactFactsEitherWrong)

/-- 'laws.FnExactFactsBoth': WHATEVER THE INPUT: true; the input reads as it did. -/
def fnExactFactsBothSpec : ChangeSpec := { name := "fnExactFactsBoth", fn := fun _ => fun
  | [d1, d2] => { results := [.lit (.bool true)], args := [d1, d2] }
  | _ => none }
def fnExactFactsBothRow : OpenClaim := { program := "ytmlcacngbhfanaa", sum := "22d431a95fbf2f02055a8eb803f6d0816310247c769f149f6016e64336d8f4ab", func := "loop.example/wholerules/laws.FnExactFactsBoth", spec := "fnExactFactsBoth", unfollowed := true, recurses := true, apart := false }
def FnExactFactsBothSaid : Prop := fnExactFactsBothRow.holds Try.pinned (OpenSpec.ofChange fnExactFactsBothSpec)

/-- ITS FALSE NEIGHBOUR: 'it returns false'. Refute it at one input. -/
def fnExactFactsBothWrong : ChangeSpec := { name := "fnExactFactsBoth", fn := fun _ => fun
  | [d1, d2] => { results := [.lit (.bool false)], args := [d1, d2] }
  | _ => none }
def FnExactFactsBothWrongFalsely : Prop := fnExactFactsBothRow.holds Try.pinned (OpenSpec.ofChange fnExactFactsBothWrong)

/-- 'laws.FnExactFactsLess': WHATEVER THE INPUT: true; the input reads as it did. -/
def fnExactFactsLessSpec : ChangeSpec := { name := "fnExactFactsLess", fn := fun _ => fun
  | [d1, d2] => { results := [.lit (.bool true)], args := [d1, d2] }
  | _ => none }
def fnExactFactsLessRow : OpenClaim := { program := "ytmlcacngbhfanaa", sum := "22d431a95fbf2f02055a8eb803f6d0816310247c769f149f6016e64336d8f4ab", func := "loop.example/wholerules/laws.FnExactFactsLess", spec := "fnExactFactsLess", unfollowed := true, recurses := true, apart := false }
def FnExactFactsLessSaid : Prop := fnExactFactsLessRow.holds Try.pinned (OpenSpec.ofChange fnExactFactsLessSpec)

/-- ITS FALSE NEIGHBOUR: 'it returns false'. Refute it at one input. -/
def fnExactFactsLessWrong : ChangeSpec := { name := "fnExactFactsLess", fn := fun _ => fun
  | [d1, d2] => { results := [.lit (.bool false)], args := [d1, d2] }
  | _ => none }
def FnExactFactsLessWrongFalsely : Prop := fnExactFactsLessRow.holds Try.pinned (OpenSpec.ofChange fnExactFactsLessWrong)

/-- 'laws.FnExactFactsOf': WHATEVER THE INPUT: true; the input reads as it did. -/
def fnExactFactsOfSpec : ChangeSpec := { name := "fnExactFactsOf", fn := fun _ => fun
  | [d1, d2] => { results := [.lit (.bool true)], args := [d1, d2] }
  | _ => none }
def fnExactFactsOfRow : OpenClaim := { program := "ytmlcacngbhfanaa", sum := "22d431a95fbf2f02055a8eb803f6d0816310247c769f149f6016e64336d8f4ab", func := "loop.example/wholerules/laws.FnExactFactsOf", spec := "fnExactFactsOf", apart := false }
def FnExactFactsOfSaid : Prop := fnExactFactsOfRow.holds Try.pinned (OpenSpec.ofChange fnExactFactsOfSpec)

/-- ITS FALSE NEIGHBOUR: 'it returns false'. Refute it at one input. -/
def fnExactFactsOfWrong : ChangeSpec := { name := "fnExactFactsOf", fn := fun _ => fun
  | [d1, d2] => { results := [.lit (.bool false)], args := [d1, d2] }
  | _ => none }
def FnExactFactsOfWrongFalsely : Prop := fnExactFactsOfRow.holds Try.pinned (OpenSpec.ofChange fnExactFactsOfWrong)

/-- 'laws.FnExactAllFacts': WHATEVER THE INPUT: true; the input reads as it did. -/
def fnExactAllFactsSpec : ChangeSpec := { name := "fnExactAllFacts", fn := fun _ => fun
  | [d1, d2] => { results := [.lit (.bool true)], args := [d1, d2] }
  | _ => none }
def fnExactAllFactsRow : OpenClaim := { program := "ytmlcacngbhfanaa", sum := "22d431a95fbf2f02055a8eb803f6d0816310247c769f149f6016e64336d8f4ab", func := "loop.example/wholerules/laws.FnExactAllFacts", spec := "fnExactAllFacts", apart := false }
def FnExactAllFactsSaid : Prop := fnExactAllFactsRow.holds Try.pinned (OpenSpec.ofChange fnExactAllFactsSpec)

/-- ITS FALSE NEIGHBOUR: 'it returns false'. Refute it at one input. -/
def fnExactAllFactsWrong : ChangeSpec := { name := "fnExactAllFacts", fn := fun _ => fun
  | [d1, d2] => { results := [.lit (.bool false)], args := [d1, d2] }
  | _ => none }
def FnExactAllFactsWrongFalsely : Prop := fnExactAllFactsRow.holds Try.pinned (OpenSpec.ofChange fnExactAllFactsWrong)

/- THE SECOND FORM. 'bulk': how many values and letters a reading holds, each counted each time it is reached (what is shared counts as often as it is met; a slice's spare places count too). A statement '..UptoSaid' is the law's where the arguments, and the package variables that the reading takes, are together of bulk at most 1048576: NARROWER than '..Said'. Prove '..Said' where nothing that the law and all that it calls make is longer than what came in: it says more and counts as full. Else prove '..UptoSaid'. A law counts once. -/
mutual
def uptoBulk {H : Type} : DataW H → Nat
  | .lit (.string bytes) => bytes.length + 1
  | .lit _ => 1
  | .nil => 1
  | .ptr d => uptoBulk d + 1
  | .slice elems spare => uptoBulkAll elems + uptoBulkAll spare + 1
  | .agg parts => uptoBulkAll parts + 1
  | .iface _ d => uptoBulk d + 1
  | .map entries => uptoBulkEntries entries + 1
  | .held _ => 1
def uptoBulkAll {H : Type} : List (DataW H) → Nat
  | [] => 0
  | d :: r => uptoBulk d + uptoBulkAll r
def uptoBulkEntries {H : Type} : List (Lit × DataW H) → Nat
  | [] => 0
  | x :: r => uptoBulkEntry x + uptoBulkEntries r
def uptoBulkEntry {H : Type} : Lit × DataW H → Nat
  | (.string bytes, d) => bytes.length + uptoBulk d + 1
  | (_, d) => uptoBulk d + 1
 end
def uptoSmall : (H : Type) → List (DataW H) → Bool := fun _ ds => decide (uptoBulkAll ds ≤ 1048576)
def OpenSpec.upto (s : _root_.Go.ChangeSpec) : _root_.Go.OpenSpec := { _root_.Go.OpenSpec.ofChange s with cond := some uptoSmall }

/-- 'laws.FnFactOrder', WHERE WHAT IT READS IS OF BULK AT MOST 1048576: true; the input reads as it did. -/
def fnFactOrderUptoRow : OpenClaim := { program := "ytmlcacngbhfanaa", sum := "22d431a95fbf2f02055a8eb803f6d0816310247c769f149f6016e64336d8f4ab", func := "loop.example/wholerules/laws.FnFactOrder", spec := "fnFactOrder", apart := false, narrowed := true }
def FnFactOrderUptoSaid : Prop := fnFactOrderUptoRow.holds Try.pinned (OpenSpec.upto fnFactOrderSpec)

/-- 'laws.FnExactArityOk', WHERE WHAT IT READS IS OF BULK AT MOST 1048576: true; the input reads as it did. -/
def fnExactArityOkUptoRow : OpenClaim := { program := "ytmlcacngbhfanaa", sum := "22d431a95fbf2f02055a8eb803f6d0816310247c769f149f6016e64336d8f4ab", func := "loop.example/wholerules/laws.FnExactArityOk", spec := "fnExactArityOk", apart := false, narrowed := true }
def FnExactArityOkUptoSaid : Prop := fnExactArityOkUptoRow.holds Try.pinned (OpenSpec.upto fnExactArityOkSpec)

/-- 'laws.FnExactFactOk', WHERE WHAT IT READS IS OF BULK AT MOST 1048576: true; the input reads as it did. -/
def fnExactFactOkUptoRow : OpenClaim := { program := "ytmlcacngbhfanaa", sum := "22d431a95fbf2f02055a8eb803f6d0816310247c769f149f6016e64336d8f4ab", func := "loop.example/wholerules/laws.FnExactFactOk", spec := "fnExactFactOk", apart := false, narrowed := true }
def FnExactFactOkUptoSaid : Prop := fnExactFactOkUptoRow.holds Try.pinned (OpenSpec.upto fnExactFactOkSpec)

/-- 'laws.FnExactFactOrder', WHERE WHAT IT READS IS OF BULK AT MOST 1048576: true; the input reads as it did. -/
def fnExactFactOrderUptoRow : OpenClaim := { program := "ytmlcacngbhfanaa", sum := "22d431a95fbf2f02055a8eb803f6d0816310247c769f149f6016e64336d8f4ab", func := "loop.example/wholerules/laws.FnExactFactOrder", spec := "fnExactFactOrder", apart := false, narrowed := true }
def FnExactFactOrderUptoSaid : Prop := fnExactFactOrderUptoRow.holds Try.pinned (OpenSpec.upto fnExactFactOrderSpec)

/-- 'laws.FnExactFactsOk', WHERE WHAT IT READS IS OF BULK AT MOST 1048576: true; the input reads as it did. -/
def fnExactFactsOkUptoRow : OpenClaim := { program := "ytmlcacngbhfanaa", sum := "22d431a95fbf2f02055a8eb803f6d0816310247c769f149f6016e64336d8f4ab", func := "loop.example/wholerules/laws.FnExactFactsOk", spec := "fnExactFactsOk", apart := false, narrowed := true }
def FnExactFactsOkUptoSaid : Prop := fnExactFactsOkUptoRow.holds Try.pinned (OpenSpec.upto fnExactFactsOkSpec)

/-- 'laws.FnExactFactsHas', WHERE WHAT IT READS IS OF BULK AT MOST 1048576: true; the input reads as it did. -/
def fnExactFactsHasUptoRow : OpenClaim := { program := "ytmlcacngbhfanaa", sum := "22d431a95fbf2f02055a8eb803f6d0816310247c769f149f6016e64336d8f4ab", func := "loop.example/wholerules/laws.FnExactFactsHas", spec := "fnExactFactsHas", apart := false, narrowed := true }
def FnExactFactsHasUptoSaid : Prop := fnExactFactsHasUptoRow.holds Try.pinned (OpenSpec.upto fnExactFactsHasSpec)

/-- 'laws.FnExactFactsWith', WHERE WHAT IT READS IS OF BULK AT MOST 1048576: true; the input reads as it did. -/
def fnExactFactsWithUptoRow : OpenClaim := { program := "ytmlcacngbhfanaa", sum := "22d431a95fbf2f02055a8eb803f6d0816310247c769f149f6016e64336d8f4ab", func := "loop.example/wholerules/laws.FnExactFactsWith", spec := "fnExactFactsWith", apart := false, narrowed := true }
def FnExactFactsWithUptoSaid : Prop := fnExactFactsWithUptoRow.holds Try.pinned (OpenSpec.upto fnExactFactsWithSpec)

/-- 'laws.FnExactFactsEither', WHERE WHAT IT READS IS OF BULK AT MOST 1048576: true; the input reads as it did. -/
def fnExactFactsEitherUptoRow : OpenClaim := { program := "ytmlcacngbhfanaa", sum := "22d431a95fbf2f02055a8eb803f6d0816310247c769f149f6016e64336d8f4ab", func := "loop.example/wholerules/laws.FnExactFactsEither", spec := "fnExactFactsEither", unfollowed := true, recurses := true, apart := false, narrowed := true }
def FnExactFactsEitherUptoSaid : Prop := fnExactFactsEitherUptoRow.holds Try.pinned (OpenSpec.upto fnExactFactsEitherSpec)

/-- 'laws.FnExactFactsBoth', WHERE WHAT IT READS IS OF BULK AT MOST 1048576: true; the input reads as it did. -/
def fnExactFactsBothUptoRow : OpenClaim := { program := "ytmlcacngbhfanaa", sum := "22d431a95fbf2f02055a8eb803f6d0816310247c769f149f6016e64336d8f4ab", func := "loop.example/wholerules/laws.FnExactFactsBoth", spec := "fnExactFactsBoth", unfollowed := true, recurses := true, apart := false, narrowed := true }
def FnExactFactsBothUptoSaid : Prop := fnExactFactsBothUptoRow.holds Try.pinned (OpenSpec.upto fnExactFactsBothSpec)

/-- 'laws.FnExactFactsLess', WHERE WHAT IT READS IS OF BULK AT MOST 1048576: true; the input reads as it did. -/
def fnExactFactsLessUptoRow : OpenClaim := { program := "ytmlcacngbhfanaa", sum := "22d431a95fbf2f02055a8eb803f6d0816310247c769f149f6016e64336d8f4ab", func := "loop.example/wholerules/laws.FnExactFactsLess", spec := "fnExactFactsLess", unfollowed := true, recurses := true, apart := false, narrowed := true }
def FnExactFactsLessUptoSaid : Prop := fnExactFactsLessUptoRow.holds Try.pinned (OpenSpec.upto fnExactFactsLessSpec)

/-- 'laws.FnExactFactsOf', WHERE WHAT IT READS IS OF BULK AT MOST 1048576: true; the input reads as it did. -/
def fnExactFactsOfUptoRow : OpenClaim := { program := "ytmlcacngbhfanaa", sum := "22d431a95fbf2f02055a8eb803f6d0816310247c769f149f6016e64336d8f4ab", func := "loop.example/wholerules/laws.FnExactFactsOf", spec := "fnExactFactsOf", apart := false, narrowed := true }
def FnExactFactsOfUptoSaid : Prop := fnExactFactsOfUptoRow.holds Try.pinned (OpenSpec.upto fnExactFactsOfSpec)

/-- 'laws.FnExactAllFacts', WHERE WHAT IT READS IS OF BULK AT MOST 1048576: true; the input reads as it did. -/
def fnExactAllFactsUptoRow : OpenClaim := { program := "ytmlcacngbhfanaa", sum := "22d431a95fbf2f02055a8eb803f6d0816310247c769f149f6016e64336d8f4ab", func := "loop.example/wholerules/laws.FnExactAllFacts", spec := "fnExactAllFacts", apart := false, narrowed := true }
def FnExactAllFactsUptoSaid : Prop := fnExactAllFactsUptoRow.holds Try.pinned (OpenSpec.upto fnExactAllFactsSpec)

end Rows
end Go.Proofs.Ytmlcacngbhfanaa
