/-
  No cell of these rows narrows 'for every input' (looked for: loops, veiled, ifaces, maps, wideKeys, modest, calm, conditions, laid).
  DERIVED. THE GIVEN ROWS OF THIS SEAT. 10 by the template 'for every input the law returns true; each argument reads behind the call as it read before'; 0 by the template 'total and deterministic' (their statements: YtchincemlilnoaaTotals.lean).
  GIVEN WITH THE SEED: the statements are not yours to turn. If you find one false, say at which input.
  Laid BY PROGRAM, IN A SANDBOX (cutbox-rows.mjs): the forced cells as the released guide's own fill.sh prints them over the translation f5e20d4d8bca30c4… (all of the seat's roots in one cut). By AI agents, Wed Nov 11 2026. No macro, syntax, notation, axiom, sorry.
-/
import Derived.Test.YtchincemlilnoaaChecked
import GoSem.Claim
import GoSem.ClaimJoined
import GoSem.ClaimMapViews
import Derived.JoinedTies
import Derived.KernelRfl
namespace Go.Proofs.Ytchincemlilnoaa
/- THE CELL 'sum', in the pinned program and in every row, IS THE sha256 OF THE DUMP (.gsa) THAT YtchincemlilnoaaProg.lean LOADS. Nothing in Lean hashes anything: it is a label: what it is worth is what the hold of that sum in a sandbox is worth. -/
noncomputable def Try.pinned : Pinned := { name := "ytchincemlilnoaa", sum := "f5e20d4d8bca30c45d7d4fdd156414bd2e9cfb54bc92a1bf2fa708e3dc925060", checked := Try.checked }
namespace Rows
def none {H : Type} : Left H := { results := [], args := [] }

/-- 'laws.FnExactRelOk': WHATEVER THE INPUT: true; the input reads as it did. -/
def fnExactRelOkSpec : ChangeSpec := { name := "fnExactRelOk", fn := fun _ => fun
  | [d] => { results := [.lit (.bool true)], args := [d] }
  | _ => none }
def fnExactRelOkRow : OpenClaim := { program := "ytchincemlilnoaa", sum := "f5e20d4d8bca30c45d7d4fdd156414bd2e9cfb54bc92a1bf2fa708e3dc925060", func := "loop.example/wholerules/laws.FnExactRelOk", spec := "fnExactRelOk", apart := false }
def FnExactRelOkSaid : Prop := fnExactRelOkRow.holds Try.pinned (OpenSpec.ofChange fnExactRelOkSpec)

/-- ITS FALSE NEIGHBOUR: 'it returns false'. Refute it at one input. -/
def fnExactRelOkWrong : ChangeSpec := { name := "fnExactRelOk", fn := fun _ => fun
  | [d] => { results := [.lit (.bool false)], args := [d] }
  | _ => none }
def FnExactRelOkWrongFalsely : Prop := fnExactRelOkRow.holds Try.pinned (OpenSpec.ofChange fnExactRelOkWrong)

/-- 'laws.FnExactRelOf': WHATEVER THE INPUT: true; the input reads as it did. -/
def fnExactRelOfSpec : ChangeSpec := { name := "fnExactRelOf", fn := fun _ => fun
  | [d1, d2, d3] => { results := [.lit (.bool true)], args := [d1, d2, d3] }
  | _ => none }
def fnExactRelOfRow : OpenClaim := { program := "ytchincemlilnoaa", sum := "f5e20d4d8bca30c45d7d4fdd156414bd2e9cfb54bc92a1bf2fa708e3dc925060", func := "loop.example/wholerules/laws.FnExactRelOf", spec := "fnExactRelOf", recurses := true, apart := false }
def FnExactRelOfSaid : Prop := fnExactRelOfRow.holds Try.pinned (OpenSpec.ofChange fnExactRelOfSpec)

/-- ITS FALSE NEIGHBOUR: 'it returns false'. Refute it at one input. -/
def fnExactRelOfWrong : ChangeSpec := { name := "fnExactRelOf", fn := fun _ => fun
  | [d1, d2, d3] => { results := [.lit (.bool false)], args := [d1, d2, d3] }
  | _ => none }
def FnExactRelOfWrongFalsely : Prop := fnExactRelOfRow.holds Try.pinned (OpenSpec.ofChange fnExactRelOfWrong)

/-- 'laws.FnExactRelPick': WHATEVER THE INPUT: true; the input reads as it did. -/
def fnExactRelPickSpec : ChangeSpec := { name := "fnExactRelPick", fn := fun _ => fun
  | [d1, d2, d3] => { results := [.lit (.bool true)], args := [d1, d2, d3] }
  | _ => none }
def fnExactRelPickRow : OpenClaim := { program := "ytchincemlilnoaa", sum := "f5e20d4d8bca30c45d7d4fdd156414bd2e9cfb54bc92a1bf2fa708e3dc925060", func := "loop.example/wholerules/laws.FnExactRelPick", spec := "fnExactRelPick", unfollowed := true, recurses := true, apart := false }
def FnExactRelPickSaid : Prop := fnExactRelPickRow.holds Try.pinned (OpenSpec.ofChange fnExactRelPickSpec)

/-- ITS FALSE NEIGHBOUR: 'it returns false'. Refute it at one input. -/
def fnExactRelPickWrong : ChangeSpec := { name := "fnExactRelPick", fn := fun _ => fun
  | [d1, d2, d3] => { results := [.lit (.bool false)], args := [d1, d2, d3] }
  | _ => none }
def FnExactRelPickWrongFalsely : Prop := fnExactRelPickRow.holds Try.pinned (OpenSpec.ofChange fnExactRelPickWrong)

/-- 'laws.FnExactRelSame': WHATEVER THE INPUT: true; the input reads as it did. -/
def fnExactRelSameSpec : ChangeSpec := { name := "fnExactRelSame", fn := fun _ => fun
  | [d1, d2, d3] => { results := [.lit (.bool true)], args := [d1, d2, d3] }
  | _ => none }
def fnExactRelSameRow : OpenClaim := { program := "ytchincemlilnoaa", sum := "f5e20d4d8bca30c45d7d4fdd156414bd2e9cfb54bc92a1bf2fa708e3dc925060", func := "loop.example/wholerules/laws.FnExactRelSame", spec := "fnExactRelSame", unfollowed := true, recurses := true, apart := false }
def FnExactRelSameSaid : Prop := fnExactRelSameRow.holds Try.pinned (OpenSpec.ofChange fnExactRelSameSpec)

/-- ITS FALSE NEIGHBOUR: 'it returns false'. Refute it at one input. -/
def fnExactRelSameWrong : ChangeSpec := { name := "fnExactRelSame", fn := fun _ => fun
  | [d1, d2, d3] => { results := [.lit (.bool false)], args := [d1, d2, d3] }
  | _ => none }
def FnExactRelSameWrongFalsely : Prop := fnExactRelSameRow.holds Try.pinned (OpenSpec.ofChange fnExactRelSameWrong)

/-- 'laws.FnExactRelTake': WHATEVER THE INPUT: true; the input reads as it did. -/
def fnExactRelTakeSpec : ChangeSpec := { name := "fnExactRelTake", fn := fun _ => fun
  | [d1, d2] => { results := [.lit (.bool true)], args := [d1, d2] }
  | _ => none }
def fnExactRelTakeRow : OpenClaim := { program := "ytchincemlilnoaa", sum := "f5e20d4d8bca30c45d7d4fdd156414bd2e9cfb54bc92a1bf2fa708e3dc925060", func := "loop.example/wholerules/laws.FnExactRelTake", spec := "fnExactRelTake", recurses := true, apart := false }
def FnExactRelTakeSaid : Prop := fnExactRelTakeRow.holds Try.pinned (OpenSpec.ofChange fnExactRelTakeSpec)

/-- ITS FALSE NEIGHBOUR: 'it returns false'. Refute it at one input. -/
def fnExactRelTakeWrong : ChangeSpec := { name := "fnExactRelTake", fn := fun _ => fun
  | [d1, d2] => { results := [.lit (.bool false)], args := [d1, d2] }
  | _ => none }
def FnExactRelTakeWrongFalsely : Prop := fnExactRelTakeRow.holds Try.pinned (OpenSpec.ofChange fnExactRelTakeWrong)

/-- 'laws.FnExactRelTimes': WHATEVER THE INPUT: true; the input reads as it did. -/
def fnExactRelTimesSpec : ChangeSpec := { name := "fnExactRelTimes", fn := fun _ => fun
  | [d1, d2] => { results := [.lit (.bool true)], args := [d1, d2] }
  | _ => none }
def fnExactRelTimesRow : OpenClaim := { program := "ytchincemlilnoaa", sum := "f5e20d4d8bca30c45d7d4fdd156414bd2e9cfb54bc92a1bf2fa708e3dc925060", func := "loop.example/wholerules/laws.FnExactRelTimes", spec := "fnExactRelTimes", apart := false }
def FnExactRelTimesSaid : Prop := fnExactRelTimesRow.holds Try.pinned (OpenSpec.ofChange fnExactRelTimesSpec)

/-- ITS FALSE NEIGHBOUR: 'it returns false'. Refute it at one input. -/
def fnExactRelTimesWrong : ChangeSpec := { name := "fnExactRelTimes", fn := fun _ => fun
  | [d1, d2] => { results := [.lit (.bool false)], args := [d1, d2] }
  | _ => none }
def FnExactRelTimesWrongFalsely : Prop := fnExactRelTimesRow.holds Try.pinned (OpenSpec.ofChange fnExactRelTimesWrong)

/-- 'laws.FnExactRelJoin': WHATEVER THE INPUT: true; the input reads as it did. -/
def fnExactRelJoinSpec : ChangeSpec := { name := "fnExactRelJoin", fn := fun _ => fun
  | [d1, d2, d3, d4] => { results := [.lit (.bool true)], args := [d1, d2, d3, d4] }
  | _ => none }
def fnExactRelJoinRow : OpenClaim := { program := "ytchincemlilnoaa", sum := "f5e20d4d8bca30c45d7d4fdd156414bd2e9cfb54bc92a1bf2fa708e3dc925060", func := "loop.example/wholerules/laws.FnExactRelJoin", spec := "fnExactRelJoin", apart := false }
def FnExactRelJoinSaid : Prop := fnExactRelJoinRow.holds Try.pinned (OpenSpec.ofChange fnExactRelJoinSpec)

/-- ITS FALSE NEIGHBOUR: 'it returns false'. Refute it at one input. -/
def fnExactRelJoinWrong : ChangeSpec := { name := "fnExactRelJoin", fn := fun _ => fun
  | [d1, d2, d3, d4] => { results := [.lit (.bool false)], args := [d1, d2, d3, d4] }
  | _ => none }
def FnExactRelJoinWrongFalsely : Prop := fnExactRelJoinRow.holds Try.pinned (OpenSpec.ofChange fnExactRelJoinWrong)

/-- 'laws.FnExactRelEither': WHATEVER THE INPUT: true; the input reads as it did. -/
def fnExactRelEitherSpec : ChangeSpec := { name := "fnExactRelEither", fn := fun _ => fun
  | [d1, d2] => { results := [.lit (.bool true)], args := [d1, d2] }
  | _ => none }
def fnExactRelEitherRow : OpenClaim := { program := "ytchincemlilnoaa", sum := "f5e20d4d8bca30c45d7d4fdd156414bd2e9cfb54bc92a1bf2fa708e3dc925060", func := "loop.example/wholerules/laws.FnExactRelEither", spec := "fnExactRelEither", recurses := true, apart := false }
def FnExactRelEitherSaid : Prop := fnExactRelEitherRow.holds Try.pinned (OpenSpec.ofChange fnExactRelEitherSpec)

/-- ITS FALSE NEIGHBOUR: 'it returns false'. Refute it at one input. -/
def fnExactRelEitherWrong : ChangeSpec := { name := "fnExactRelEither", fn := fun _ => fun
  | [d1, d2] => { results := [.lit (.bool false)], args := [d1, d2] }
  | _ => none }
def FnExactRelEitherWrongFalsely : Prop := fnExactRelEitherRow.holds Try.pinned (OpenSpec.ofChange fnExactRelEitherWrong)

/-- 'laws.FnExactRelLess': WHATEVER THE INPUT: true; the input reads as it did. -/
def fnExactRelLessSpec : ChangeSpec := { name := "fnExactRelLess", fn := fun _ => fun
  | [d1, d2] => { results := [.lit (.bool true)], args := [d1, d2] }
  | _ => none }
def fnExactRelLessRow : OpenClaim := { program := "ytchincemlilnoaa", sum := "f5e20d4d8bca30c45d7d4fdd156414bd2e9cfb54bc92a1bf2fa708e3dc925060", func := "loop.example/wholerules/laws.FnExactRelLess", spec := "fnExactRelLess", unfollowed := true, recurses := true, apart := false }
def FnExactRelLessSaid : Prop := fnExactRelLessRow.holds Try.pinned (OpenSpec.ofChange fnExactRelLessSpec)

/-- ITS FALSE NEIGHBOUR: 'it returns false'. Refute it at one input. -/
def fnExactRelLessWrong : ChangeSpec := { name := "fnExactRelLess", fn := fun _ => fun
  | [d1, d2] => { results := [.lit (.bool false)], args := [d1, d2] }
  | _ => none }
def FnExactRelLessWrongFalsely : Prop := fnExactRelLessRow.holds Try.pinned (OpenSpec.ofChange fnExactRelLessWrong)

/-- 'laws.FnExactRelWithout': WHATEVER THE INPUT: true; the input reads as it did. -/
def fnExactRelWithoutSpec : ChangeSpec := { name := "fnExactRelWithout", fn := fun _ => fun
  | [d1, d2, d3, d4] => { results := [.lit (.bool true)], args := [d1, d2, d3, d4] }
  | _ => none }
def fnExactRelWithoutRow : OpenClaim := { program := "ytchincemlilnoaa", sum := "f5e20d4d8bca30c45d7d4fdd156414bd2e9cfb54bc92a1bf2fa708e3dc925060", func := "loop.example/wholerules/laws.FnExactRelWithout", spec := "fnExactRelWithout", unfollowed := true, recurses := true, apart := false }
def FnExactRelWithoutSaid : Prop := fnExactRelWithoutRow.holds Try.pinned (OpenSpec.ofChange fnExactRelWithoutSpec)

/-- ITS FALSE NEIGHBOUR: 'it returns false'. Refute it at one input. -/
def fnExactRelWithoutWrong : ChangeSpec := { name := "fnExactRelWithout", fn := fun _ => fun
  | [d1, d2, d3, d4] => { results := [.lit (.bool false)], args := [d1, d2, d3, d4] }
  | _ => none }
def FnExactRelWithoutWrongFalsely : Prop := fnExactRelWithoutRow.holds Try.pinned (OpenSpec.ofChange fnExactRelWithoutWrong)

/- THE SECOND FORM. 'bulk': how many values and letters a reading holds, each counted each time it is reached (what is shared counts as often as it is met; a slice's spare places count too). A statement '..UptoSaid' is the law's where the arguments, and the package variables that the reading takes, are together of bulk at most 1048576: NARROWER than '..Said'. Prove '..Said' where nothing that the law and all that it calls make is longer than what came in: it says more and counts as full. Else prove '..UptoSaid'. A law counts once. -/
mutual
def uptoBulk {H : Type} : DataW H → Nat
  | .lit (.string bytes) => bytes.length + 1
  | .lit _ => 1
  | .nil => 1
  | .ptr d => uptoBulk d + 1
  | .slice elems spare => uptoBulkAll elems + uptoBulkAll spare + 1
  | .agg parts => uptoBulkAll parts + 1
  | .iface _ d => uptoBulk d + 1
  | .map entries => uptoBulkEntries entries + 1
  | .held _ => 1
def uptoBulkAll {H : Type} : List (DataW H) → Nat
  | [] => 0
  | d :: r => uptoBulk d + uptoBulkAll r
def uptoBulkEntries {H : Type} : List (Lit × DataW H) → Nat
  | [] => 0
  | x :: r => uptoBulkEntry x + uptoBulkEntries r
def uptoBulkEntry {H : Type} : Lit × DataW H → Nat
  | (.string bytes, d) => bytes.length + uptoBulk d + 1
  | (_, d) => uptoBulk d + 1
 end
def uptoSmall : (H : Type) → List (DataW H) → Bool := fun _ ds => decide (uptoBulkAll ds ≤ 1048576)
def OpenSpec.upto (s : _root_.Go.ChangeSpec) : _root_.Go.OpenSpec := { _root_.Go.OpenSpec.ofChange s with cond := some uptoSmall }

/-- 'laws.FnExactRelOk', WHERE WHAT IT READS IS OF BULK AT MOST 1048576: true; the input reads as it did. -/
def fnExactRelOkUptoRow : OpenClaim := { program := "ytchincemlilnoaa", sum := "f5e20d4d8bca30c45d7d4fdd156414bd2e9cfb54bc92a1bf2fa708e3dc925060", func := "loop.example/wholerules/laws.FnExactRelOk", spec := "fnExactRelOk", apart := false, narrowed := true }
def FnExactRelOkUptoSaid : Prop := fnExactRelOkUptoRow.holds Try.pinned (OpenSpec.upto fnExactRelOkSpec)

/-- 'laws.FnExactRelOf', WHERE WHAT IT READS IS OF BULK AT MOST 1048576: true; the input reads as it did. -/
def fnExactRelOfUptoRow : OpenClaim := { program := "ytchincemlilnoaa", sum := "f5e20d4d8bca30c45d7d4fdd156414bd2e9cfb54bc92a1bf2fa708e3dc925060", func := "loop.example/wholerules/laws.FnExactRelOf", spec := "fnExactRelOf", recurses := true, apart := false, narrowed := true }
def FnExactRelOfUptoSaid : Prop := fnExactRelOfUptoRow.holds Try.pinned (OpenSpec.upto fnExactRelOfSpec)

/-- 'laws.FnExactRelPick', WHERE WHAT IT READS IS OF BULK AT MOST 1048576: true; the input reads as it did. -/
def fnExactRelPickUptoRow : OpenClaim := { program := "ytchincemlilnoaa", sum := "f5e20d4d8bca30c45d7d4fdd156414bd2e9cfb54bc92a1bf2fa708e3dc925060", func := "loop.example/wholerules/laws.FnExactRelPick", spec := "fnExactRelPick", unfollowed := true, recurses := true, apart := false, narrowed := true }
def FnExactRelPickUptoSaid : Prop := fnExactRelPickUptoRow.holds Try.pinned (OpenSpec.upto fnExactRelPickSpec)

/-- 'laws.FnExactRelSame', WHERE WHAT IT READS IS OF BULK AT MOST 1048576: true; the input reads as it did. -/
def fnExactRelSameUptoRow : OpenClaim := { program := "ytchincemlilnoaa", sum := "f5e20d4d8bca30c45d7d4fdd156414bd2e9cfb54bc92a1bf2fa708e3dc925060", func := "loop.example/wholerules/laws.FnExactRelSame", spec := "fnExactRelSame", unfollowed := true, recurses := true, apart := false, narrowed := true }
def FnExactRelSameUptoSaid : Prop := fnExactRelSameUptoRow.holds Try.pinned (OpenSpec.upto fnExactRelSameSpec)

/-- 'laws.FnExactRelTake', WHERE WHAT IT READS IS OF BULK AT MOST 1048576: true; the input reads as it did. -/
def fnExactRelTakeUptoRow : OpenClaim := { program := "ytchincemlilnoaa", sum := "f5e20d4d8bca30c45d7d4fdd156414bd2e9cfb54bc92a1bf2fa708e3dc925060", func := "loop.example/wholerules/laws.FnExactRelTake", spec := "fnExactRelTake", recurses := true, apart := false, narrowed := true }
def FnExactRelTakeUptoSaid : Prop := fnExactRelTakeUptoRow.holds Try.pinned (OpenSpec.upto fnExactRelTakeSpec)

/-- 'laws.FnExactRelTimes', WHERE WHAT IT READS IS OF BULK AT MOST 1048576: true; the input reads as it did. -/
def fnExactRelTimesUptoRow : OpenClaim := { program := "ytchincemlilnoaa", sum := "f5e20d4d8bca30c45d7d4fdd156414bd2e9cfb54bc92a1bf2fa708e3dc925060", func := "loop.example/wholerules/laws.FnExactRelTimes", spec := "fnExactRelTimes", apart := false, narrowed := true }
def FnExactRelTimesUptoSaid : Prop := fnExactRelTimesUptoRow.holds Try.pinned (OpenSpec.upto fnExactRelTimesSpec)

/-- 'laws.FnExactRelJoin', WHERE WHAT IT READS IS OF BULK AT MOST 1048576: true; the input reads as it did. -/
def fnExactRelJoinUptoRow : OpenClaim := { program := "ytchincemlilnoaa", sum := "f5e20d4d8bca30c45d7d4fdd156414bd2e9cfb54bc92a1bf2fa708e3dc925060", func := "loop.example/wholerules/laws.FnExactRelJoin", spec := "fnExactRelJoin", apart := false, narrowed := true }
def FnExactRelJoinUptoSaid : Prop := fnExactRelJoinUptoRow.holds Try.pinned (OpenSpec.upto fnExactRelJoinSpec)

/-- 'laws.FnExactRelEither', WHERE WHAT IT READS IS OF BULK AT MOST 1048576: true; the input reads as it did. -/
def fnExactRelEitherUptoRow : OpenClaim := { program := "ytchincemlilnoaa", sum := "f5e20d4d8bca30c45d7d4fdd156414bd2e9cfb54bc92a1bf2fa708e3dc925060", func := "loop.example/wholerules/laws.FnExactRelEither", spec := "fnExactRelEither", recurses := true, apart := false, narrowed := true }
def FnExactRelEitherUptoSaid : Prop := fnExactRelEitherUptoRow.holds Try.pinned (OpenSpec.upto fnExactRelEitherSpec)

/-- 'laws.FnExactRelLess', WHERE WHAT IT READS IS OF BULK AT MOST 1048576: true; the input reads as it did. -/
def fnExactRelLessUptoRow : OpenClaim := { program := "ytchincemlilnoaa", sum := "f5e20d4d8bca30c45d7d4fdd156414bd2e9cfb54bc92a1bf2fa708e3dc925060", func := "loop.example/wholerules/laws.FnExactRelLess", spec := "fnExactRelLess", unfollowed := true, recurses := true, apart := false, narrowed := true }
def FnExactRelLessUptoSaid : Prop := fnExactRelLessUptoRow.holds Try.pinned (OpenSpec.upto fnExactRelLessSpec)

/-- 'laws.FnExactRelWithout', WHERE WHAT IT READS IS OF BULK AT MOST 1048576: true; the input reads as it did. -/
def fnExactRelWithoutUptoRow : OpenClaim := { program := "ytchincemlilnoaa", sum := "f5e20d4d8bca30c45d7d4fdd156414bd2e9cfb54bc92a1bf2fa708e3dc925060", func := "loop.example/wholerules/laws.FnExactRelWithout", spec := "fnExactRelWithout", unfollowed := true, recurses := true, apart := false, narrowed := true }
def FnExactRelWithoutUptoSaid : Prop := fnExactRelWithoutUptoRow.holds Try.pinned (OpenSpec.upto fnExactRelWithoutSpec)

end Rows
end Go.Proofs.Ytchincemlilnoaa
